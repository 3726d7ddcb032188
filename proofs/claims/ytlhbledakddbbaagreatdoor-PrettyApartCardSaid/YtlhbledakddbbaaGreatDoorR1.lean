/- Two statements are the same: the document's. -/
import Derived.Test.YtlhbledakddbbaaGreatDoorQ5
import Derived.Deep.RegionHeld
import Derived.Deep.RegionHeld3
import Derived.WalkMore
import Derived.Deep.CutBlock
import Derived.Deep.CutRange
namespace Go.Proofs.YtlhbledakddbbaaGreatDoor
open Go.RowKit

structure PairS (A1 A2 : Array Value) (u v : Nat) (w W : World) : Prop where
  bel : Below w.heap.size w W
  x : W.rangeAt u 0 A1.toList
  y : W.rangeAt v 0 A2.toList
  lu : u < W.heap.size
  lv : v < W.heap.size
theorem below_setCells {N b : Nat} {a : World} (hb : N ≤ b) : ∀ (vs : List Value) (o : Nat) (w : World), Below N a w → Below N a (w.setCells b o vs)
  | [], _, _, h => h
  | v :: vs, o, _w, h => below_setCells hb vs (o + 1) _ (h.setCell hb v)
theorem size_setCells (b : Nat) : ∀ (vs : List Value) (o : Nat) (w : World), (w.setCells b o vs).heap.size = w.heap.size
  | [], _, _ => rfl
  | v :: vs, o, w => by rw [World.setCells, size_setCells b vs (o + 1)]; simp
theorem pair_of {A1 A2 : Array Value} {u v : Nat} {w W : World} (huv : u ≠ v) (tu : W.there u 0 A1.size) (tv : W.there v 0 A2.size) (hB : Below w.heap.size w W) (hu : w.heap.size ≤ u) (hv : w.heap.size ≤ v) (lu : u < W.heap.size) (lv : v < W.heap.size) :
    PairS A1 A2 u v w ((W.setCells u 0 A1.toList).setCells v 0 A2.toList) :=
  ⟨below_setCells hv _ _ _ (below_setCells hu _ _ _ hB),
   World.rangeAt_setCells_apart (World.rangeAt_setCells_same _ _ _ _ (by simpa using tu)) _ _ _ (.inl huv),
   World.rangeAt_setCells_same _ _ _ _ (World.there_setCells (by simpa using tv) _ _ _), by rw [size_setCells, size_setCells]; exact lu, by rw [size_setCells, size_setCells]; exact lv⟩
theorem there_new2 (w : World) (Z : Array Value) (t : TypeId) : (((w.alloc (.cells Z t)).alloc (.cells Z t)).drew).there w.heap.size 0 Z.size ∧ (((w.alloc (.cells Z t)).alloc (.cells Z t)).drew).there (w.heap.size + 1) 0 Z.size := by
  constructor
  · intro j hj
    rw [Nat.zero_add]
    refine ⟨?_, by simp [go_sem]⟩
    rw [show (((w.alloc (.cells Z t)).alloc (.cells Z t)).drew).cell? ⟨w.heap.size, j, none⟩ = Z[j]? by simp [go_sem], Array.getElem?_eq_getElem hj]; rfl
  · intro j hj
    rw [Nat.zero_add]
    refine ⟨?_, by simp [go_sem]⟩
    rw [show (((w.alloc (.cells Z t)).alloc (.cells Z t)).drew).cell? ⟨w.heap.size + 1, j, none⟩ = Z[j]? by simp [go_sem], Array.getElem?_eq_getElem hj]; rfl
abbrev zeroSt : Array Value := #[.int .i64 0, .string ⟨#[]⟩, .slice none 0 0, .int .i64 0, .int .u64 0, .string ⟨#[]⟩, .slice none 0 0, .int .i64 0, .int .u64 0, .string ⟨#[]⟩, .slice none 0 0, .slice none 0 0, .int .u64 0, .int .u64 0, .slice none 0 0, .slice none 0 0]
def RSS (n : Nat) : Prop := ∀ l m : Sts, l.size < n → ∀ (p q : Option Addr) (c d N : Nat) (w : World), l.In w N p → m.In w N q → N ≤ w.heap.size →
    Calls Tryz.prog 24 #[.slice p l.len c, .slice q m.len d] w fun e w' => e = .returned (.bool (eqB l m)) ∧ Below w.heap.size w w'
set_option maxRecDepth 100000 in
set_option maxHeartbeats 12800000 in
theorem rss_step (n : Nat) (ih : RSS n) : RSS (n + 1) := by
  intro l m hsz p p' ca cb N w h1 h2 hN
  have hls : ∀ x ∈ l.toL, x.size < n := fun x hx => by have := Sts.toL_size hx; omega
  replace h1 := Sts.rowIn h1
  replace h2 := Sts.rowIn h2
  rw [Sts.toL_len, Sts.toL_len, ← eqB_sts]
  generalize l.toL = xs at h1 hls ⊢
  generalize m.toL = ys at h2 ⊢
  have HLS := Lib.hid hls
  have S1 := Lib.hid h1
  have S2 := Lib.hid h2
  have hm1 := h1.1
  have hm2 := h2.1
  clear h1 h2 hls
  by_cases hl : xs.length = ys.length
  · have HL := Lib.hid hl
    have hl' : ((xs.length : Int) != (ys.length : Int)) = false := by simp [hl]
    clear hl
    go_enter Tryz.func24, Tryz.ntmps24
    go_wp2_with fail
    go_loopw [5] (fun i wr => ∃ (ds rs rs' : List St), i = .int .i64 ds.length ∧ Hid (xs = ds ++ rs) ∧ Hid (ys = ds ++ rs') ∧ ds.length + rs.length = xs.length ∧ rs'.length = rs.length ∧ Hid (Below w.heap.size w wr)) (fun i _ => xs.length - (intOf i).toNat)
    case atStart => exact ⟨[], xs, ys, rfl, Lib.hid rfl, Lib.hid rfl, by simp, by have := HL.out; omega, Lib.hid (Below.refl _ _)⟩
    case round =>
      obtain ⟨ds, rs, rs', rfl, E1, E2, hd1, hd2, hB⟩ := hrel
      cases rs with
      | nil =>
        cases rs' with
        | cons _ _ => simp at hd2
        | nil =>
          simp only [List.length_nil] at hd1
          have hge : ¬ ds.length < xs.length := by omega
          have EQ := Lib.hid (eqB_true (show xs = ys by rw [E1.out, E2.out]))
          go_wp2_with fail
          go_ret
          exact ⟨ret_bool EQ.out, hB.out⟩
      | cons y1 rs =>
        cases rs' with
        | nil => simp at hd2
        | cons y2 rs' =>
          simp only [List.length_cons] at hd1 hd2
          have hlt1 : ds.length < xs.length := by omega
          have hlt2 : ds.length < ys.length := by have := HL.out; omega
          rcases S1.out.2 with h30 | ⟨b1, o1, rfl, hb1, ha1⟩
          · omega
          rcases S2.out.2 with h30 | ⟨b2, o2, rfl, hb2, ha2⟩
          · omega
          rw [E1.out] at ha1
          rw [E2.out] at ha2
          obtain ⟨s1, c1, ok1⟩ := St.At.openP (St.At.later ((hB.out).mono hN) (Nat.le_trans hN hB.out.size) y1 b1 _ hb1 (Row.drop _ _ _ ha1).1)
          obtain ⟨s2, c2, ok2⟩ := St.At.openP (St.At.later ((hB.out).mono hN) (Nat.le_trans hN hB.out.size) y2 b2 _ hb2 (Row.drop _ _ _ ha2).1)
          obtain ⟨A1, hA1⟩ : ∃ A1, y1.cells s1 = A1 := ⟨_, rfl⟩
          obtain ⟨A2, hA2⟩ : ∃ A2, y2.cells s2 = A2 := ⟨_, rfl⟩
          have HA := Lib.hid (And.intro hA1 hA2)
          have HK := Lib.hid (And.intro ok1 ok2)
          have HZ1 := Lib.hid (show A1.size = 16 by rw [← hA1]; rfl)
          have HZ2 := Lib.hid (show A2.size = 16 by rw [← hA2]; rfl)
          have HO1 := Lib.hid (show A1.all (·.oneCell') = true by rw [← hA1]; exact oneSt _ _)
          have HO2 := Lib.hid (show A2.all (·.oneCell') = true by rw [← hA2]; exact oneSt _ _)
          have F1 := Lib.hid (show wr.rangeAt b1 (o1 + ds.length * 16) A1.toList from fun j v hv => c1 j v (by rw [hA1, ← Array.getElem?_toList]; exact hv))
          have F2 := Lib.hid (show wr.rangeAt b2 (o2 + ds.length * 16) A2.toList from fun j v hv => c2 j v (by rw [hA2, ← Array.getElem?_toList]; exact hv))
          have HI1 := Lib.hid (infoSt.trans (by rw [HZ1.out]) : (Tryz.prog.info? 54).map (·.size) = some A1.size)
          have HI2 := Lib.hid (infoSt.trans (by rw [HZ2.out]) : (Tryz.prog.info? 54).map (·.size) = some A2.size)
          have hbl1 : b1 < wr.heap.size := by have := hB.out.size; omega
          have hbl2 : b2 < wr.heap.size := by have := hB.out.size; omega
          have TH1 := Lib.hid (there_new2 wr zeroSt 54).1
          have TH2 := Lib.hid (there_new2 wr zeroSt 54).2
          have HBW := Lib.hid (((Below.refl _ wr).alloc (Nat.le_refl _) (.cells zeroSt 54)).alloc (by simp) (.cells zeroSt 54)).drew
          clear c1 c2 ha1 ha2 hA1 hA2 ok1 ok2
          go_upto_region 6 with fail
          go_cut [6, 7] from 19 to 26 (fun s6 s7 wx => ∃ u v : Nat, s6 = .pointer (some ⟨u, 0, none⟩) ∧ s7 = .pointer (some ⟨v, 0, none⟩) ∧ Hid (PairS A1 A2 u v wr wx))
          case first =>
            refine wp_region_held_drew (S := fun W => W.rangeAt b1 (o1 + ds.length * 16) A1.toList ∧ W.rangeAt b2 (o2 + ds.length * 16) A2.toList) (by kernel_rfl) ?_ (fun hHeld => ?_)
            · exact ⟨range_later F1.out hbl1 (Below.refl _ _).drew, range_later F2.out hbl2 (Below.refl _ _).drew⟩
            refine wpAnyH_take (i := 0) (oi := { dst := Option.some 19, op := Go.Op.move (Go.Operand.tmp 0), type := 47, pos := "ref.go:375", after := #[], guard := Option.none }) (v := ?_) rfl (by kernel_rfl) (by kernel_rfl) (by kernel_rfl) (fun _ _ _ h => h) (Or.inl ⟨by rfl, ?_⟩) (by assumption) ?_
            rotate_left
            · (intro w hSw; (try dsimp only at hSw); go_simp; try with_reducible rfl)
            try simp only [Act.put, List.setIfInBounds_toArray, List.set_cons_zero, List.set_cons_succ]
            refine wpAnyH_take (i := 1) (oi := { dst := Option.some 20, op := Go.Op.move (Go.Operand.tmp 5), type := 3, pos := "ref.go:375", after := #[], guard := Option.none }) (v := ?_) rfl (by kernel_rfl) (by kernel_rfl) (by kernel_rfl) (fun _ _ _ h => h) (Or.inl ⟨by rfl, ?_⟩) (by assumption) ?_
            rotate_left
            · (intro w hSw; (try dsimp only at hSw); go_simp; try with_reducible rfl)
            try simp only [Act.put, List.setIfInBounds_toArray, List.set_cons_zero, List.set_cons_succ]
            refine wpAnyH_take (i := 2) (oi := { dst := Option.some 21, op := Go.Op.indexAddr 47 (Go.Operand.tmp 19) (Go.Operand.tmp 20), type := 0, pos := "ref.go:375", after := #[{ on := 0, ground := Go.Ground.data }, { on := 1, ground := Go.Ground.data }], guard := Option.none }) (v := ?_) rfl (by kernel_rfl) (by kernel_rfl) (by kernel_rfl) (fun _ _ _ h => h) (Or.inl ⟨by rfl, ?_⟩) (by assumption) ?_
            rotate_left
            · (intro w hSw; (try dsimp only at hSw); go_simp; try with_reducible rfl)
            try simp only [Act.put, List.setIfInBounds_toArray, List.set_cons_zero, List.set_cons_succ]
            refine wpAnyH_take (i := 3) (oi := { dst := Option.some 22, op := Go.Op.load 54 (Go.Operand.tmp 21), type := 54, pos := "ref.go:375", after := #[{ on := 2, ground := Go.Ground.data }], guard := Option.none }) (v := .agg A1) rfl (by kernel_rfl) (by kernel_rfl) (by kernel_rfl) (fun _ _ _ h => h) (yieldsIf_load_mid (by rfl) 54 _ rfl b1 (o1 + ds.length * 16) (by rfl) A1.toList _ (fun _ h => h.1) Tryz.underlying54 rfl (by rw [HI1.out]; simp)) (by assumption) ?_
            try simp only [Act.put, List.setIfInBounds_toArray, List.set_cons_zero, List.set_cons_succ]
            refine wpAnyH_take (i := 4) (oi := { dst := Option.some 23, op := Go.Op.move (Go.Operand.tmp 1), type := 47, pos := "ref.go:375", after := #[{ on := 10, ground := Go.Ground.gcOnly Go.Departure.lateStores }], guard := Option.none }) (v := ?_) rfl (by kernel_rfl) (by kernel_rfl) (by kernel_rfl) (fun _ _ _ h => h) (Or.inl ⟨by rfl, ?_⟩) (by assumption) ?_
            rotate_left
            · (intro w hSw; (try dsimp only at hSw); go_simp; try with_reducible rfl)
            try simp only [Act.put, List.setIfInBounds_toArray, List.set_cons_zero, List.set_cons_succ]
            refine wpAnyH_take (i := 5) (oi := { dst := Option.some 24, op := Go.Op.move (Go.Operand.tmp 5), type := 3, pos := "ref.go:375", after := #[{ on := 10, ground := Go.Ground.gcOnly Go.Departure.lateStores }], guard := Option.none }) (v := ?_) rfl (by kernel_rfl) (by kernel_rfl) (by kernel_rfl) (fun _ _ _ h => h) (Or.inl ⟨by rfl, ?_⟩) (by assumption) ?_
            rotate_left
            · (intro w hSw; (try dsimp only at hSw); go_simp; try with_reducible rfl)
            try simp only [Act.put, List.setIfInBounds_toArray, List.set_cons_zero, List.set_cons_succ]
            refine wpAnyH_take (i := 6) (oi := { dst := Option.some 25, op := Go.Op.indexAddr 47 (Go.Operand.tmp 23) (Go.Operand.tmp 24), type := 0, pos := "ref.go:375", after := #[{ on := 4, ground := Go.Ground.data }, { on := 5, ground := Go.Ground.data }, { on := 10, ground := Go.Ground.gcOnly Go.Departure.lateStores }], guard := Option.none }) (v := ?_) rfl (by kernel_rfl) (by kernel_rfl) (by kernel_rfl) (fun _ _ _ h => h) (Or.inl ⟨by rfl, ?_⟩) (by assumption) ?_
            rotate_left
            · (intro w hSw; (try dsimp only at hSw); go_simp; try with_reducible rfl)
            try simp only [Act.put, List.setIfInBounds_toArray, List.set_cons_zero, List.set_cons_succ]
            refine wpAnyH_take (i := 7) (oi := { dst := Option.some 26, op := Go.Op.load 54 (Go.Operand.tmp 25), type := 54, pos := "ref.go:375", after := #[{ on := 6, ground := Go.Ground.data }, { on := 10, ground := Go.Ground.gcOnly Go.Departure.lateStores }], guard := Option.none }) (v := .agg A2) rfl (by kernel_rfl) (by kernel_rfl) (by kernel_rfl) (fun _ _ _ h => h) (yieldsIf_load_mid (by rfl) 54 _ rfl b2 (o2 + ds.length * 16) (by rfl) A2.toList _ (fun _ h => h.2) Tryz.underlying54 rfl (by rw [HI2.out]; simp)) (by assumption) ?_
            try simp only [Act.put, List.setIfInBounds_toArray, List.set_cons_zero, List.set_cons_succ]
            refine wpAnyH_ready (rs := [8, 9]) (by kernel_rfl) (by simp) ?_
            refine AllReadyH.cons (o := { dst := Option.some 6, op := Go.Op.alloc 54, type := 0, pos := "ref.go:375", after := #[], guard := Option.none }) rfl (fun K hK => ?_) (AllReadyH.cons (o := { dst := Option.some 7, op := Go.Op.alloc 54, type := 0, pos := "ref.go:375", after := #[], guard := Option.none }) rfl (fun K hK => ?_) AllReadyH.nil)
            · go_simp
              refine hK.out _ _ ?_ (fun hHeld => ?_)
              · exact ⟨range_later hHeld.1 (by simp; omega) ((Below.refl _ _).alloc (Nat.le_refl _) _), range_later hHeld.2 (by simp; omega) ((Below.refl _ _).alloc (Nat.le_refl _) _)⟩
              clear hK K
              try simp only [Act.put, List.setIfInBounds_toArray, List.set_cons_zero, List.set_cons_succ]
              refine wpAnyH_ready (rs := [9]) (by kernel_rfl) (by simp) ?_
              refine AllReadyH.cons (o := { dst := Option.some 7, op := Go.Op.alloc 54, type := 0, pos := "ref.go:375", after := #[], guard := Option.none }) rfl (fun K hK => ?_) AllReadyH.nil
              go_simp
              refine hK.out _ _ ?_ (fun hHeld => ?_)
              · exact ⟨range_later hHeld.1 (by simp; omega) ((Below.refl _ _).alloc (Nat.le_refl _) _), range_later hHeld.2 (by simp; omega) ((Below.refl _ _).alloc (Nat.le_refl _) _)⟩
              clear hK K
              try simp only [Act.put, List.setIfInBounds_toArray, List.set_cons_zero, List.set_cons_succ]
              refine wpAnyH_ready (rs := [10]) (by kernel_rfl) (by simp) ?_
              refine AllReadyH.cons (o := { dst := Option.none, op := Go.Op.store 54 (Go.Operand.tmp 6) (Go.Operand.tmp 22), type := 0, pos := "ref.go:375", after := #[{ on := 8, ground := Go.Ground.data }, { on := 3, ground := Go.Ground.data }, { on := 0, ground := Go.Ground.phase }, { on := 1, ground := Go.Ground.phase }, { on := 2, ground := Go.Ground.phase }, { on := 3, ground := Go.Ground.phase }, { on := 4, ground := Go.Ground.textOnly Go.Departure.lateStores }, { on := 5, ground := Go.Ground.textOnly Go.Departure.lateStores }, { on := 6, ground := Go.Ground.textOnly Go.Departure.lateStores }, { on := 7, ground := Go.Ground.textOnly Go.Departure.lateStores }, { on := 8, ground := Go.Ground.phase }, { on := 9, ground := Go.Ground.phase }], guard := Option.none }) rfl (fun K hK => ?_) AllReadyH.nil
              rw [if_pos (by rfl)]
              refine wp_store_mid 54 _ _ rfl (wr.heap.size) 0 A1 (by rfl) (by rfl) (by rw [HZ1.out]; exact TH1.out) HI1.out HO1.out ?_
              refine hK.out _ _ ?_ (fun hHeld => ?_)
              · exact ⟨World.rangeAt_setCells_apart hHeld.1 _ _ _ (.inl (by omega)), World.rangeAt_setCells_apart hHeld.2 _ _ _ (.inl (by omega))⟩
              clear hK K
              try simp only [Act.put]
              refine wpAnyH_ready (rs := [11]) (by kernel_rfl) (by simp) ?_
              refine AllReadyH.cons (o := { dst := Option.none, op := Go.Op.store 54 (Go.Operand.tmp 7) (Go.Operand.tmp 26), type := 0, pos := "ref.go:375", after := #[{ on := 9, ground := Go.Ground.data }, { on := 7, ground := Go.Ground.data }, { on := 10, ground := Go.Ground.chain }, { on := 0, ground := Go.Ground.phase }, { on := 1, ground := Go.Ground.phase }, { on := 2, ground := Go.Ground.phase }, { on := 3, ground := Go.Ground.phase }, { on := 4, ground := Go.Ground.phase }, { on := 5, ground := Go.Ground.phase }, { on := 6, ground := Go.Ground.phase }, { on := 7, ground := Go.Ground.phase }, { on := 8, ground := Go.Ground.phase }, { on := 9, ground := Go.Ground.phase }, { on := 10, ground := Go.Ground.phase }], guard := Option.none }) rfl (fun K hK => ?_) AllReadyH.nil
              rw [if_pos (by rfl)]
              refine wp_store_mid 54 _ _ rfl (wr.heap.size + 1) 0 A2 (by rfl) (by rfl) (World.there_setCells (by rw [HZ2.out]; exact TH2.out) _ _ _) HI2.out HO2.out ?_
              refine hK.out _ _ ?_ (fun hHeld => ?_)
              · exact ⟨World.rangeAt_setCells_apart hHeld.1 _ _ _ (.inl (by omega)), World.rangeAt_setCells_apart hHeld.2 _ _ _ (.inl (by omega))⟩
              clear hK K
              try simp only [Act.put]
              refine wpAnyH_done (by kernel_rfl) ?_ _
              go_wp2_with fail
              go_meet
              exact ⟨wr.heap.size, wr.heap.size + 1, rfl, rfl, Lib.hid (pair_of (by omega) (by rw [HZ1.out]; exact TH1.out) (by rw [HZ2.out]; exact TH2.out) HBW.out (by omega) (by omega) (by simp <;> omega) (by simp <;> omega))⟩
            · go_simp
              refine hK.out _ _ ?_ (fun hHeld => ?_)
              · exact ⟨range_later hHeld.1 (by simp; omega) ((Below.refl _ _).alloc (Nat.le_refl _) _), range_later hHeld.2 (by simp; omega) ((Below.refl _ _).alloc (Nat.le_refl _) _)⟩
              clear hK K
              try simp only [Act.put, List.setIfInBounds_toArray, List.set_cons_zero, List.set_cons_succ]
              refine wpAnyH_ready (rs := [8]) (by kernel_rfl) (by simp) ?_
              refine AllReadyH.cons (o := { dst := Option.some 6, op := Go.Op.alloc 54, type := 0, pos := "ref.go:375", after := #[], guard := Option.none }) rfl (fun K hK => ?_) AllReadyH.nil
              go_simp
              refine hK.out _ _ ?_ (fun hHeld => ?_)
              · exact ⟨range_later hHeld.1 (by simp; omega) ((Below.refl _ _).alloc (Nat.le_refl _) _), range_later hHeld.2 (by simp; omega) ((Below.refl _ _).alloc (Nat.le_refl _) _)⟩
              clear hK K
              try simp only [Act.put, List.setIfInBounds_toArray, List.set_cons_zero, List.set_cons_succ]
              refine wpAnyH_ready (rs := [10]) (by kernel_rfl) (by simp) ?_
              refine AllReadyH.cons (o := { dst := Option.none, op := Go.Op.store 54 (Go.Operand.tmp 6) (Go.Operand.tmp 22), type := 0, pos := "ref.go:375", after := #[{ on := 8, ground := Go.Ground.data }, { on := 3, ground := Go.Ground.data }, { on := 0, ground := Go.Ground.phase }, { on := 1, ground := Go.Ground.phase }, { on := 2, ground := Go.Ground.phase }, { on := 3, ground := Go.Ground.phase }, { on := 4, ground := Go.Ground.textOnly Go.Departure.lateStores }, { on := 5, ground := Go.Ground.textOnly Go.Departure.lateStores }, { on := 6, ground := Go.Ground.textOnly Go.Departure.lateStores }, { on := 7, ground := Go.Ground.textOnly Go.Departure.lateStores }, { on := 8, ground := Go.Ground.phase }, { on := 9, ground := Go.Ground.phase }], guard := Option.none }) rfl (fun K hK => ?_) AllReadyH.nil
              rw [if_pos (by rfl)]
              refine wp_store_mid 54 _ _ rfl (wr.heap.size + 1) 0 A1 (by rfl) (by rfl) (by rw [HZ1.out]; exact TH2.out) HI1.out HO1.out ?_
              refine hK.out _ _ ?_ (fun hHeld => ?_)
              · exact ⟨World.rangeAt_setCells_apart hHeld.1 _ _ _ (.inl (by omega)), World.rangeAt_setCells_apart hHeld.2 _ _ _ (.inl (by omega))⟩
              clear hK K
              try simp only [Act.put]
              refine wpAnyH_ready (rs := [11]) (by kernel_rfl) (by simp) ?_
              refine AllReadyH.cons (o := { dst := Option.none, op := Go.Op.store 54 (Go.Operand.tmp 7) (Go.Operand.tmp 26), type := 0, pos := "ref.go:375", after := #[{ on := 9, ground := Go.Ground.data }, { on := 7, ground := Go.Ground.data }, { on := 10, ground := Go.Ground.chain }, { on := 0, ground := Go.Ground.phase }, { on := 1, ground := Go.Ground.phase }, { on := 2, ground := Go.Ground.phase }, { on := 3, ground := Go.Ground.phase }, { on := 4, ground := Go.Ground.phase }, { on := 5, ground := Go.Ground.phase }, { on := 6, ground := Go.Ground.phase }, { on := 7, ground := Go.Ground.phase }, { on := 8, ground := Go.Ground.phase }, { on := 9, ground := Go.Ground.phase }, { on := 10, ground := Go.Ground.phase }], guard := Option.none }) rfl (fun K hK => ?_) AllReadyH.nil
              rw [if_pos (by rfl)]
              refine wp_store_mid 54 _ _ rfl (wr.heap.size) 0 A2 (by rfl) (by rfl) (World.there_setCells (by rw [HZ2.out]; exact TH1.out) _ _ _) HI2.out HO2.out ?_
              refine hK.out _ _ ?_ (fun hHeld => ?_)
              · exact ⟨World.rangeAt_setCells_apart hHeld.1 _ _ _ (.inl (by omega)), World.rangeAt_setCells_apart hHeld.2 _ _ _ (.inl (by omega))⟩
              clear hK K
              try simp only [Act.put]
              refine wpAnyH_done (by kernel_rfl) ?_ _
              go_wp2_with fail
              go_meet
              exact ⟨wr.heap.size + 1, wr.heap.size, rfl, rfl, Lib.hid (pair_of (by omega) (by rw [HZ1.out]; exact TH2.out) (by rw [HZ2.out]; exact TH1.out) HBW.out (by omega) (by omega) (by simp <;> omega) (by simp <;> omega))⟩
          case rest =>
            obtain ⟨u, v, rfl, rfl, hP⟩ := hcut
            obtain ⟨kd, nm, ns, e, a, g, lo, hi, bd, el⟩ := y1
            obtain ⟨kd', nm', ns', e', a', g', lo', hi', bd', el'⟩ := y2
            have hsb := HLS.out _ (by rw [E1.out]; exact List.mem_append_right _ (List.mem_cons_self ..))
            simp only [St.size] at hsb
            have NE := Lib.hid (show xs = ys → ¬ (¬ St.mk kd nm ns e a g lo hi bd el = St.mk kd' nm' ns' e' a' g' lo' hi' bd' el') from fun e h => by
              rw [E1.out, E2.out] at e
              have := List.append_cancel_left e
              injection this with e6 _
              exact h e6)
            have HX := Lib.hid (show ∀ w1, Below wc.heap.size wc w1 → ∀ j v, (#[.int .i64 kd, .string (str nm), .slice s1.pn ns.length s1.cn, .int .i64 e.op, .int .u64 (e.word : Int), .string (str e.name), .slice s1.pe e.args.len s1.ce, .int .i64 a.op, .int .u64 (a.word : Int), .string (str a.name), .slice s1.pa a.args.len s1.ca, .slice s1.pg g.len s1.cg, .int .u64 (lo : Int), .int .u64 (hi : Int), .slice s1.pb bd.len s1.cb, .slice s1.pl el.len s1.cl] : Array Value)[j]? = some v → w1.cell? ⟨u, j, none⟩ = some v from fun w1 hb j z hz => (hb.cell hP.out.lu).trans (by have := hP.out.x j z (by rw [← HA.out.1, Array.getElem?_toList]; exact hz); rw [Nat.zero_add] at this; exact this))
            have HY := Lib.hid (show ∀ w1, Below wc.heap.size wc w1 → ∀ j v', (#[.int .i64 kd', .string (str nm'), .slice s2.pn ns'.length s2.cn, .int .i64 e'.op, .int .u64 (e'.word : Int), .string (str e'.name), .slice s2.pe e'.args.len s2.ce, .int .i64 a'.op, .int .u64 (a'.word : Int), .string (str a'.name), .slice s2.pa a'.args.len s2.ca, .slice s2.pg g'.len s2.cg, .int .u64 (lo' : Int), .int .u64 (hi' : Int), .slice s2.pb bd'.len s2.cb, .slice s2.pl el'.len s2.cl] : Array Value)[j]? = some v' → w1.cell? ⟨v, j, none⟩ = some v' from fun w1 hb j z hz => (hb.cell hP.out.lv).trans (by have := hP.out.y j z (by rw [← HA.out.2, Array.getElem?_toList]; exact hz); rw [Nat.zero_add] at this; exact this))
            have HB0 := Lib.hid hP.out.bel
            have HD0 := Lib.hid (Below.refl wc.heap.size wc)
            have Hns := Lib.hid (fun (w1 : World) (hb : Below wr.heap.size wr w1) => rNames_any ns ns' s1.pn s2.pn s1.cn s2.cn wr.heap.size w1 (HK.out.1.1.2.imp (Nat.le_refl _) (StrAt.later hb)) (HK.out.2.1.2.imp (Nat.le_refl _) (StrAt.later hb)) hb.size)
            have He := Lib.hid (fun (w1 : World) (hb : Below wr.heap.size wr w1) => rse_any e e' s1.pe s2.pe s1.ce s2.ce wr.heap.size w1 (HK.out.1.2.1.later hb (Nat.le_refl _)) (HK.out.2.2.1.later hb (Nat.le_refl _)) hb.size)
            have Ha := Lib.hid (fun (w1 : World) (hb : Below wr.heap.size wr w1) => rse_any a a' s1.pa s2.pa s1.ca s2.ca wr.heap.size w1 (HK.out.1.2.2.1.later hb (Nat.le_refl _)) (HK.out.2.2.2.1.later hb (Nat.le_refl _)) hb.size)
            have Hg := Lib.hid (fun (w1 : World) (hb : Below wr.heap.size wr w1) => rse_list g g' s1.pg s2.pg s1.cg s2.cg wr.heap.size w1 (Exs.In.later HK.out.1.2.2.2.1 hb (Nat.le_refl _)) (Exs.In.later HK.out.2.2.2.2.1 hb (Nat.le_refl _)) hb.size)
            have Hbd := Lib.hid (fun (w1 : World) (hb : Below wr.heap.size wr w1) => ih bd bd' (by omega) s1.pb s2.pb s1.cb s2.cb wr.heap.size w1 (Sts.In.later HK.out.1.2.2.2.2.1 hb (Nat.le_refl _)) (Sts.In.later HK.out.2.2.2.2.2.1 hb (Nat.le_refl _)) hb.size)
            have Hel := Lib.hid (fun (w1 : World) (hb : Below wr.heap.size wr w1) => ih el el' (by omega) s1.pl s2.pl s1.cl s2.cl wr.heap.size w1 (Sts.In.later HK.out.1.2.2.2.2.2.1 hb (Nat.le_refl _)) (Sts.In.later HK.out.2.2.2.2.2.2.1 hb (Nat.le_refl _)) hb.size)
            unfold Ex.val at He Ha
            clear hP HK HA TH1 TH2 HBW HI1 HI2 F1 F2 HO1 HO2 HZ1 HZ2 ih hsb HLS S1 S2
            by_cases hvkd : kd = kd'
            · have Ekd := Lib.hid hvkd
              skip
              subst hvkd
              by_cases hvnm : nm = nm'
              · have Enm := Lib.hid hvnm
                have Tnm := str_beq_eq nm
                subst hvnm
                by_cases hvlo : lo = lo'
                · have Elo := Lib.hid hvlo
                  skip
                  subst hvlo
                  by_cases hvhi : hi = hi'
                  · have Ehi := Lib.hid hvhi
                    skip
                    subst hvhi
                    cases hvns : eqB ns ns' with
                    | false =>
                      have Fns := Lib.hid (eqB_of_false hvns)
                      have HV := Lib.hid (eqB_false (show ¬ xs = ys from fun h => NE.out h fun h => Fns.out (by injection h)))
                      rw [hvns] at Hns
                      clear hvns
                      have gx0_0 : wc.cell? ⟨u, 0, none⟩ = some (.int .i64 kd) := HX.out _ (Below.refl _ _) 0 _ rfl
                      have gy0_0 : wc.cell? ⟨v, 0, none⟩ = some (.int .i64 kd) := HY.out _ (Below.refl _ _) 0 _ rfl
                      have gx0_1 : wc.cell? ⟨u, 1, none⟩ = some (.string (str nm)) := HX.out _ (Below.refl _ _) 1 _ rfl
                      have gy0_1 : wc.cell? ⟨v, 1, none⟩ = some (.string (str nm)) := HY.out _ (Below.refl _ _) 1 _ rfl
                      have gx0_2 : wc.cell? ⟨u, 2, none⟩ = some (.slice s1.pn ns.length s1.cn) := HX.out _ (Below.refl _ _) 2 _ rfl
                      have gy0_2 : wc.cell? ⟨v, 2, none⟩ = some (.slice s2.pn ns'.length s2.cn) := HY.out _ (Below.refl _ _) 2 _ rfl
                      have gx0_12 : wc.cell? ⟨u, 12, none⟩ = some (.int .u64 (lo : Int)) := HX.out _ (Below.refl _ _) 12 _ rfl
                      have gy0_12 : wc.cell? ⟨v, 12, none⟩ = some (.int .u64 (lo : Int)) := HY.out _ (Below.refl _ _) 12 _ rfl
                      have gx0_13 : wc.cell? ⟨u, 13, none⟩ = some (.int .u64 (hi : Int)) := HX.out _ (Below.refl _ _) 13 _ rfl
                      have gy0_13 : wc.cell? ⟨v, 13, none⟩ = some (.int .u64 (hi : Int)) := HY.out _ (Below.refl _ _) 13 _ rfl
                      go_wp2_with fail
                      refine (Hns.out _ HB0.out).mono ?_
                      rintro z w1 ⟨rfl, hB'⟩
                      have HB1 := Lib.hid (HB0.out.trans (hB'.mono HB0.out.size))
                      have HD1 := Lib.hid (HD0.out.trans (hB'.mono HD0.out.size))
                      clear hB'
                      go_wp2_with fail
                      go_ret
                      exact ⟨ret_bool HV.out, hB.out.trans (HB1.out.mono hB.out.size)⟩
                    | true =>
                      have Ens := Lib.hid (eqB_of_true hvns)
                      rw [hvns] at Hns
                      clear hvns
                      cases hve : eqB e e' with
                      | false =>
                        have Fe := Lib.hid (eqB_of_false hve)
                        have HV := Lib.hid (eqB_false (show ¬ xs = ys from fun h => NE.out h fun h => Fe.out (by injection h)))
                        rw [hve] at He
                        clear hve
                        have gx0_0 : wc.cell? ⟨u, 0, none⟩ = some (.int .i64 kd) := HX.out _ (Below.refl _ _) 0 _ rfl
                        have gy0_0 : wc.cell? ⟨v, 0, none⟩ = some (.int .i64 kd) := HY.out _ (Below.refl _ _) 0 _ rfl
                        have gx0_1 : wc.cell? ⟨u, 1, none⟩ = some (.string (str nm)) := HX.out _ (Below.refl _ _) 1 _ rfl
                        have gy0_1 : wc.cell? ⟨v, 1, none⟩ = some (.string (str nm)) := HY.out _ (Below.refl _ _) 1 _ rfl
                        have gx0_2 : wc.cell? ⟨u, 2, none⟩ = some (.slice s1.pn ns.length s1.cn) := HX.out _ (Below.refl _ _) 2 _ rfl
                        have gy0_2 : wc.cell? ⟨v, 2, none⟩ = some (.slice s2.pn ns'.length s2.cn) := HY.out _ (Below.refl _ _) 2 _ rfl
                        have gx0_12 : wc.cell? ⟨u, 12, none⟩ = some (.int .u64 (lo : Int)) := HX.out _ (Below.refl _ _) 12 _ rfl
                        have gy0_12 : wc.cell? ⟨v, 12, none⟩ = some (.int .u64 (lo : Int)) := HY.out _ (Below.refl _ _) 12 _ rfl
                        have gx0_13 : wc.cell? ⟨u, 13, none⟩ = some (.int .u64 (hi : Int)) := HX.out _ (Below.refl _ _) 13 _ rfl
                        have gy0_13 : wc.cell? ⟨v, 13, none⟩ = some (.int .u64 (hi : Int)) := HY.out _ (Below.refl _ _) 13 _ rfl
                        go_wp2_with fail
                        refine (Hns.out _ HB0.out).mono ?_
                        rintro z w1 ⟨rfl, hB'⟩
                        have HB1 := Lib.hid (HB0.out.trans (hB'.mono HB0.out.size))
                        have HD1 := Lib.hid (HD0.out.trans (hB'.mono HD0.out.size))
                        clear hB'
                        have gx1_3 : w1.cell? ⟨u, 3, none⟩ = some (.int .i64 e.op) := HX.out _ HD1.out 3 _ rfl
                        have gy1_3 : w1.cell? ⟨v, 3, none⟩ = some (.int .i64 e'.op) := HY.out _ HD1.out 3 _ rfl
                        have gx1_4 : w1.cell? ⟨u, 4, none⟩ = some (.int .u64 (e.word : Int)) := HX.out _ HD1.out 4 _ rfl
                        have gy1_4 : w1.cell? ⟨v, 4, none⟩ = some (.int .u64 (e'.word : Int)) := HY.out _ HD1.out 4 _ rfl
                        have gx1_5 : w1.cell? ⟨u, 5, none⟩ = some (.string (str e.name)) := HX.out _ HD1.out 5 _ rfl
                        have gy1_5 : w1.cell? ⟨v, 5, none⟩ = some (.string (str e'.name)) := HY.out _ HD1.out 5 _ rfl
                        have gx1_6 : w1.cell? ⟨u, 6, none⟩ = some (.slice s1.pe e.args.len s1.ce) := HX.out _ HD1.out 6 _ rfl
                        have gy1_6 : w1.cell? ⟨v, 6, none⟩ = some (.slice s2.pe e'.args.len s2.ce) := HY.out _ HD1.out 6 _ rfl
                        go_wp2_with fail
                        refine (He.out _ HB1.out).mono ?_
                        rintro z w2 ⟨rfl, hB'⟩
                        have HB2 := Lib.hid (HB1.out.trans (hB'.mono HB1.out.size))
                        have HD2 := Lib.hid (HD1.out.trans (hB'.mono HD1.out.size))
                        clear hB'
                        go_wp2_with fail
                        go_ret
                        exact ⟨ret_bool HV.out, hB.out.trans (HB2.out.mono hB.out.size)⟩
                      | true =>
                        have Ee := Lib.hid (eqB_of_true hve)
                        rw [hve] at He
                        clear hve
                        cases hva : eqB a a' with
                        | false =>
                          have Fa := Lib.hid (eqB_of_false hva)
                          have HV := Lib.hid (eqB_false (show ¬ xs = ys from fun h => NE.out h fun h => Fa.out (by injection h)))
                          rw [hva] at Ha
                          clear hva
                          have gx0_0 : wc.cell? ⟨u, 0, none⟩ = some (.int .i64 kd) := HX.out _ (Below.refl _ _) 0 _ rfl
                          have gy0_0 : wc.cell? ⟨v, 0, none⟩ = some (.int .i64 kd) := HY.out _ (Below.refl _ _) 0 _ rfl
                          have gx0_1 : wc.cell? ⟨u, 1, none⟩ = some (.string (str nm)) := HX.out _ (Below.refl _ _) 1 _ rfl
                          have gy0_1 : wc.cell? ⟨v, 1, none⟩ = some (.string (str nm)) := HY.out _ (Below.refl _ _) 1 _ rfl
                          have gx0_2 : wc.cell? ⟨u, 2, none⟩ = some (.slice s1.pn ns.length s1.cn) := HX.out _ (Below.refl _ _) 2 _ rfl
                          have gy0_2 : wc.cell? ⟨v, 2, none⟩ = some (.slice s2.pn ns'.length s2.cn) := HY.out _ (Below.refl _ _) 2 _ rfl
                          have gx0_12 : wc.cell? ⟨u, 12, none⟩ = some (.int .u64 (lo : Int)) := HX.out _ (Below.refl _ _) 12 _ rfl
                          have gy0_12 : wc.cell? ⟨v, 12, none⟩ = some (.int .u64 (lo : Int)) := HY.out _ (Below.refl _ _) 12 _ rfl
                          have gx0_13 : wc.cell? ⟨u, 13, none⟩ = some (.int .u64 (hi : Int)) := HX.out _ (Below.refl _ _) 13 _ rfl
                          have gy0_13 : wc.cell? ⟨v, 13, none⟩ = some (.int .u64 (hi : Int)) := HY.out _ (Below.refl _ _) 13 _ rfl
                          go_wp2_with fail
                          refine (Hns.out _ HB0.out).mono ?_
                          rintro z w1 ⟨rfl, hB'⟩
                          have HB1 := Lib.hid (HB0.out.trans (hB'.mono HB0.out.size))
                          have HD1 := Lib.hid (HD0.out.trans (hB'.mono HD0.out.size))
                          clear hB'
                          have gx1_3 : w1.cell? ⟨u, 3, none⟩ = some (.int .i64 e.op) := HX.out _ HD1.out 3 _ rfl
                          have gy1_3 : w1.cell? ⟨v, 3, none⟩ = some (.int .i64 e'.op) := HY.out _ HD1.out 3 _ rfl
                          have gx1_4 : w1.cell? ⟨u, 4, none⟩ = some (.int .u64 (e.word : Int)) := HX.out _ HD1.out 4 _ rfl
                          have gy1_4 : w1.cell? ⟨v, 4, none⟩ = some (.int .u64 (e'.word : Int)) := HY.out _ HD1.out 4 _ rfl
                          have gx1_5 : w1.cell? ⟨u, 5, none⟩ = some (.string (str e.name)) := HX.out _ HD1.out 5 _ rfl
                          have gy1_5 : w1.cell? ⟨v, 5, none⟩ = some (.string (str e'.name)) := HY.out _ HD1.out 5 _ rfl
                          have gx1_6 : w1.cell? ⟨u, 6, none⟩ = some (.slice s1.pe e.args.len s1.ce) := HX.out _ HD1.out 6 _ rfl
                          have gy1_6 : w1.cell? ⟨v, 6, none⟩ = some (.slice s2.pe e'.args.len s2.ce) := HY.out _ HD1.out 6 _ rfl
                          go_wp2_with fail
                          refine (He.out _ HB1.out).mono ?_
                          rintro z w2 ⟨rfl, hB'⟩
                          have HB2 := Lib.hid (HB1.out.trans (hB'.mono HB1.out.size))
                          have HD2 := Lib.hid (HD1.out.trans (hB'.mono HD1.out.size))
                          clear hB'
                          have gx2_7 : w2.cell? ⟨u, 7, none⟩ = some (.int .i64 a.op) := HX.out _ HD2.out 7 _ rfl
                          have gy2_7 : w2.cell? ⟨v, 7, none⟩ = some (.int .i64 a'.op) := HY.out _ HD2.out 7 _ rfl
                          have gx2_8 : w2.cell? ⟨u, 8, none⟩ = some (.int .u64 (a.word : Int)) := HX.out _ HD2.out 8 _ rfl
                          have gy2_8 : w2.cell? ⟨v, 8, none⟩ = some (.int .u64 (a'.word : Int)) := HY.out _ HD2.out 8 _ rfl
                          have gx2_9 : w2.cell? ⟨u, 9, none⟩ = some (.string (str a.name)) := HX.out _ HD2.out 9 _ rfl
                          have gy2_9 : w2.cell? ⟨v, 9, none⟩ = some (.string (str a'.name)) := HY.out _ HD2.out 9 _ rfl
                          have gx2_10 : w2.cell? ⟨u, 10, none⟩ = some (.slice s1.pa a.args.len s1.ca) := HX.out _ HD2.out 10 _ rfl
                          have gy2_10 : w2.cell? ⟨v, 10, none⟩ = some (.slice s2.pa a'.args.len s2.ca) := HY.out _ HD2.out 10 _ rfl
                          go_wp2_with fail
                          refine (Ha.out _ HB2.out).mono ?_
                          rintro z w3 ⟨rfl, hB'⟩
                          have HB3 := Lib.hid (HB2.out.trans (hB'.mono HB2.out.size))
                          have HD3 := Lib.hid (HD2.out.trans (hB'.mono HD2.out.size))
                          clear hB'
                          go_wp2_with fail
                          go_ret
                          exact ⟨ret_bool HV.out, hB.out.trans (HB3.out.mono hB.out.size)⟩
                        | true =>
                          have Ea := Lib.hid (eqB_of_true hva)
                          rw [hva] at Ha
                          clear hva
                          cases hvg : eqB g g' with
                          | false =>
                            have Fg := Lib.hid (eqB_of_false hvg)
                            have HV := Lib.hid (eqB_false (show ¬ xs = ys from fun h => NE.out h fun h => Fg.out (by injection h)))
                            rw [hvg] at Hg
                            clear hvg
                            have gx0_0 : wc.cell? ⟨u, 0, none⟩ = some (.int .i64 kd) := HX.out _ (Below.refl _ _) 0 _ rfl
                            have gy0_0 : wc.cell? ⟨v, 0, none⟩ = some (.int .i64 kd) := HY.out _ (Below.refl _ _) 0 _ rfl
                            have gx0_1 : wc.cell? ⟨u, 1, none⟩ = some (.string (str nm)) := HX.out _ (Below.refl _ _) 1 _ rfl
                            have gy0_1 : wc.cell? ⟨v, 1, none⟩ = some (.string (str nm)) := HY.out _ (Below.refl _ _) 1 _ rfl
                            have gx0_2 : wc.cell? ⟨u, 2, none⟩ = some (.slice s1.pn ns.length s1.cn) := HX.out _ (Below.refl _ _) 2 _ rfl
                            have gy0_2 : wc.cell? ⟨v, 2, none⟩ = some (.slice s2.pn ns'.length s2.cn) := HY.out _ (Below.refl _ _) 2 _ rfl
                            have gx0_12 : wc.cell? ⟨u, 12, none⟩ = some (.int .u64 (lo : Int)) := HX.out _ (Below.refl _ _) 12 _ rfl
                            have gy0_12 : wc.cell? ⟨v, 12, none⟩ = some (.int .u64 (lo : Int)) := HY.out _ (Below.refl _ _) 12 _ rfl
                            have gx0_13 : wc.cell? ⟨u, 13, none⟩ = some (.int .u64 (hi : Int)) := HX.out _ (Below.refl _ _) 13 _ rfl
                            have gy0_13 : wc.cell? ⟨v, 13, none⟩ = some (.int .u64 (hi : Int)) := HY.out _ (Below.refl _ _) 13 _ rfl
                            go_wp2_with fail
                            refine (Hns.out _ HB0.out).mono ?_
                            rintro z w1 ⟨rfl, hB'⟩
                            have HB1 := Lib.hid (HB0.out.trans (hB'.mono HB0.out.size))
                            have HD1 := Lib.hid (HD0.out.trans (hB'.mono HD0.out.size))
                            clear hB'
                            have gx1_3 : w1.cell? ⟨u, 3, none⟩ = some (.int .i64 e.op) := HX.out _ HD1.out 3 _ rfl
                            have gy1_3 : w1.cell? ⟨v, 3, none⟩ = some (.int .i64 e'.op) := HY.out _ HD1.out 3 _ rfl
                            have gx1_4 : w1.cell? ⟨u, 4, none⟩ = some (.int .u64 (e.word : Int)) := HX.out _ HD1.out 4 _ rfl
                            have gy1_4 : w1.cell? ⟨v, 4, none⟩ = some (.int .u64 (e'.word : Int)) := HY.out _ HD1.out 4 _ rfl
                            have gx1_5 : w1.cell? ⟨u, 5, none⟩ = some (.string (str e.name)) := HX.out _ HD1.out 5 _ rfl
                            have gy1_5 : w1.cell? ⟨v, 5, none⟩ = some (.string (str e'.name)) := HY.out _ HD1.out 5 _ rfl
                            have gx1_6 : w1.cell? ⟨u, 6, none⟩ = some (.slice s1.pe e.args.len s1.ce) := HX.out _ HD1.out 6 _ rfl
                            have gy1_6 : w1.cell? ⟨v, 6, none⟩ = some (.slice s2.pe e'.args.len s2.ce) := HY.out _ HD1.out 6 _ rfl
                            go_wp2_with fail
                            refine (He.out _ HB1.out).mono ?_
                            rintro z w2 ⟨rfl, hB'⟩
                            have HB2 := Lib.hid (HB1.out.trans (hB'.mono HB1.out.size))
                            have HD2 := Lib.hid (HD1.out.trans (hB'.mono HD1.out.size))
                            clear hB'
                            have gx2_7 : w2.cell? ⟨u, 7, none⟩ = some (.int .i64 a.op) := HX.out _ HD2.out 7 _ rfl
                            have gy2_7 : w2.cell? ⟨v, 7, none⟩ = some (.int .i64 a'.op) := HY.out _ HD2.out 7 _ rfl
                            have gx2_8 : w2.cell? ⟨u, 8, none⟩ = some (.int .u64 (a.word : Int)) := HX.out _ HD2.out 8 _ rfl
                            have gy2_8 : w2.cell? ⟨v, 8, none⟩ = some (.int .u64 (a'.word : Int)) := HY.out _ HD2.out 8 _ rfl
                            have gx2_9 : w2.cell? ⟨u, 9, none⟩ = some (.string (str a.name)) := HX.out _ HD2.out 9 _ rfl
                            have gy2_9 : w2.cell? ⟨v, 9, none⟩ = some (.string (str a'.name)) := HY.out _ HD2.out 9 _ rfl
                            have gx2_10 : w2.cell? ⟨u, 10, none⟩ = some (.slice s1.pa a.args.len s1.ca) := HX.out _ HD2.out 10 _ rfl
                            have gy2_10 : w2.cell? ⟨v, 10, none⟩ = some (.slice s2.pa a'.args.len s2.ca) := HY.out _ HD2.out 10 _ rfl
                            go_wp2_with fail
                            refine (Ha.out _ HB2.out).mono ?_
                            rintro z w3 ⟨rfl, hB'⟩
                            have HB3 := Lib.hid (HB2.out.trans (hB'.mono HB2.out.size))
                            have HD3 := Lib.hid (HD2.out.trans (hB'.mono HD2.out.size))
                            clear hB'
                            have gx3_11 : w3.cell? ⟨u, 11, none⟩ = some (.slice s1.pg g.len s1.cg) := HX.out _ HD3.out 11 _ rfl
                            have gy3_11 : w3.cell? ⟨v, 11, none⟩ = some (.slice s2.pg g'.len s2.cg) := HY.out _ HD3.out 11 _ rfl
                            go_wp2_with fail
                            refine (Hg.out _ HB3.out).mono ?_
                            rintro z w4 ⟨rfl, hB'⟩
                            have HB4 := Lib.hid (HB3.out.trans (hB'.mono HB3.out.size))
                            have HD4 := Lib.hid (HD3.out.trans (hB'.mono HD3.out.size))
                            clear hB'
                            go_wp2_with fail
                            go_ret
                            exact ⟨ret_bool HV.out, hB.out.trans (HB4.out.mono hB.out.size)⟩
                          | true =>
                            have Eg := Lib.hid (eqB_of_true hvg)
                            rw [hvg] at Hg
                            clear hvg
                            cases hvbd : eqB bd bd' with
                            | false =>
                              have Fbd := Lib.hid (eqB_of_false hvbd)
                              have HV := Lib.hid (eqB_false (show ¬ xs = ys from fun h => NE.out h fun h => Fbd.out (by injection h)))
                              rw [hvbd] at Hbd
                              clear hvbd
                              have gx0_0 : wc.cell? ⟨u, 0, none⟩ = some (.int .i64 kd) := HX.out _ (Below.refl _ _) 0 _ rfl
                              have gy0_0 : wc.cell? ⟨v, 0, none⟩ = some (.int .i64 kd) := HY.out _ (Below.refl _ _) 0 _ rfl
                              have gx0_1 : wc.cell? ⟨u, 1, none⟩ = some (.string (str nm)) := HX.out _ (Below.refl _ _) 1 _ rfl
                              have gy0_1 : wc.cell? ⟨v, 1, none⟩ = some (.string (str nm)) := HY.out _ (Below.refl _ _) 1 _ rfl
                              have gx0_2 : wc.cell? ⟨u, 2, none⟩ = some (.slice s1.pn ns.length s1.cn) := HX.out _ (Below.refl _ _) 2 _ rfl
                              have gy0_2 : wc.cell? ⟨v, 2, none⟩ = some (.slice s2.pn ns'.length s2.cn) := HY.out _ (Below.refl _ _) 2 _ rfl
                              have gx0_12 : wc.cell? ⟨u, 12, none⟩ = some (.int .u64 (lo : Int)) := HX.out _ (Below.refl _ _) 12 _ rfl
                              have gy0_12 : wc.cell? ⟨v, 12, none⟩ = some (.int .u64 (lo : Int)) := HY.out _ (Below.refl _ _) 12 _ rfl
                              have gx0_13 : wc.cell? ⟨u, 13, none⟩ = some (.int .u64 (hi : Int)) := HX.out _ (Below.refl _ _) 13 _ rfl
                              have gy0_13 : wc.cell? ⟨v, 13, none⟩ = some (.int .u64 (hi : Int)) := HY.out _ (Below.refl _ _) 13 _ rfl
                              go_wp2_with fail
                              refine (Hns.out _ HB0.out).mono ?_
                              rintro z w1 ⟨rfl, hB'⟩
                              have HB1 := Lib.hid (HB0.out.trans (hB'.mono HB0.out.size))
                              have HD1 := Lib.hid (HD0.out.trans (hB'.mono HD0.out.size))
                              clear hB'
                              have gx1_3 : w1.cell? ⟨u, 3, none⟩ = some (.int .i64 e.op) := HX.out _ HD1.out 3 _ rfl
                              have gy1_3 : w1.cell? ⟨v, 3, none⟩ = some (.int .i64 e'.op) := HY.out _ HD1.out 3 _ rfl
                              have gx1_4 : w1.cell? ⟨u, 4, none⟩ = some (.int .u64 (e.word : Int)) := HX.out _ HD1.out 4 _ rfl
                              have gy1_4 : w1.cell? ⟨v, 4, none⟩ = some (.int .u64 (e'.word : Int)) := HY.out _ HD1.out 4 _ rfl
                              have gx1_5 : w1.cell? ⟨u, 5, none⟩ = some (.string (str e.name)) := HX.out _ HD1.out 5 _ rfl
                              have gy1_5 : w1.cell? ⟨v, 5, none⟩ = some (.string (str e'.name)) := HY.out _ HD1.out 5 _ rfl
                              have gx1_6 : w1.cell? ⟨u, 6, none⟩ = some (.slice s1.pe e.args.len s1.ce) := HX.out _ HD1.out 6 _ rfl
                              have gy1_6 : w1.cell? ⟨v, 6, none⟩ = some (.slice s2.pe e'.args.len s2.ce) := HY.out _ HD1.out 6 _ rfl
                              go_wp2_with fail
                              refine (He.out _ HB1.out).mono ?_
                              rintro z w2 ⟨rfl, hB'⟩
                              have HB2 := Lib.hid (HB1.out.trans (hB'.mono HB1.out.size))
                              have HD2 := Lib.hid (HD1.out.trans (hB'.mono HD1.out.size))
                              clear hB'
                              have gx2_7 : w2.cell? ⟨u, 7, none⟩ = some (.int .i64 a.op) := HX.out _ HD2.out 7 _ rfl
                              have gy2_7 : w2.cell? ⟨v, 7, none⟩ = some (.int .i64 a'.op) := HY.out _ HD2.out 7 _ rfl
                              have gx2_8 : w2.cell? ⟨u, 8, none⟩ = some (.int .u64 (a.word : Int)) := HX.out _ HD2.out 8 _ rfl
                              have gy2_8 : w2.cell? ⟨v, 8, none⟩ = some (.int .u64 (a'.word : Int)) := HY.out _ HD2.out 8 _ rfl
                              have gx2_9 : w2.cell? ⟨u, 9, none⟩ = some (.string (str a.name)) := HX.out _ HD2.out 9 _ rfl
                              have gy2_9 : w2.cell? ⟨v, 9, none⟩ = some (.string (str a'.name)) := HY.out _ HD2.out 9 _ rfl
                              have gx2_10 : w2.cell? ⟨u, 10, none⟩ = some (.slice s1.pa a.args.len s1.ca) := HX.out _ HD2.out 10 _ rfl
                              have gy2_10 : w2.cell? ⟨v, 10, none⟩ = some (.slice s2.pa a'.args.len s2.ca) := HY.out _ HD2.out 10 _ rfl
                              go_wp2_with fail
                              refine (Ha.out _ HB2.out).mono ?_
                              rintro z w3 ⟨rfl, hB'⟩
                              have HB3 := Lib.hid (HB2.out.trans (hB'.mono HB2.out.size))
                              have HD3 := Lib.hid (HD2.out.trans (hB'.mono HD2.out.size))
                              clear hB'
                              have gx3_11 : w3.cell? ⟨u, 11, none⟩ = some (.slice s1.pg g.len s1.cg) := HX.out _ HD3.out 11 _ rfl
                              have gy3_11 : w3.cell? ⟨v, 11, none⟩ = some (.slice s2.pg g'.len s2.cg) := HY.out _ HD3.out 11 _ rfl
                              go_wp2_with fail
                              refine (Hg.out _ HB3.out).mono ?_
                              rintro z w4 ⟨rfl, hB'⟩
                              have HB4 := Lib.hid (HB3.out.trans (hB'.mono HB3.out.size))
                              have HD4 := Lib.hid (HD3.out.trans (hB'.mono HD3.out.size))
                              clear hB'
                              have gx4_14 : w4.cell? ⟨u, 14, none⟩ = some (.slice s1.pb bd.len s1.cb) := HX.out _ HD4.out 14 _ rfl
                              have gy4_14 : w4.cell? ⟨v, 14, none⟩ = some (.slice s2.pb bd'.len s2.cb) := HY.out _ HD4.out 14 _ rfl
                              go_wp2_with fail
                              refine (Hbd.out _ HB4.out).mono ?_
                              rintro z w5 ⟨rfl, hB'⟩
                              have HB5 := Lib.hid (HB4.out.trans (hB'.mono HB4.out.size))
                              have HD5 := Lib.hid (HD4.out.trans (hB'.mono HD4.out.size))
                              clear hB'
                              go_wp2_with fail
                              go_ret
                              exact ⟨ret_bool HV.out, hB.out.trans (HB5.out.mono hB.out.size)⟩
                            | true =>
                              have Ebd := Lib.hid (eqB_of_true hvbd)
                              rw [hvbd] at Hbd
                              clear hvbd
                              cases hvel : eqB el el' with
                              | false =>
                                have Fel := Lib.hid (eqB_of_false hvel)
                                have HV := Lib.hid (eqB_false (show ¬ xs = ys from fun h => NE.out h fun h => Fel.out (by injection h)))
                                rw [hvel] at Hel
                                clear hvel
                                have gx0_0 : wc.cell? ⟨u, 0, none⟩ = some (.int .i64 kd) := HX.out _ (Below.refl _ _) 0 _ rfl
                                have gy0_0 : wc.cell? ⟨v, 0, none⟩ = some (.int .i64 kd) := HY.out _ (Below.refl _ _) 0 _ rfl
                                have gx0_1 : wc.cell? ⟨u, 1, none⟩ = some (.string (str nm)) := HX.out _ (Below.refl _ _) 1 _ rfl
                                have gy0_1 : wc.cell? ⟨v, 1, none⟩ = some (.string (str nm)) := HY.out _ (Below.refl _ _) 1 _ rfl
                                have gx0_2 : wc.cell? ⟨u, 2, none⟩ = some (.slice s1.pn ns.length s1.cn) := HX.out _ (Below.refl _ _) 2 _ rfl
                                have gy0_2 : wc.cell? ⟨v, 2, none⟩ = some (.slice s2.pn ns'.length s2.cn) := HY.out _ (Below.refl _ _) 2 _ rfl
                                have gx0_12 : wc.cell? ⟨u, 12, none⟩ = some (.int .u64 (lo : Int)) := HX.out _ (Below.refl _ _) 12 _ rfl
                                have gy0_12 : wc.cell? ⟨v, 12, none⟩ = some (.int .u64 (lo : Int)) := HY.out _ (Below.refl _ _) 12 _ rfl
                                have gx0_13 : wc.cell? ⟨u, 13, none⟩ = some (.int .u64 (hi : Int)) := HX.out _ (Below.refl _ _) 13 _ rfl
                                have gy0_13 : wc.cell? ⟨v, 13, none⟩ = some (.int .u64 (hi : Int)) := HY.out _ (Below.refl _ _) 13 _ rfl
                                go_wp2_with fail
                                refine (Hns.out _ HB0.out).mono ?_
                                rintro z w1 ⟨rfl, hB'⟩
                                have HB1 := Lib.hid (HB0.out.trans (hB'.mono HB0.out.size))
                                have HD1 := Lib.hid (HD0.out.trans (hB'.mono HD0.out.size))
                                clear hB'
                                have gx1_3 : w1.cell? ⟨u, 3, none⟩ = some (.int .i64 e.op) := HX.out _ HD1.out 3 _ rfl
                                have gy1_3 : w1.cell? ⟨v, 3, none⟩ = some (.int .i64 e'.op) := HY.out _ HD1.out 3 _ rfl
                                have gx1_4 : w1.cell? ⟨u, 4, none⟩ = some (.int .u64 (e.word : Int)) := HX.out _ HD1.out 4 _ rfl
                                have gy1_4 : w1.cell? ⟨v, 4, none⟩ = some (.int .u64 (e'.word : Int)) := HY.out _ HD1.out 4 _ rfl
                                have gx1_5 : w1.cell? ⟨u, 5, none⟩ = some (.string (str e.name)) := HX.out _ HD1.out 5 _ rfl
                                have gy1_5 : w1.cell? ⟨v, 5, none⟩ = some (.string (str e'.name)) := HY.out _ HD1.out 5 _ rfl
                                have gx1_6 : w1.cell? ⟨u, 6, none⟩ = some (.slice s1.pe e.args.len s1.ce) := HX.out _ HD1.out 6 _ rfl
                                have gy1_6 : w1.cell? ⟨v, 6, none⟩ = some (.slice s2.pe e'.args.len s2.ce) := HY.out _ HD1.out 6 _ rfl
                                go_wp2_with fail
                                refine (He.out _ HB1.out).mono ?_
                                rintro z w2 ⟨rfl, hB'⟩
                                have HB2 := Lib.hid (HB1.out.trans (hB'.mono HB1.out.size))
                                have HD2 := Lib.hid (HD1.out.trans (hB'.mono HD1.out.size))
                                clear hB'
                                have gx2_7 : w2.cell? ⟨u, 7, none⟩ = some (.int .i64 a.op) := HX.out _ HD2.out 7 _ rfl
                                have gy2_7 : w2.cell? ⟨v, 7, none⟩ = some (.int .i64 a'.op) := HY.out _ HD2.out 7 _ rfl
                                have gx2_8 : w2.cell? ⟨u, 8, none⟩ = some (.int .u64 (a.word : Int)) := HX.out _ HD2.out 8 _ rfl
                                have gy2_8 : w2.cell? ⟨v, 8, none⟩ = some (.int .u64 (a'.word : Int)) := HY.out _ HD2.out 8 _ rfl
                                have gx2_9 : w2.cell? ⟨u, 9, none⟩ = some (.string (str a.name)) := HX.out _ HD2.out 9 _ rfl
                                have gy2_9 : w2.cell? ⟨v, 9, none⟩ = some (.string (str a'.name)) := HY.out _ HD2.out 9 _ rfl
                                have gx2_10 : w2.cell? ⟨u, 10, none⟩ = some (.slice s1.pa a.args.len s1.ca) := HX.out _ HD2.out 10 _ rfl
                                have gy2_10 : w2.cell? ⟨v, 10, none⟩ = some (.slice s2.pa a'.args.len s2.ca) := HY.out _ HD2.out 10 _ rfl
                                go_wp2_with fail
                                refine (Ha.out _ HB2.out).mono ?_
                                rintro z w3 ⟨rfl, hB'⟩
                                have HB3 := Lib.hid (HB2.out.trans (hB'.mono HB2.out.size))
                                have HD3 := Lib.hid (HD2.out.trans (hB'.mono HD2.out.size))
                                clear hB'
                                have gx3_11 : w3.cell? ⟨u, 11, none⟩ = some (.slice s1.pg g.len s1.cg) := HX.out _ HD3.out 11 _ rfl
                                have gy3_11 : w3.cell? ⟨v, 11, none⟩ = some (.slice s2.pg g'.len s2.cg) := HY.out _ HD3.out 11 _ rfl
                                go_wp2_with fail
                                refine (Hg.out _ HB3.out).mono ?_
                                rintro z w4 ⟨rfl, hB'⟩
                                have HB4 := Lib.hid (HB3.out.trans (hB'.mono HB3.out.size))
                                have HD4 := Lib.hid (HD3.out.trans (hB'.mono HD3.out.size))
                                clear hB'
                                have gx4_14 : w4.cell? ⟨u, 14, none⟩ = some (.slice s1.pb bd.len s1.cb) := HX.out _ HD4.out 14 _ rfl
                                have gy4_14 : w4.cell? ⟨v, 14, none⟩ = some (.slice s2.pb bd'.len s2.cb) := HY.out _ HD4.out 14 _ rfl
                                go_wp2_with fail
                                refine (Hbd.out _ HB4.out).mono ?_
                                rintro z w5 ⟨rfl, hB'⟩
                                have HB5 := Lib.hid (HB4.out.trans (hB'.mono HB4.out.size))
                                have HD5 := Lib.hid (HD4.out.trans (hB'.mono HD4.out.size))
                                clear hB'
                                have gx5_15 : w5.cell? ⟨u, 15, none⟩ = some (.slice s1.pl el.len s1.cl) := HX.out _ HD5.out 15 _ rfl
                                have gy5_15 : w5.cell? ⟨v, 15, none⟩ = some (.slice s2.pl el'.len s2.cl) := HY.out _ HD5.out 15 _ rfl
                                go_wp2_with fail
                                refine (Hel.out _ HB5.out).mono ?_
                                rintro z w6 ⟨rfl, hB'⟩
                                have HB6 := Lib.hid (HB5.out.trans (hB'.mono HB5.out.size))
                                have HD6 := Lib.hid (HD5.out.trans (hB'.mono HD5.out.size))
                                clear hB'
                                go_wp2_with fail
                                go_ret
                                exact ⟨ret_bool HV.out, hB.out.trans (HB6.out.mono hB.out.size)⟩
                              | true =>
                                have Eel := Lib.hid (eqB_of_true hvel)
                                rw [hvel] at Hel
                                clear hvel
                                have HV := Lib.hid (show St.mk kd nm ns' e' a' g' lo hi bd' el' = St.mk kd nm ns e a g lo hi bd el by rw [Ens.out, Ee.out, Ea.out, Eg.out, Ebd.out, Eel.out])
                                have gx0_0 : wc.cell? ⟨u, 0, none⟩ = some (.int .i64 kd) := HX.out _ (Below.refl _ _) 0 _ rfl
                                have gy0_0 : wc.cell? ⟨v, 0, none⟩ = some (.int .i64 kd) := HY.out _ (Below.refl _ _) 0 _ rfl
                                have gx0_1 : wc.cell? ⟨u, 1, none⟩ = some (.string (str nm)) := HX.out _ (Below.refl _ _) 1 _ rfl
                                have gy0_1 : wc.cell? ⟨v, 1, none⟩ = some (.string (str nm)) := HY.out _ (Below.refl _ _) 1 _ rfl
                                have gx0_2 : wc.cell? ⟨u, 2, none⟩ = some (.slice s1.pn ns.length s1.cn) := HX.out _ (Below.refl _ _) 2 _ rfl
                                have gy0_2 : wc.cell? ⟨v, 2, none⟩ = some (.slice s2.pn ns'.length s2.cn) := HY.out _ (Below.refl _ _) 2 _ rfl
                                have gx0_12 : wc.cell? ⟨u, 12, none⟩ = some (.int .u64 (lo : Int)) := HX.out _ (Below.refl _ _) 12 _ rfl
                                have gy0_12 : wc.cell? ⟨v, 12, none⟩ = some (.int .u64 (lo : Int)) := HY.out _ (Below.refl _ _) 12 _ rfl
                                have gx0_13 : wc.cell? ⟨u, 13, none⟩ = some (.int .u64 (hi : Int)) := HX.out _ (Below.refl _ _) 13 _ rfl
                                have gy0_13 : wc.cell? ⟨v, 13, none⟩ = some (.int .u64 (hi : Int)) := HY.out _ (Below.refl _ _) 13 _ rfl
                                go_wp2_with fail
                                refine (Hns.out _ HB0.out).mono ?_
                                rintro z w1 ⟨rfl, hB'⟩
                                have HB1 := Lib.hid (HB0.out.trans (hB'.mono HB0.out.size))
                                have HD1 := Lib.hid (HD0.out.trans (hB'.mono HD0.out.size))
                                clear hB'
                                have gx1_3 : w1.cell? ⟨u, 3, none⟩ = some (.int .i64 e.op) := HX.out _ HD1.out 3 _ rfl
                                have gy1_3 : w1.cell? ⟨v, 3, none⟩ = some (.int .i64 e'.op) := HY.out _ HD1.out 3 _ rfl
                                have gx1_4 : w1.cell? ⟨u, 4, none⟩ = some (.int .u64 (e.word : Int)) := HX.out _ HD1.out 4 _ rfl
                                have gy1_4 : w1.cell? ⟨v, 4, none⟩ = some (.int .u64 (e'.word : Int)) := HY.out _ HD1.out 4 _ rfl
                                have gx1_5 : w1.cell? ⟨u, 5, none⟩ = some (.string (str e.name)) := HX.out _ HD1.out 5 _ rfl
                                have gy1_5 : w1.cell? ⟨v, 5, none⟩ = some (.string (str e'.name)) := HY.out _ HD1.out 5 _ rfl
                                have gx1_6 : w1.cell? ⟨u, 6, none⟩ = some (.slice s1.pe e.args.len s1.ce) := HX.out _ HD1.out 6 _ rfl
                                have gy1_6 : w1.cell? ⟨v, 6, none⟩ = some (.slice s2.pe e'.args.len s2.ce) := HY.out _ HD1.out 6 _ rfl
                                go_wp2_with fail
                                refine (He.out _ HB1.out).mono ?_
                                rintro z w2 ⟨rfl, hB'⟩
                                have HB2 := Lib.hid (HB1.out.trans (hB'.mono HB1.out.size))
                                have HD2 := Lib.hid (HD1.out.trans (hB'.mono HD1.out.size))
                                clear hB'
                                have gx2_7 : w2.cell? ⟨u, 7, none⟩ = some (.int .i64 a.op) := HX.out _ HD2.out 7 _ rfl
                                have gy2_7 : w2.cell? ⟨v, 7, none⟩ = some (.int .i64 a'.op) := HY.out _ HD2.out 7 _ rfl
                                have gx2_8 : w2.cell? ⟨u, 8, none⟩ = some (.int .u64 (a.word : Int)) := HX.out _ HD2.out 8 _ rfl
                                have gy2_8 : w2.cell? ⟨v, 8, none⟩ = some (.int .u64 (a'.word : Int)) := HY.out _ HD2.out 8 _ rfl
                                have gx2_9 : w2.cell? ⟨u, 9, none⟩ = some (.string (str a.name)) := HX.out _ HD2.out 9 _ rfl
                                have gy2_9 : w2.cell? ⟨v, 9, none⟩ = some (.string (str a'.name)) := HY.out _ HD2.out 9 _ rfl
                                have gx2_10 : w2.cell? ⟨u, 10, none⟩ = some (.slice s1.pa a.args.len s1.ca) := HX.out _ HD2.out 10 _ rfl
                                have gy2_10 : w2.cell? ⟨v, 10, none⟩ = some (.slice s2.pa a'.args.len s2.ca) := HY.out _ HD2.out 10 _ rfl
                                go_wp2_with fail
                                refine (Ha.out _ HB2.out).mono ?_
                                rintro z w3 ⟨rfl, hB'⟩
                                have HB3 := Lib.hid (HB2.out.trans (hB'.mono HB2.out.size))
                                have HD3 := Lib.hid (HD2.out.trans (hB'.mono HD2.out.size))
                                clear hB'
                                have gx3_11 : w3.cell? ⟨u, 11, none⟩ = some (.slice s1.pg g.len s1.cg) := HX.out _ HD3.out 11 _ rfl
                                have gy3_11 : w3.cell? ⟨v, 11, none⟩ = some (.slice s2.pg g'.len s2.cg) := HY.out _ HD3.out 11 _ rfl
                                go_wp2_with fail
                                refine (Hg.out _ HB3.out).mono ?_
                                rintro z w4 ⟨rfl, hB'⟩
                                have HB4 := Lib.hid (HB3.out.trans (hB'.mono HB3.out.size))
                                have HD4 := Lib.hid (HD3.out.trans (hB'.mono HD3.out.size))
                                clear hB'
                                have gx4_14 : w4.cell? ⟨u, 14, none⟩ = some (.slice s1.pb bd.len s1.cb) := HX.out _ HD4.out 14 _ rfl
                                have gy4_14 : w4.cell? ⟨v, 14, none⟩ = some (.slice s2.pb bd'.len s2.cb) := HY.out _ HD4.out 14 _ rfl
                                go_wp2_with fail
                                refine (Hbd.out _ HB4.out).mono ?_
                                rintro z w5 ⟨rfl, hB'⟩
                                have HB5 := Lib.hid (HB4.out.trans (hB'.mono HB4.out.size))
                                have HD5 := Lib.hid (HD4.out.trans (hB'.mono HD4.out.size))
                                clear hB'
                                have gx5_15 : w5.cell? ⟨u, 15, none⟩ = some (.slice s1.pl el.len s1.cl) := HX.out _ HD5.out 15 _ rfl
                                have gy5_15 : w5.cell? ⟨v, 15, none⟩ = some (.slice s2.pl el'.len s2.cl) := HY.out _ HD5.out 15 _ rfl
                                go_wp2_with fail
                                refine (Hel.out _ HB5.out).mono ?_
                                rintro z w6 ⟨rfl, hB'⟩
                                have HB6 := Lib.hid (HB5.out.trans (hB'.mono HB5.out.size))
                                have HD6 := Lib.hid (HD5.out.trans (hB'.mono HD5.out.size))
                                clear hB'
                                go_wp2_with fail
                                have HBE := Lib.hid (hB.out.trans (HB6.out.mono hB.out.size))
                                go_roundw
                                case rel => exact ⟨ds ++ [St.mk kd nm ns e a g lo hi bd el], rs, rs', by rw [List.length_append]; go_num, Lib.hid (by rw [E1.out]; simp), Lib.hid (by rw [E2.out, HV.out]; simp), by simp; omega, by omega, HBE⟩
                                case measure => simp [intOf]; omega
                  · have Fhi := Lib.hid hvhi
                    have HV := Lib.hid (eqB_false (show ¬ xs = ys from fun h => NE.out h fun h => Fhi.out (by injection h)))
                    skip
                    skip
                    have gx0_0 : wc.cell? ⟨u, 0, none⟩ = some (.int .i64 kd) := HX.out _ (Below.refl _ _) 0 _ rfl
                    have gy0_0 : wc.cell? ⟨v, 0, none⟩ = some (.int .i64 kd) := HY.out _ (Below.refl _ _) 0 _ rfl
                    have gx0_1 : wc.cell? ⟨u, 1, none⟩ = some (.string (str nm)) := HX.out _ (Below.refl _ _) 1 _ rfl
                    have gy0_1 : wc.cell? ⟨v, 1, none⟩ = some (.string (str nm)) := HY.out _ (Below.refl _ _) 1 _ rfl
                    have gx0_12 : wc.cell? ⟨u, 12, none⟩ = some (.int .u64 (lo : Int)) := HX.out _ (Below.refl _ _) 12 _ rfl
                    have gy0_12 : wc.cell? ⟨v, 12, none⟩ = some (.int .u64 (lo : Int)) := HY.out _ (Below.refl _ _) 12 _ rfl
                    have gx0_13 : wc.cell? ⟨u, 13, none⟩ = some (.int .u64 (hi : Int)) := HX.out _ (Below.refl _ _) 13 _ rfl
                    have gy0_13 : wc.cell? ⟨v, 13, none⟩ = some (.int .u64 (hi' : Int)) := HY.out _ (Below.refl _ _) 13 _ rfl
                    go_wp2_with fail
                    go_ret
                    exact ⟨ret_bool HV.out, hB.out.trans (HB0.out.mono hB.out.size)⟩
                · have Flo := Lib.hid hvlo
                  have HV := Lib.hid (eqB_false (show ¬ xs = ys from fun h => NE.out h fun h => Flo.out (by injection h)))
                  skip
                  skip
                  have gx0_0 : wc.cell? ⟨u, 0, none⟩ = some (.int .i64 kd) := HX.out _ (Below.refl _ _) 0 _ rfl
                  have gy0_0 : wc.cell? ⟨v, 0, none⟩ = some (.int .i64 kd) := HY.out _ (Below.refl _ _) 0 _ rfl
                  have gx0_1 : wc.cell? ⟨u, 1, none⟩ = some (.string (str nm)) := HX.out _ (Below.refl _ _) 1 _ rfl
                  have gy0_1 : wc.cell? ⟨v, 1, none⟩ = some (.string (str nm)) := HY.out _ (Below.refl _ _) 1 _ rfl
                  have gx0_12 : wc.cell? ⟨u, 12, none⟩ = some (.int .u64 (lo : Int)) := HX.out _ (Below.refl _ _) 12 _ rfl
                  have gy0_12 : wc.cell? ⟨v, 12, none⟩ = some (.int .u64 (lo' : Int)) := HY.out _ (Below.refl _ _) 12 _ rfl
                  go_wp2_with fail
                  go_ret
                  exact ⟨ret_bool HV.out, hB.out.trans (HB0.out.mono hB.out.size)⟩
              · have Fnm := Lib.hid hvnm
                have HV := Lib.hid (eqB_false (show ¬ xs = ys from fun h => NE.out h fun h => Fnm.out (by injection h)))
                have Tnm := str_beq_ne hvnm
                clear hvnm
                have gx0_0 : wc.cell? ⟨u, 0, none⟩ = some (.int .i64 kd) := HX.out _ (Below.refl _ _) 0 _ rfl
                have gy0_0 : wc.cell? ⟨v, 0, none⟩ = some (.int .i64 kd) := HY.out _ (Below.refl _ _) 0 _ rfl
                have gx0_1 : wc.cell? ⟨u, 1, none⟩ = some (.string (str nm)) := HX.out _ (Below.refl _ _) 1 _ rfl
                have gy0_1 : wc.cell? ⟨v, 1, none⟩ = some (.string (str nm')) := HY.out _ (Below.refl _ _) 1 _ rfl
                go_wp2_with fail
                go_ret
                exact ⟨ret_bool HV.out, hB.out.trans (HB0.out.mono hB.out.size)⟩
            · have Fkd := Lib.hid hvkd
              have HV := Lib.hid (eqB_false (show ¬ xs = ys from fun h => NE.out h fun h => Fkd.out (by injection h)))
              skip
              skip
              have gx0_0 : wc.cell? ⟨u, 0, none⟩ = some (.int .i64 kd) := HX.out _ (Below.refl _ _) 0 _ rfl
              have gy0_0 : wc.cell? ⟨v, 0, none⟩ = some (.int .i64 kd') := HY.out _ (Below.refl _ _) 0 _ rfl
              go_wp2_with fail
              go_ret
              exact ⟨ret_bool HV.out, hB.out.trans (HB0.out.mono hB.out.size)⟩
  · have HB := Lib.hid (eqB_false (show ¬ xs = ys by intro e; exact hl (by rw [e])))
    have hl' : ((xs.length : Int) != (ys.length : Int)) = true := by simp; omega
    clear hl
    go_enter Tryz.func24, Tryz.ntmps24
    go_wp2_with fail
    go_ret
    exact ⟨ret_bool HB.out, Below.refl _ _⟩
theorem rss_to : ∀ n, RSS n
  | 0 => fun _ _ h => absurd h (Nat.not_lt_zero _)
  | n + 1 => rss_step n (rss_to n)
theorem rSameStmts_any (l m : Sts) (p q : Option Addr) (c d N : Nat) (w : World) (h1 : l.In w N p) (h2 : m.In w N q) (hN : N ≤ w.heap.size) :
    Calls Tryz.prog 24 #[.slice p l.len c, .slice q m.len d] w fun e w' => e = .returned (.bool (eqB l m)) ∧ Below w.heap.size w w' :=
  rss_to _ l m (Nat.lt_succ_self _) p q c d N w h1 h2 hN
end Go.Proofs.YtlhbledakddbbaaGreatDoor
