/- Two statements are the same: the document's. -/
import Derived.Test.YtnghehcjklkoeaaP5
import Derived.Test.YtnghehcjklkoeaaP8
import Derived.Test.YtnghehcjklkoeaaF1
import Derived.Deep.RegionHeld
import Derived.Deep.RegionHeld3
import Derived.WalkMore
import Derived.Deep.CutBlock
import Derived.Deep.CutRange
namespace Go.Proofs.Ytnghehcjklkoeaa
open Go.RowKit

structure PairS (A1 A2 : Array Value) (u v : Nat) (w W : World) : Prop where
  bel : Below w.heap.size w W
  x : W.rangeAt u 0 A1.toList
  y : W.rangeAt v 0 A2.toList
  lu : u < W.heap.size
  lv : v < W.heap.size
theorem below_setCells {N b : Nat} {a : World} (hb : N ≤ b) : ∀ (vs : List Value) (o : Nat) (w : World), Below N a w → Below N a (w.setCells b o vs)
  | [], _, _, h => h
  | v :: vs, o, _w, h => below_setCells hb vs (o + 1) _ (h.setCell hb v)
theorem size_setCells (b : Nat) : ∀ (vs : List Value) (o : Nat) (w : World), (w.setCells b o vs).heap.size = w.heap.size
  | [], _, _ => rfl
  | v :: vs, o, w => by rw [World.setCells, size_setCells b vs (o + 1)]; simp
theorem pair_of {A1 A2 : Array Value} {u v : Nat} {w W : World} (huv : u ≠ v) (tu : W.there u 0 A1.size) (tv : W.there v 0 A2.size) (hB : Below w.heap.size w W) (hu : w.heap.size ≤ u) (hv : w.heap.size ≤ v) (lu : u < W.heap.size) (lv : v < W.heap.size) :
    PairS A1 A2 u v w ((W.setCells u 0 A1.toList).setCells v 0 A2.toList) :=
  ⟨below_setCells hv _ _ _ (below_setCells hu _ _ _ hB),
   World.rangeAt_setCells_apart (World.rangeAt_setCells_same _ _ _ _ (by simpa using tu)) _ _ _ (.inl huv),
   World.rangeAt_setCells_same _ _ _ _ (World.there_setCells (by simpa using tv) _ _ _), by rw [size_setCells, size_setCells]; exact lu, by rw [size_setCells, size_setCells]; exact lv⟩
theorem there_new2 (w : World) (Z : Array Value) (t : TypeId) : (((w.alloc (.cells Z t)).alloc (.cells Z t)).drew).there w.heap.size 0 Z.size ∧ (((w.alloc (.cells Z t)).alloc (.cells Z t)).drew).there (w.heap.size + 1) 0 Z.size := by
  constructor
  · intro j hj
    rw [Nat.zero_add]
    refine ⟨?_, by simp [go_sem]⟩
    rw [show (((w.alloc (.cells Z t)).alloc (.cells Z t)).drew).cell? ⟨w.heap.size, j, none⟩ = Z[j]? by simp [go_sem], Array.getElem?_eq_getElem hj]; rfl
  · intro j hj
    rw [Nat.zero_add]
    refine ⟨?_, by simp [go_sem]⟩
    rw [show (((w.alloc (.cells Z t)).alloc (.cells Z t)).drew).cell? ⟨w.heap.size + 1, j, none⟩ = Z[j]? by simp [go_sem], Array.getElem?_eq_getElem hj]; rfl
abbrev zeroSt : Array Value := #[.int .i64 0, .string ⟨#[]⟩, .slice none 0 0, .int .i64 0, .int .u64 0, .string ⟨#[]⟩, .slice none 0 0, .int .i64 0, .int .u64 0, .string ⟨#[]⟩, .slice none 0 0, .slice none 0 0, .int .u64 0, .int .u64 0, .slice none 0 0, .slice none 0 0]
def RSS (n : Nat) : Prop := ∀ l m : Sts, l.size < n → ∀ (p q : Option Addr) (c d N : Nat) (w : World), l.In w N p → m.In w N q → N ≤ w.heap.size →
    Calls Try.prog 21 #[.slice p l.len c, .slice q m.len d] w fun e w' => e = .returned (.bool (eqB l m)) ∧ Below w.heap.size w w'
set_option maxRecDepth 100000 in
set_option maxHeartbeats 12800000 in
theorem rss_step (n : Nat) (ih : RSS n) : RSS (n + 1) := by
  intro l m hsz p p' ca cb N w h1 h2 hN
  have hls : ∀ x ∈ l.toL, x.size < n := fun x hx => by have := Sts.toL_size hx; omega
  replace h1 := Sts.rowIn h1
  replace h2 := Sts.rowIn h2
  rw [Sts.toL_len, Sts.toL_len, ← eqB_sts]
  generalize l.toL = xs at h1 hls ⊢
  generalize m.toL = ys at h2 ⊢
  have HLS := Lib.hid hls
  have S1 := Lib.hid h1
  have S2 := Lib.hid h2
  have hm1 := h1.1
  have hm2 := h2.1
  clear h1 h2 hls
  by_cases hl : xs.length = ys.length
  · have HL := Lib.hid hl
    have hl' : ((xs.length : Int) != (ys.length : Int)) = false := by simp [hl]
    clear hl
    go_enter Try.func21, Try.ntmps21
    go_wp2_with fail
    go_loopw [5] (fun i wr => ∃ (ds rs rs' : List St), i = .int .i64 ds.length ∧ Hid (xs = ds ++ rs) ∧ Hid (ys = ds ++ rs') ∧ ds.length + rs.length = xs.length ∧ rs'.length = rs.length ∧ Hid (Below w.heap.size w wr)) (fun i _ => xs.length - (intOf i).toNat)
    case atStart => exact ⟨[], xs, ys, rfl, Lib.hid rfl, Lib.hid rfl, by simp, by have := HL.out; omega, Lib.hid (Below.refl _ _)⟩
    case round =>
      obtain ⟨ds, rs, rs', rfl, E1, E2, hd1, hd2, hB⟩ := hrel
      cases rs with
      | nil =>
        cases rs' with
        | cons _ _ => simp at hd2
        | nil =>
          simp only [List.length_nil] at hd1
          have hge : ¬ ds.length < xs.length := by omega
          have EQ := Lib.hid (eqB_true (show xs = ys by rw [E1.out, E2.out]))
          go_wp2_with fail
          go_ret
          exact ⟨ret_bool EQ.out, hB.out⟩
      | cons y1 rs =>
        cases rs' with
        | nil => simp at hd2
        | cons y2 rs' =>
          simp only [List.length_cons] at hd1 hd2
          have hlt1 : ds.length < xs.length := by omega
          have hlt2 : ds.length < ys.length := by have := HL.out; omega
          rcases S1.out.2 with h30 | ⟨b1, o1, rfl, hb1, ha1⟩
          · omega
          rcases S2.out.2 with h30 | ⟨b2, o2, rfl, hb2, ha2⟩
          · omega
          rw [E1.out] at ha1
          rw [E2.out] at ha2
          obtain ⟨s1, c1, ok1⟩ := St.At.openP (St.At.later ((hB.out).mono hN) (Nat.le_trans hN hB.out.size) y1 b1 _ hb1 (Row.drop _ _ _ ha1).1)
          obtain ⟨s2, c2, ok2⟩ := St.At.openP (St.At.later ((hB.out).mono hN) (Nat.le_trans hN hB.out.size) y2 b2 _ hb2 (Row.drop _ _ _ ha2).1)
          obtain ⟨A1, hA1⟩ : ∃ A1, y1.cells s1 = A1 := ⟨_, rfl⟩
          obtain ⟨A2, hA2⟩ : ∃ A2, y2.cells s2 = A2 := ⟨_, rfl⟩
          have HA := Lib.hid (And.intro hA1 hA2)
          have HK := Lib.hid (And.intro ok1 ok2)
          have HZ1 := Lib.hid (show A1.size = 16 by rw [← hA1]; rfl)
          have HZ2 := Lib.hid (show A2.size = 16 by rw [← hA2]; rfl)
          have HO1 := Lib.hid (show A1.all (·.oneCell') = true by rw [← hA1]; exact oneSt _ _)
          have HO2 := Lib.hid (show A2.all (·.oneCell') = true by rw [← hA2]; exact oneSt _ _)
          have F1 := Lib.hid (show wr.rangeAt b1 (o1 + ds.length * 16) A1.toList from fun j v hv => c1 j v (by rw [hA1, ← Array.getElem?_toList]; exact hv))
          have F2 := Lib.hid (show wr.rangeAt b2 (o2 + ds.length * 16) A2.toList from fun j v hv => c2 j v (by rw [hA2, ← Array.getElem?_toList]; exact hv))
          have HI1 := Lib.hid (infoStP.trans (by rw [HZ1.out]) : (Try.prog.info? 49).map (·.size) = some A1.size)
          have HI2 := Lib.hid (infoStP.trans (by rw [HZ2.out]) : (Try.prog.info? 49).map (·.size) = some A2.size)
          have hbl1 : b1 < wr.heap.size := by have := hB.out.size; omega
          have hbl2 : b2 < wr.heap.size := by have := hB.out.size; omega
          have TH1 := Lib.hid (there_new2 wr zeroSt 49).1
          have TH2 := Lib.hid (there_new2 wr zeroSt 49).2
          have HBW := Lib.hid (((Below.refl _ wr).alloc (Nat.le_refl _) (.cells zeroSt 49)).alloc (by simp) (.cells zeroSt 49)).drew
          clear c1 c2 ha1 ha2 hA1 hA2 ok1 ok2
          go_upto_region 6 with fail
          go_cut [6, 7] from 21 to 28 (fun s6 s7 wx => ∃ u v : Nat, s6 = .pointer (some ⟨u, 0, none⟩) ∧ s7 = .pointer (some ⟨v, 0, none⟩) ∧ Hid (PairS A1 A2 u v wr wx))
          case first =>
            refine wp_region_held_drew (S := fun W => W.rangeAt b1 (o1 + ds.length * 16) A1.toList ∧ W.rangeAt b2 (o2 + ds.length * 16) A2.toList) (by kernel_rfl) ?_ (fun hHeld => ?_)
            · exact ⟨range_later F1.out hbl1 (Below.refl _ _).drew, range_later F2.out hbl2 (Below.refl _ _).drew⟩
            refine tk 0 ?_ rfl (Or.inl ⟨by rfl, ?_⟩) ?_
            rotate_left
            · (intro w hSw; (try dsimp only at hSw); go_simp; try with_reducible rfl)
            try simp only [Act.put, List.setIfInBounds_toArray, List.set_cons_zero, List.set_cons_succ]
            refine tk 1 ?_ rfl (Or.inl ⟨by rfl, ?_⟩) ?_
            rotate_left
            · (intro w hSw; (try dsimp only at hSw); go_simp; try with_reducible rfl)
            try simp only [Act.put, List.setIfInBounds_toArray, List.set_cons_zero, List.set_cons_succ]
            refine tk 2 ?_ rfl (Or.inl ⟨by rfl, ?_⟩) ?_
            rotate_left
            · (intro w hSw; (try dsimp only at hSw); go_simp; try with_reducible rfl)
            try simp only [Act.put, List.setIfInBounds_toArray, List.set_cons_zero, List.set_cons_succ]
            refine tk 3 (.agg A1) rfl (yieldsIf_load_mid (by rfl) 49 _ rfl b1 (o1 + ds.length * 16) (by rfl) A1.toList _ (fun _ h => h.1) Try.underlying49 rfl (by rw [HI1.out]; simp)) ?_
            try simp only [Act.put, List.setIfInBounds_toArray, List.set_cons_zero, List.set_cons_succ]
            refine tk 4 ?_ rfl (Or.inl ⟨by rfl, ?_⟩) ?_
            rotate_left
            · (intro w hSw; (try dsimp only at hSw); go_simp; try with_reducible rfl)
            try simp only [Act.put, List.setIfInBounds_toArray, List.set_cons_zero, List.set_cons_succ]
            refine tk 5 ?_ rfl (Or.inl ⟨by rfl, ?_⟩) ?_
            rotate_left
            · (intro w hSw; (try dsimp only at hSw); go_simp; try with_reducible rfl)
            try simp only [Act.put, List.setIfInBounds_toArray, List.set_cons_zero, List.set_cons_succ]
            refine tk 6 ?_ rfl (Or.inl ⟨by rfl, ?_⟩) ?_
            rotate_left
            · (intro w hSw; (try dsimp only at hSw); go_simp; try with_reducible rfl)
            try simp only [Act.put, List.setIfInBounds_toArray, List.set_cons_zero, List.set_cons_succ]
            refine tk 7 (.agg A2) rfl (yieldsIf_load_mid (by rfl) 49 _ rfl b2 (o2 + ds.length * 16) (by rfl) A2.toList _ (fun _ h => h.2) Try.underlying49 rfl (by rw [HI2.out]; simp)) ?_
            try simp only [Act.put, List.setIfInBounds_toArray, List.set_cons_zero, List.set_cons_succ]
            refine wpAnyH_ready (rs := [8, 9]) (by kernel_rfl) (by simp) ?_
            refine rdy rfl (fun K hK => ?_) (rdy rfl (fun K hK => ?_) AllReadyH.nil)
            · go_simp
              refine hK.out _ _ ?_ (fun hHeld => ?_)
              · exact ⟨range_later hHeld.1 (by simp; omega) ((Below.refl _ _).alloc (Nat.le_refl _) _), range_later hHeld.2 (by simp; omega) ((Below.refl _ _).alloc (Nat.le_refl _) _)⟩
              clear hK K
              try simp only [Act.put, List.setIfInBounds_toArray, List.set_cons_zero, List.set_cons_succ]
              refine wpAnyH_ready (rs := [9]) (by kernel_rfl) (by simp) ?_
              refine rdy rfl (fun K hK => ?_) AllReadyH.nil
              go_simp
              refine hK.out _ _ ?_ (fun hHeld => ?_)
              · exact ⟨range_later hHeld.1 (by simp; omega) ((Below.refl _ _).alloc (Nat.le_refl _) _), range_later hHeld.2 (by simp; omega) ((Below.refl _ _).alloc (Nat.le_refl _) _)⟩
              clear hK K
              try simp only [Act.put, List.setIfInBounds_toArray, List.set_cons_zero, List.set_cons_succ]
              refine wpAnyH_ready (rs := [10]) (by kernel_rfl) (by simp) ?_
              refine rdy rfl (fun K hK => ?_) AllReadyH.nil
              rw [if_pos (by rfl)]
              refine wp_store_mid 49 _ _ rfl (wr.heap.size) 0 A1 (by rfl) (by rfl) (by rw [HZ1.out]; exact TH1.out) HI1.out HO1.out ?_
              refine hK.out _ _ ?_ (fun hHeld => ?_)
              · exact ⟨World.rangeAt_setCells_apart hHeld.1 _ _ _ (.inl (by omega)), World.rangeAt_setCells_apart hHeld.2 _ _ _ (.inl (by omega))⟩
              clear hK K
              try simp only [Act.put]
              refine wpAnyH_ready (rs := [11]) (by kernel_rfl) (by simp) ?_
              refine rdy rfl (fun K hK => ?_) AllReadyH.nil
              rw [if_pos (by rfl)]
              refine wp_store_mid 49 _ _ rfl (wr.heap.size + 1) 0 A2 (by rfl) (by rfl) (World.there_setCells (by rw [HZ2.out]; exact TH2.out) _ _ _) HI2.out HO2.out ?_
              refine hK.out _ _ ?_ (fun hHeld => ?_)
              · exact ⟨World.rangeAt_setCells_apart hHeld.1 _ _ _ (.inl (by omega)), World.rangeAt_setCells_apart hHeld.2 _ _ _ (.inl (by omega))⟩
              clear hK K
              try simp only [Act.put]
              refine wpAnyH_done (by kernel_rfl) ?_ _
              go_wp2_with fail
              go_meet
              exact ⟨wr.heap.size, wr.heap.size + 1, rfl, rfl, Lib.hid (pair_of (by omega) (by rw [HZ1.out]; exact TH1.out) (by rw [HZ2.out]; exact TH2.out) HBW.out (by omega) (by omega) (by simp <;> omega) (by simp <;> omega))⟩
            · go_simp
              refine hK.out _ _ ?_ (fun hHeld => ?_)
              · exact ⟨range_later hHeld.1 (by simp; omega) ((Below.refl _ _).alloc (Nat.le_refl _) _), range_later hHeld.2 (by simp; omega) ((Below.refl _ _).alloc (Nat.le_refl _) _)⟩
              clear hK K
              try simp only [Act.put, List.setIfInBounds_toArray, List.set_cons_zero, List.set_cons_succ]
              refine wpAnyH_ready (rs := [8]) (by kernel_rfl) (by simp) ?_
              refine rdy rfl (fun K hK => ?_) AllReadyH.nil
              go_simp
              refine hK.out _ _ ?_ (fun hHeld => ?_)
              · exact ⟨range_later hHeld.1 (by simp; omega) ((Below.refl _ _).alloc (Nat.le_refl _) _), range_later hHeld.2 (by simp; omega) ((Below.refl _ _).alloc (Nat.le_refl _) _)⟩
              clear hK K
              try simp only [Act.put, List.setIfInBounds_toArray, List.set_cons_zero, List.set_cons_succ]
              refine wpAnyH_ready (rs := [10]) (by kernel_rfl) (by simp) ?_
              refine rdy rfl (fun K hK => ?_) AllReadyH.nil
              rw [if_pos (by rfl)]
              refine wp_store_mid 49 _ _ rfl (wr.heap.size + 1) 0 A1 (by rfl) (by rfl) (by rw [HZ1.out]; exact TH2.out) HI1.out HO1.out ?_
              refine hK.out _ _ ?_ (fun hHeld => ?_)
              · exact ⟨World.rangeAt_setCells_apart hHeld.1 _ _ _ (.inl (by omega)), World.rangeAt_setCells_apart hHeld.2 _ _ _ (.inl (by omega))⟩
              clear hK K
              try simp only [Act.put]
              refine wpAnyH_ready (rs := [11]) (by kernel_rfl) (by simp) ?_
              refine rdy rfl (fun K hK => ?_) AllReadyH.nil
              rw [if_pos (by rfl)]
              refine wp_store_mid 49 _ _ rfl (wr.heap.size) 0 A2 (by rfl) (by rfl) (World.there_setCells (by rw [HZ2.out]; exact TH1.out) _ _ _) HI2.out HO2.out ?_
              refine hK.out _ _ ?_ (fun hHeld => ?_)
              · exact ⟨World.rangeAt_setCells_apart hHeld.1 _ _ _ (.inl (by omega)), World.rangeAt_setCells_apart hHeld.2 _ _ _ (.inl (by omega))⟩
              clear hK K
              try simp only [Act.put]
              refine wpAnyH_done (by kernel_rfl) ?_ _
              go_wp2_with fail
              go_meet
              exact ⟨wr.heap.size + 1, wr.heap.size, rfl, rfl, Lib.hid (pair_of (by omega) (by rw [HZ1.out]; exact TH2.out) (by rw [HZ2.out]; exact TH1.out) HBW.out (by omega) (by omega) (by simp <;> omega) (by simp <;> omega))⟩
          case rest =>
            obtain ⟨wo, rfl⟩ : ∃ wo : World, wo = wr := ⟨_, rfl⟩
            obtain ⟨u, v, rfl, rfl, hP⟩ := hcut
            obtain ⟨kd, nm, ns, e, a, g, lo, hi, bd, el⟩ := y1
            obtain ⟨kd', nm', ns', e', a', g', lo', hi', bd', el'⟩ := y2
            have hsb := HLS.out _ (by rw [E1.out]; exact List.mem_append_right _ (List.mem_cons_self ..))
            simp only [St.size] at hsb
            have NE := Lib.hid (show xs = ys → ¬ (¬ St.mk kd nm ns e a g lo hi bd el = St.mk kd' nm' ns' e' a' g' lo' hi' bd' el') from fun e h => by
              rw [E1.out, E2.out] at e
              have := List.append_cancel_left e
              injection this with e6 _
              exact h e6)
            have HX := Lib.hid (show ∀ w1, Below wc.heap.size wc w1 → ∀ j v, (#[.int .i64 kd, .string (str nm), .slice s1.pn ns.length s1.cn, .int .i64 e.op, .int .u64 (e.word : Int), .string (str e.name), .slice s1.pe e.args.len s1.ce, .int .i64 a.op, .int .u64 (a.word : Int), .string (str a.name), .slice s1.pa a.args.len s1.ca, .slice s1.pg g.len s1.cg, .int .u64 (lo : Int), .int .u64 (hi : Int), .slice s1.pb bd.len s1.cb, .slice s1.pl el.len s1.cl] : Array Value)[j]? = some v → w1.cell? ⟨u, j, none⟩ = some v from fun w1 hb j z hz => (hb.cell hP.out.lu).trans (by have := hP.out.x j z (by rw [← HA.out.1, Array.getElem?_toList]; exact hz); rw [Nat.zero_add] at this; exact this))
            have HY := Lib.hid (show ∀ w1, Below wc.heap.size wc w1 → ∀ j v', (#[.int .i64 kd', .string (str nm'), .slice s2.pn ns'.length s2.cn, .int .i64 e'.op, .int .u64 (e'.word : Int), .string (str e'.name), .slice s2.pe e'.args.len s2.ce, .int .i64 a'.op, .int .u64 (a'.word : Int), .string (str a'.name), .slice s2.pa a'.args.len s2.ca, .slice s2.pg g'.len s2.cg, .int .u64 (lo' : Int), .int .u64 (hi' : Int), .slice s2.pb bd'.len s2.cb, .slice s2.pl el'.len s2.cl] : Array Value)[j]? = some v' → w1.cell? ⟨v, j, none⟩ = some v' from fun w1 hb j z hz => (hb.cell hP.out.lv).trans (by have := hP.out.y j z (by rw [← HA.out.2, Array.getElem?_toList]; exact hz); rw [Nat.zero_add] at this; exact this))
            have HB0 := Lib.hid hP.out.bel
            have HD0 := Lib.hid (Below.refl wc.heap.size wc)
            have He := Lib.hid (fun (w1 : World) (hb : Below wo.heap.size wo w1) => rse_any e e' s1.pe s2.pe s1.ce s2.ce wo.heap.size w1 (HK.out.1.2.1.later hb (Nat.le_refl _)) (HK.out.2.2.1.later hb (Nat.le_refl _)) hb.size)
            have Ha := Lib.hid (fun (w1 : World) (hb : Below wo.heap.size wo w1) => rse_any a a' s1.pa s2.pa s1.ca s2.ca wo.heap.size w1 (HK.out.1.2.2.1.later hb (Nat.le_refl _)) (HK.out.2.2.2.1.later hb (Nat.le_refl _)) hb.size)
            have Hbd := Lib.hid (fun (w1 : World) (hb : Below wo.heap.size wo w1) => ih bd bd' (by omega) s1.pb s2.pb s1.cb s2.cb wo.heap.size w1 (Sts.In.later HK.out.1.2.2.2.2.1 hb (Nat.le_refl _)) (Sts.In.later HK.out.2.2.2.2.2.1 hb (Nat.le_refl _)) hb.size)
            have Hel := Lib.hid (fun (w1 : World) (hb : Below wo.heap.size wo w1) => ih el el' (by omega) s1.pl s2.pl s1.cl s2.cl wo.heap.size w1 (Sts.In.later HK.out.1.2.2.2.2.2.1 hb (Nat.le_refl _)) (Sts.In.later HK.out.2.2.2.2.2.2.1 hb (Nat.le_refl _)) hb.size)
            have RN1 : RowIn wo.heap.size (StrAt wo) 1 ns s1.pn := HK.out.1.1.2
            have RN2 : RowIn wo.heap.size (StrAt wo) 1 ns' s2.pn := HK.out.2.1.2
            have RG1 : RowIn wo.heap.size (Ex.At wo wo.heap.size) 4 g.toL s1.pg := Exs.rowIn HK.out.1.2.2.2.1
            have RG2 : RowIn wo.heap.size (Ex.At wo wo.heap.size) 4 g'.toL s2.pg := Exs.rowIn HK.out.2.2.2.2.1
            have hmn1 : ns.length ≤ 140737488355328 := RN1.1
            have hmn2 : ns'.length ≤ 140737488355328 := RN2.1
            have hmg1 : g.len ≤ 140737488355328 := by rw [Exs.toL_len]; exact RG1.1
            have hmg2 : g'.len ≤ 140737488355328 := by rw [Exs.toL_len]; exact RG2.1
            have HR := Lib.hid (And.intro (Row.start RN1) (And.intro (Row.start RN2) (And.intro (Row.start RG1) (Row.start RG2))))
            unfold Ex.val at He Ha
            clear hP HK HA TH1 TH2 HBW HI1 HI2 F1 F2 HO1 HO2 HZ1 HZ2 ih hsb HLS S1 S2 RN1 RN2 RG1 RG2
            by_cases hvkd : kd = kd'
            · have Ekd := Lib.hid hvkd
              subst hvkd
              by_cases hvnm : nm = nm'
              · have Enm := Lib.hid hvnm
                have Tnm := str_beq_eq nm
                subst hvnm
                by_cases hvlo : lo = lo'
                · have Elo := Lib.hid hvlo
                  subst hvlo
                  by_cases hvhi : hi = hi'
                  · have Ehi := Lib.hid hvhi
                    subst hvhi
                    by_cases hvns : ns.length = ns'.length
                    · have Lns := Lib.hid hvns
                      have hlns : ((ns.length : Int) != (ns'.length : Int)) = false := by simp [hvns]
                      clear hvns
                      by_cases hvg : g.len = g'.len
                      · have Lg := Lib.hid hvg
                        have hlg : ((g.len : Int) != (g'.len : Int)) = false := by simp [hvg]
                        clear hvg
                        have gx0_0 : wc.cell? ⟨u, 0, none⟩ = some (.int .i64 kd) := HX.out _ (Below.refl _ _) 0 _ rfl
                        have gy0_0 : wc.cell? ⟨v, 0, none⟩ = some (.int .i64 kd) := HY.out _ (Below.refl _ _) 0 _ rfl
                        have gx0_1 : wc.cell? ⟨u, 1, none⟩ = some (.string (str nm)) := HX.out _ (Below.refl _ _) 1 _ rfl
                        have gy0_1 : wc.cell? ⟨v, 1, none⟩ = some (.string (str nm)) := HY.out _ (Below.refl _ _) 1 _ rfl
                        have gx0_12 : wc.cell? ⟨u, 12, none⟩ = some (.int .u64 (lo : Int)) := HX.out _ (Below.refl _ _) 12 _ rfl
                        have gy0_12 : wc.cell? ⟨v, 12, none⟩ = some (.int .u64 (lo : Int)) := HY.out _ (Below.refl _ _) 12 _ rfl
                        have gx0_13 : wc.cell? ⟨u, 13, none⟩ = some (.int .u64 (hi : Int)) := HX.out _ (Below.refl _ _) 13 _ rfl
                        have gy0_13 : wc.cell? ⟨v, 13, none⟩ = some (.int .u64 (hi : Int)) := HY.out _ (Below.refl _ _) 13 _ rfl
                        have gx0_2 : wc.cell? ⟨u, 2, none⟩ = some (.slice s1.pn ns.length s1.cn) := HX.out _ (Below.refl _ _) 2 _ rfl
                        have gy0_2 : wc.cell? ⟨v, 2, none⟩ = some (.slice s2.pn ns'.length s2.cn) := HY.out _ (Below.refl _ _) 2 _ rfl
                        have gx0_11 : wc.cell? ⟨u, 11, none⟩ = some (.slice s1.pg g.len s1.cg) := HX.out _ (Below.refl _ _) 11 _ rfl
                        have gy0_11 : wc.cell? ⟨v, 11, none⟩ = some (.slice s2.pg g'.len s2.cg) := HY.out _ (Below.refl _ _) 11 _ rfl
                        obtain ⟨⟨bn, on, hpn, hbn, han⟩, ⟨bm, om, hpm, hbm, ham⟩, ⟨bg, og, hpg, hbg, hag⟩, ⟨bk, ok, hpk, hbk, hak⟩⟩ := HR.out
                        have HAn := Lib.hid (And.intro han (And.intro ham (And.intro hag hak)))
                        have HPn := Lib.hid (And.intro hpn (And.intro hpm (And.intro hpg hpk)))
                        have HBn := Lib.hid (And.intro hbn (And.intro hbm (And.intro hbg hbk)))
                        clear HR hpn hpm hpg hpk hbn hbm hbg hbk han ham hag hak
                        go_wp2_with fail
                        clear gx0_0 gy0_0 gx0_1 gy0_1 gx0_12 gy0_12 gx0_13 gy0_13 gx0_2 gy0_2 gx0_11 gy0_11 Tnm hlns hlg
                        go_loopw [8] (fun i wr => ∃ (dn rn rn' : List (List UInt8)), i = .int .i64 dn.length ∧ dn.length + rn.length = ns.length ∧ rn'.length = rn.length ∧ Hid (ns = dn ++ rn) ∧ Hid (ns' = dn ++ rn') ∧ Hid (Below wc.heap.size wc wr)) (fun i _ => ns.length - (intOf i).toNat)
                        case atStart => exact ⟨[], ns, ns', rfl, by simp, Lns.out.symm, Lib.hid rfl, Lib.hid rfl, HD0⟩
                        case round =>
                          obtain ⟨dn, rn, rn', rfl, hk1, hk2, G1, G2, hB2⟩ := hrel
                          obtain ⟨w2, rfl⟩ : ∃ w2 : World, w2 = wr := ⟨_, rfl⟩
                          cases rn with
                          | cons z1 rn =>
                            cases rn' with
                            | nil => simp at hk2
                            | cons z2 rn' =>
                              simp only [List.length_cons] at hk1 hk2
                              have hlt2 : dn.length < ns.length := by omega
                              have hlt3 : dn.length < ns'.length := by rw [G2.out, List.length_append, List.length_cons]; omega
                              have hpn : s1.pn = some ⟨bn, on, none⟩ := by rcases HPn.out.1 with h0 | h0; (· omega); (· exact h0)
                              have hpm : s2.pn = some ⟨bm, om, none⟩ := by rcases HPn.out.2.1 with h0 | h0; (· omega); (· exact h0)
                              have HBo := Lib.hid (HB0.out.trans (hB2.out.mono HB0.out.size))
                              have hs1 : w2.cell? ⟨bn, on + dn.length, none⟩ = some (.string (str z1)) := by
                                have h1 := Row.get (i := dn.length) (x := z1) HAn.out.1 (by rw [G1.out]; simp)
                                rw [Nat.mul_one] at h1
                                exact StrAt.later HBo.out z1 bn _ (by have := HBn.out.1; omega) h1
                              have hs2 : w2.cell? ⟨bm, om + dn.length, none⟩ = some (.string (str z2)) := by
                                have h1 := Row.get (i := dn.length) (x := z2) HAn.out.2.1 (by rw [G2.out]; simp)
                                rw [Nat.mul_one] at h1
                                exact StrAt.later HBo.out z2 bm _ (by have := HBn.out.2.1; omega) h1
                              have c2 : w2.cell? ⟨u, 2, none⟩ = some (.slice (some ⟨bn, on, none⟩) ns.length s1.cn) := by rw [← hpn]; exact HX.out _ hB2.out 2 _ rfl
                              have c3 : w2.cell? ⟨v, 2, none⟩ = some (.slice (some ⟨bm, om, none⟩) ns'.length s2.cn) := by rw [← hpm]; exact HY.out _ hB2.out 2 _ rfl
                              clear hpn hpm
                              have e2 : w2.drew.cell? ⟨u, 2, none⟩ = some (.slice (some ⟨bn, on, none⟩) ns.length s1.cn) := c2
                              have e3 : w2.drew.cell? ⟨v, 2, none⟩ = some (.slice (some ⟨bm, om, none⟩) ns'.length s2.cn) := c3
                              have e4 : w2.drew.cell? ⟨bn, on + dn.length, none⟩ = some (.string (str z1)) := hs1
                              have e5 : w2.drew.cell? ⟨bm, om + dn.length, none⟩ = some (.string (str z2)) := hs2
                              have HD2 := Lib.hid hB2.out.drew
                              by_cases hz : z1 = z2
                              · have Tz := (show ((str z1).toList == (str z2).toList) = true by rw [hz]; exact str_beq_eq z2)
                                go_upto_region 12 with fail
                                refine wp_region_held_drew (S := fun W => W.cell? ⟨u, 2, none⟩ = some (.slice (some ⟨bn, on, none⟩) ns.length s1.cn) ∧ W.cell? ⟨v, 2, none⟩ = some (.slice (some ⟨bm, om, none⟩) ns'.length s2.cn) ∧ W.cell? ⟨bn, on + dn.length, none⟩ = some (.string (str z1)) ∧ W.cell? ⟨bm, om + dn.length, none⟩ = some (.string (str z2))) (by kernel_rfl) ?_ (fun hHeld => ?_)
                                · exact ⟨e2, e3, e4, e5⟩
                                refine tk 0 ?_ rfl (Or.inl ⟨by rfl, ?_⟩) ?_
                                rotate_left
                                · (intro w hSw; (try dsimp only at hSw); go_simp; try with_reducible rfl)
                                try simp only [Act.put, List.setIfInBounds_toArray, List.set_cons_zero, List.set_cons_succ]
                                refine tk 1 ?_ rfl (Or.inl ⟨by rfl, ?_⟩) ?_
                                rotate_left
                                · (intro w hSw; (try dsimp only at hSw); go_simp; try with_reducible rfl)
                                try simp only [Act.put, List.setIfInBounds_toArray, List.set_cons_zero, List.set_cons_succ]
                                refine tk 2 ?_ rfl (Or.inl ⟨by rfl, ?_⟩) ?_
                                rotate_left
                                · (intro w hSw; (try dsimp only at hSw); go_simp; try with_reducible rfl)
                                try simp only [Act.put, List.setIfInBounds_toArray, List.set_cons_zero, List.set_cons_succ]
                                refine tk 3 ?_ rfl (Or.inl ⟨by rfl, ?_⟩) ?_
                                rotate_left
                                · (intro w hSw; (try dsimp only at hSw); go_simp; try with_reducible rfl)
                                try simp only [Act.put, List.setIfInBounds_toArray, List.set_cons_zero, List.set_cons_succ]
                                refine tk 4 ?_ rfl (Or.inl ⟨by rfl, ?_⟩) ?_
                                rotate_left
                                · (intro w hSw; (try dsimp only at hSw); go_simp; try with_reducible rfl)
                                try simp only [Act.put, List.setIfInBounds_toArray, List.set_cons_zero, List.set_cons_succ]
                                refine tk 5 ?_ rfl (Or.inl ⟨by rfl, ?_⟩) ?_
                                rotate_left
                                · (intro w hSw; (try dsimp only at hSw); go_simp; try with_reducible rfl)
                                try simp only [Act.put, List.setIfInBounds_toArray, List.set_cons_zero, List.set_cons_succ]
                                refine tk 6 ?_ rfl (Or.inl ⟨by rfl, ?_⟩) ?_
                                rotate_left
                                · (intro w hSw; (try dsimp only at hSw); go_simp; try with_reducible rfl)
                                try simp only [Act.put, List.setIfInBounds_toArray, List.set_cons_zero, List.set_cons_succ]
                                refine tk 7 ?_ rfl (Or.inl ⟨by rfl, ?_⟩) ?_
                                rotate_left
                                · (intro w hSw; (try dsimp only at hSw); go_simp; try with_reducible rfl)
                                try simp only [Act.put, List.setIfInBounds_toArray, List.set_cons_zero, List.set_cons_succ]
                                refine tk 8 ?_ rfl (Or.inl ⟨by rfl, ?_⟩) ?_
                                rotate_left
                                · (intro w hSw; (try dsimp only at hSw); go_simp; try with_reducible rfl)
                                try simp only [Act.put, List.setIfInBounds_toArray, List.set_cons_zero, List.set_cons_succ]
                                refine tk 9 ?_ rfl (Or.inl ⟨by rfl, ?_⟩) ?_
                                rotate_left
                                · (intro w hSw; (try dsimp only at hSw); go_simp; try with_reducible rfl)
                                try simp only [Act.put, List.setIfInBounds_toArray, List.set_cons_zero, List.set_cons_succ]
                                refine tk 10 (.bool false) rfl (Or.inl ⟨by rfl, ?_⟩) ?_
                                · (intro w hSw; (try dsimp only at hSw); go_simp)
                                try simp only [Act.put, List.setIfInBounds_toArray, List.set_cons_zero, List.set_cons_succ]
                                refine wpAnyH_done (by kernel_rfl) ?_ _
                                go_wp2_with fail
                                go_roundw
                                case rel => exact ⟨dn ++ [z1], rn, rn', by rw [List.length_append]; go_num, by simp; omega, by omega, Lib.hid (by rw [G1.out]; simp), Lib.hid (by rw [G2.out, hz]; simp), HD2⟩
                                case measure => simp [intOf]; omega
                              · have Tz := str_beq_ne hz
                                go_upto_region 12 with fail
                                refine wp_region_held_drew (S := fun W => W.cell? ⟨u, 2, none⟩ = some (.slice (some ⟨bn, on, none⟩) ns.length s1.cn) ∧ W.cell? ⟨v, 2, none⟩ = some (.slice (some ⟨bm, om, none⟩) ns'.length s2.cn) ∧ W.cell? ⟨bn, on + dn.length, none⟩ = some (.string (str z1)) ∧ W.cell? ⟨bm, om + dn.length, none⟩ = some (.string (str z2))) (by kernel_rfl) ?_ (fun hHeld => ?_)
                                · exact ⟨e2, e3, e4, e5⟩
                                refine tk 0 ?_ rfl (Or.inl ⟨by rfl, ?_⟩) ?_
                                rotate_left
                                · (intro w hSw; (try dsimp only at hSw); go_simp; try with_reducible rfl)
                                try simp only [Act.put, List.setIfInBounds_toArray, List.set_cons_zero, List.set_cons_succ]
                                refine tk 1 ?_ rfl (Or.inl ⟨by rfl, ?_⟩) ?_
                                rotate_left
                                · (intro w hSw; (try dsimp only at hSw); go_simp; try with_reducible rfl)
                                try simp only [Act.put, List.setIfInBounds_toArray, List.set_cons_zero, List.set_cons_succ]
                                refine tk 2 ?_ rfl (Or.inl ⟨by rfl, ?_⟩) ?_
                                rotate_left
                                · (intro w hSw; (try dsimp only at hSw); go_simp; try with_reducible rfl)
                                try simp only [Act.put, List.setIfInBounds_toArray, List.set_cons_zero, List.set_cons_succ]
                                refine tk 3 ?_ rfl (Or.inl ⟨by rfl, ?_⟩) ?_
                                rotate_left
                                · (intro w hSw; (try dsimp only at hSw); go_simp; try with_reducible rfl)
                                try simp only [Act.put, List.setIfInBounds_toArray, List.set_cons_zero, List.set_cons_succ]
                                refine tk 4 ?_ rfl (Or.inl ⟨by rfl, ?_⟩) ?_
                                rotate_left
                                · (intro w hSw; (try dsimp only at hSw); go_simp; try with_reducible rfl)
                                try simp only [Act.put, List.setIfInBounds_toArray, List.set_cons_zero, List.set_cons_succ]
                                refine tk 5 ?_ rfl (Or.inl ⟨by rfl, ?_⟩) ?_
                                rotate_left
                                · (intro w hSw; (try dsimp only at hSw); go_simp; try with_reducible rfl)
                                try simp only [Act.put, List.setIfInBounds_toArray, List.set_cons_zero, List.set_cons_succ]
                                refine tk 6 ?_ rfl (Or.inl ⟨by rfl, ?_⟩) ?_
                                rotate_left
                                · (intro w hSw; (try dsimp only at hSw); go_simp; try with_reducible rfl)
                                try simp only [Act.put, List.setIfInBounds_toArray, List.set_cons_zero, List.set_cons_succ]
                                refine tk 7 ?_ rfl (Or.inl ⟨by rfl, ?_⟩) ?_
                                rotate_left
                                · (intro w hSw; (try dsimp only at hSw); go_simp; try with_reducible rfl)
                                try simp only [Act.put, List.setIfInBounds_toArray, List.set_cons_zero, List.set_cons_succ]
                                refine tk 8 ?_ rfl (Or.inl ⟨by rfl, ?_⟩) ?_
                                rotate_left
                                · (intro w hSw; (try dsimp only at hSw); go_simp; try with_reducible rfl)
                                try simp only [Act.put, List.setIfInBounds_toArray, List.set_cons_zero, List.set_cons_succ]
                                refine tk 9 ?_ rfl (Or.inl ⟨by rfl, ?_⟩) ?_
                                rotate_left
                                · (intro w hSw; (try dsimp only at hSw); go_simp; try with_reducible rfl)
                                try simp only [Act.put, List.setIfInBounds_toArray, List.set_cons_zero, List.set_cons_succ]
                                refine tk 10 (.bool true) rfl (Or.inl ⟨by rfl, ?_⟩) ?_
                                · (intro w hSw; (try dsimp only at hSw); go_simp)
                                try simp only [Act.put, List.setIfInBounds_toArray, List.set_cons_zero, List.set_cons_succ]
                                refine wpAnyH_done (by kernel_rfl) ?_ _
                                have HV := Lib.hid (eqB_false (show ¬ xs = ys from fun h => NE.out h fun h => hz (by injection h with _ _ h; rw [G1.out, G2.out] at h; have := List.append_cancel_left h; injection this)))
                                go_wp2_with fail
                                go_ret
                                exact ⟨ret_bool HV.out, hB.out.trans ((HB0.out.trans (HD2.out.mono HB0.out.size)).mono hB.out.size)⟩
                          | nil =>
                            obtain rfl : rn' = [] := List.eq_nil_of_length_eq_zero hk2
                            simp only [List.length_nil] at hk1
                            have hge2 : ¬ dn.length < ns.length := by omega
                            have Ens := Lib.hid (show ns = ns' by rw [G1.out, G2.out])
                            have c2 : w2.cell? ⟨u, 2, none⟩ = some (.slice s1.pn ns.length s1.cn) := HX.out _ hB2.out 2 _ rfl
                            have c3 : w2.cell? ⟨u, 11, none⟩ = some (.slice s1.pg g.len s1.cg) := HX.out _ hB2.out 11 _ rfl
                            clear G1 G2
                            go_wp2_with fail
                            clear c2 c3
                            have HG := Lib.hid (And.intro (Exs.toL_len g) (Exs.toL_len g'))
                            go_loopw [9] (fun i wr => ∃ (dg rg rg' : List Ex), i = .int .i64 dg.length ∧ dg.length + rg.length = g.len ∧ rg'.length = rg.length ∧ Hid (g.toL = dg ++ rg) ∧ Hid (g'.toL = dg ++ rg') ∧ Hid (Below wc.heap.size wc wr)) (fun i _ => g.len - (intOf i).toNat)
                            case atStart => exact ⟨[], g.toL, g'.toL, rfl, by rw [HG.out.1]; simp, by rw [← HG.out.1, ← HG.out.2]; exact Lg.out.symm, Lib.hid rfl, Lib.hid rfl, hB2⟩
                            case round =>
                              obtain ⟨dg, rg, rg', rfl, hk1, hk2, G1, G2, hB3⟩ := hrel
                              obtain ⟨w3, rfl⟩ : ∃ w3 : World, w3 = wr := ⟨_, rfl⟩
                              have HBo := Lib.hid (HB0.out.trans (hB3.out.mono HB0.out.size))
                              cases rg with
                              | cons z1 rg =>
                                cases rg' with
                                | nil => simp at hk2
                                | cons z2 rg' =>
                                  simp only [List.length_cons] at hk1 hk2
                                  have hlt2 : dg.length < g.len := by omega
                                  have hlt3 : dg.length < g'.len := by have := Lg.out; omega
                                  have hpn : s1.pg = some ⟨bg, og, none⟩ := by rcases HPn.out.2.2.1 with h0 | h0; (· have := HG.out.1; omega); (· exact h0)
                                  have hpm : s2.pg = some ⟨bk, ok, none⟩ := by rcases HPn.out.2.2.2 with h0 | h0; (· have := HG.out.2; omega); (· exact h0)
                                  obtain ⟨t1, c1, ok1⟩ := Ex.At.openP (Ex.At.later HBo.out HBo.out.size z1 bg _ (by have := HBn.out.2.2.1; have := HG.out.1; omega) (Row.get (i := dg.length) (x := z1) HAn.out.2.2.1 (by rw [G1.out]; simp)))
                                  obtain ⟨t2, c2, ok2⟩ := Ex.At.openP (Ex.At.later HBo.out HBo.out.size z2 bk _ (by have := HBn.out.2.2.2; have := HG.out.2; omega) (Row.get (i := dg.length) (x := z2) HAn.out.2.2.2 (by rw [G2.out]; simp)))
                                  have HC := Lib.hid (fun (w1 : World) (hb : Below w3.heap.size w3 w1) => rse_any z1 z2 t1.1 t2.1 t1.2 t2.2 w1.heap.size w1 (Ex.OkP.later ok1 hb hb.size) (Ex.OkP.later ok2 hb hb.size) (Nat.le_refl _))
                                  have EQ := Lib.hid (show (eqB z1 z2 = true → z1 = z2) ∧ (eqB z1 z2 = false → false = eqB xs ys) from ⟨eqB_of_true, fun h => eqB_false (show ¬ xs = ys from fun h' => NE.out h' fun h' => by
                                    injection h' with _ _ _ _ _ h'
                                    have e := congrArg Exs.toL h'
                                    rw [G1.out, G2.out] at e
                                    have := List.append_cancel_left e
                                    injection this with e6 _
                                    exact eqB_of_false h e6)⟩)
                                  have c11 : w3.cell? ⟨u, 11, none⟩ = some (.slice (some ⟨bg, og, none⟩) g.len s1.cg) := by rw [← hpn]; exact HX.out _ hB3.out 11 _ rfl
                                  have d11 : w3.cell? ⟨v, 11, none⟩ = some (.slice (some ⟨bk, ok, none⟩) g'.len s2.cg) := by rw [← hpm]; exact HY.out _ hB3.out 11 _ rfl
                                  have g0 : w3.cell? ⟨bg, og + dg.length * 4, none⟩ = some (.int .i64 z1.op) := c1 0 _ rfl
                                  have m0 : w3.cell? ⟨bk, ok + dg.length * 4, none⟩ = some (.int .i64 z2.op) := c2 0 _ rfl
                                  have g1 : w3.cell? ⟨bg, og + dg.length * 4 + 1, none⟩ = some (.int .u64 (z1.word : Int)) := c1 1 _ rfl
                                  have m1 : w3.cell? ⟨bk, ok + dg.length * 4 + 1, none⟩ = some (.int .u64 (z2.word : Int)) := c2 1 _ rfl
                                  have g2 : w3.cell? ⟨bg, og + dg.length * 4 + 2, none⟩ = some (.string (str z1.name)) := c1 2 _ rfl
                                  have m2 : w3.cell? ⟨bk, ok + dg.length * 4 + 2, none⟩ = some (.string (str z2.name)) := c2 2 _ rfl
                                  have g3 : w3.cell? ⟨bg, og + dg.length * 4 + 3, none⟩ = some (.slice t1.1 z1.args.len t1.2) := c1 3 _ rfl
                                  have m3 : w3.cell? ⟨bk, ok + dg.length * 4 + 3, none⟩ = some (.slice t2.1 z2.args.len t2.2) := c2 3 _ rfl
                                  clear c1 c2 ok1 ok2 hpn hpm
                                  unfold Ex.val at HC
                                  generalize eqB z1 z2 = v' at HC EQ
                                  have HD := Lib.hid (Below.refl w3.heap.size w3).drew
                                  cases v' with
                                  | true =>
                                    have hy := Lib.hid (EQ.out.1 rfl)
                                    clear EQ
                                    go_wp2_with fail
                                    go_still_tail 10, (by kernel_rfl)
                                    change wpList _ _ _ _ _ (World.drew _)
                                    go_wp2_with (go_at_call 44; refine (HC.out _ HD.out).mono ?_; rintro e w' ⟨rfl, hB1⟩)
                                    go_roundw
                                    case rel => exact ⟨dg ++ [z1], rg, rg', by rw [List.length_append]; go_num, by simp; omega, by omega, Lib.hid (by rw [G1.out]; simp), Lib.hid (by rw [G2.out, hy.out]; simp), Lib.hid (hB3.out.trans ((HD.out.trans hB1).mono hB3.out.size))⟩
                                    case measure => simp [intOf]; omega
                                  | false =>
                                    have hy := Lib.hid (EQ.out.2 rfl)
                                    clear EQ
                                    go_wp2_with fail
                                    go_still_tail 10, (by kernel_rfl)
                                    change wpList _ _ _ _ _ (World.drew _)
                                    go_wp2_with (go_at_call 44; refine (HC.out _ HD.out).mono ?_; rintro e w' ⟨rfl, hB1⟩)
                                    go_ret
                                    exact ⟨ret_bool hy.out, hB.out.trans ((HBo.out.trans ((HD.out.trans hB1).mono HBo.out.size)).mono hB.out.size)⟩
                              | nil =>
                                obtain rfl : rg' = [] := List.eq_nil_of_length_eq_zero hk2
                                simp only [List.length_nil] at hk1
                                have hge3 : ¬ dg.length < g.len := by omega
                                have Eg := Lib.hid (show g = g' from Exs.toL_inj (by rw [G1.out, G2.out]))
                                have c11 : w3.cell? ⟨u, 11, none⟩ = some (.slice s1.pg g.len s1.cg) := HX.out _ hB3.out 11 _ rfl
                                have HD3 := Lib.hid hB3.out
                                clear G1 G2
                                cases hve : eqB e e' with
                                | false =>
                                  rw [hve] at He
                                  have HV := Lib.hid (eqB_false (show ¬ xs = ys from fun h => NE.out h fun h => eqB_of_false hve (by injection h)))
                                  clear hve
                                  have gx3_3 : w3.cell? ⟨u, 3, none⟩ = some (.int .i64 e.op) := HX.out _ HD3.out 3 _ rfl
                                  have gy3_3 : w3.cell? ⟨v, 3, none⟩ = some (.int .i64 e'.op) := HY.out _ HD3.out 3 _ rfl
                                  have gx3_4 : w3.cell? ⟨u, 4, none⟩ = some (.int .u64 (e.word : Int)) := HX.out _ HD3.out 4 _ rfl
                                  have gy3_4 : w3.cell? ⟨v, 4, none⟩ = some (.int .u64 (e'.word : Int)) := HY.out _ HD3.out 4 _ rfl
                                  have gx3_5 : w3.cell? ⟨u, 5, none⟩ = some (.string (str e.name)) := HX.out _ HD3.out 5 _ rfl
                                  have gy3_5 : w3.cell? ⟨v, 5, none⟩ = some (.string (str e'.name)) := HY.out _ HD3.out 5 _ rfl
                                  have gx3_6 : w3.cell? ⟨u, 6, none⟩ = some (.slice s1.pe e.args.len s1.ce) := HX.out _ HD3.out 6 _ rfl
                                  have gy3_6 : w3.cell? ⟨v, 6, none⟩ = some (.slice s2.pe e'.args.len s2.ce) := HY.out _ HD3.out 6 _ rfl
                                  go_wp2_with fail
                                  refine (He.out _ HBo.out).mono ?_
                                  rintro z w4 ⟨rfl, hB'⟩
                                  have HBo4 := Lib.hid (HBo.out.trans (hB'.mono HBo.out.size))
                                  have HD4 := Lib.hid (HD3.out.trans (hB'.mono HD3.out.size))
                                  clear hB'
                                  go_wp2_with fail
                                  go_ret
                                  exact ⟨ret_bool HV.out, hB.out.trans (HBo4.out.mono hB.out.size)⟩
                                | true =>
                                  rw [hve] at He
                                  have Ee := Lib.hid (eqB_of_true hve)
                                  clear hve
                                  cases hva : eqB a a' with
                                  | false =>
                                    rw [hva] at Ha
                                    have HV := Lib.hid (eqB_false (show ¬ xs = ys from fun h => NE.out h fun h => eqB_of_false hva (by injection h)))
                                    clear hva
                                    have gx3_3 : w3.cell? ⟨u, 3, none⟩ = some (.int .i64 e.op) := HX.out _ HD3.out 3 _ rfl
                                    have gy3_3 : w3.cell? ⟨v, 3, none⟩ = some (.int .i64 e'.op) := HY.out _ HD3.out 3 _ rfl
                                    have gx3_4 : w3.cell? ⟨u, 4, none⟩ = some (.int .u64 (e.word : Int)) := HX.out _ HD3.out 4 _ rfl
                                    have gy3_4 : w3.cell? ⟨v, 4, none⟩ = some (.int .u64 (e'.word : Int)) := HY.out _ HD3.out 4 _ rfl
                                    have gx3_5 : w3.cell? ⟨u, 5, none⟩ = some (.string (str e.name)) := HX.out _ HD3.out 5 _ rfl
                                    have gy3_5 : w3.cell? ⟨v, 5, none⟩ = some (.string (str e'.name)) := HY.out _ HD3.out 5 _ rfl
                                    have gx3_6 : w3.cell? ⟨u, 6, none⟩ = some (.slice s1.pe e.args.len s1.ce) := HX.out _ HD3.out 6 _ rfl
                                    have gy3_6 : w3.cell? ⟨v, 6, none⟩ = some (.slice s2.pe e'.args.len s2.ce) := HY.out _ HD3.out 6 _ rfl
                                    go_wp2_with fail
                                    refine (He.out _ HBo.out).mono ?_
                                    rintro z w4 ⟨rfl, hB'⟩
                                    have HBo4 := Lib.hid (HBo.out.trans (hB'.mono HBo.out.size))
                                    have HD4 := Lib.hid (HD3.out.trans (hB'.mono HD3.out.size))
                                    clear hB'
                                    have gx4_7 : w4.cell? ⟨u, 7, none⟩ = some (.int .i64 a.op) := HX.out _ HD4.out 7 _ rfl
                                    have gy4_7 : w4.cell? ⟨v, 7, none⟩ = some (.int .i64 a'.op) := HY.out _ HD4.out 7 _ rfl
                                    have gx4_8 : w4.cell? ⟨u, 8, none⟩ = some (.int .u64 (a.word : Int)) := HX.out _ HD4.out 8 _ rfl
                                    have gy4_8 : w4.cell? ⟨v, 8, none⟩ = some (.int .u64 (a'.word : Int)) := HY.out _ HD4.out 8 _ rfl
                                    have gx4_9 : w4.cell? ⟨u, 9, none⟩ = some (.string (str a.name)) := HX.out _ HD4.out 9 _ rfl
                                    have gy4_9 : w4.cell? ⟨v, 9, none⟩ = some (.string (str a'.name)) := HY.out _ HD4.out 9 _ rfl
                                    have gx4_10 : w4.cell? ⟨u, 10, none⟩ = some (.slice s1.pa a.args.len s1.ca) := HX.out _ HD4.out 10 _ rfl
                                    have gy4_10 : w4.cell? ⟨v, 10, none⟩ = some (.slice s2.pa a'.args.len s2.ca) := HY.out _ HD4.out 10 _ rfl
                                    go_wp2_with fail
                                    refine (Ha.out _ HBo4.out).mono ?_
                                    rintro z w5 ⟨rfl, hB'⟩
                                    have HBo5 := Lib.hid (HBo4.out.trans (hB'.mono HBo4.out.size))
                                    have HD5 := Lib.hid (HD4.out.trans (hB'.mono HD4.out.size))
                                    clear hB'
                                    go_wp2_with fail
                                    go_ret
                                    exact ⟨ret_bool HV.out, hB.out.trans (HBo5.out.mono hB.out.size)⟩
                                  | true =>
                                    rw [hva] at Ha
                                    have Ea := Lib.hid (eqB_of_true hva)
                                    clear hva
                                    cases hvbd : eqB bd bd' with
                                    | false =>
                                      rw [hvbd] at Hbd
                                      have HV := Lib.hid (eqB_false (show ¬ xs = ys from fun h => NE.out h fun h => eqB_of_false hvbd (by injection h)))
                                      clear hvbd
                                      have gx3_3 : w3.cell? ⟨u, 3, none⟩ = some (.int .i64 e.op) := HX.out _ HD3.out 3 _ rfl
                                      have gy3_3 : w3.cell? ⟨v, 3, none⟩ = some (.int .i64 e'.op) := HY.out _ HD3.out 3 _ rfl
                                      have gx3_4 : w3.cell? ⟨u, 4, none⟩ = some (.int .u64 (e.word : Int)) := HX.out _ HD3.out 4 _ rfl
                                      have gy3_4 : w3.cell? ⟨v, 4, none⟩ = some (.int .u64 (e'.word : Int)) := HY.out _ HD3.out 4 _ rfl
                                      have gx3_5 : w3.cell? ⟨u, 5, none⟩ = some (.string (str e.name)) := HX.out _ HD3.out 5 _ rfl
                                      have gy3_5 : w3.cell? ⟨v, 5, none⟩ = some (.string (str e'.name)) := HY.out _ HD3.out 5 _ rfl
                                      have gx3_6 : w3.cell? ⟨u, 6, none⟩ = some (.slice s1.pe e.args.len s1.ce) := HX.out _ HD3.out 6 _ rfl
                                      have gy3_6 : w3.cell? ⟨v, 6, none⟩ = some (.slice s2.pe e'.args.len s2.ce) := HY.out _ HD3.out 6 _ rfl
                                      go_wp2_with fail
                                      refine (He.out _ HBo.out).mono ?_
                                      rintro z w4 ⟨rfl, hB'⟩
                                      have HBo4 := Lib.hid (HBo.out.trans (hB'.mono HBo.out.size))
                                      have HD4 := Lib.hid (HD3.out.trans (hB'.mono HD3.out.size))
                                      clear hB'
                                      have gx4_7 : w4.cell? ⟨u, 7, none⟩ = some (.int .i64 a.op) := HX.out _ HD4.out 7 _ rfl
                                      have gy4_7 : w4.cell? ⟨v, 7, none⟩ = some (.int .i64 a'.op) := HY.out _ HD4.out 7 _ rfl
                                      have gx4_8 : w4.cell? ⟨u, 8, none⟩ = some (.int .u64 (a.word : Int)) := HX.out _ HD4.out 8 _ rfl
                                      have gy4_8 : w4.cell? ⟨v, 8, none⟩ = some (.int .u64 (a'.word : Int)) := HY.out _ HD4.out 8 _ rfl
                                      have gx4_9 : w4.cell? ⟨u, 9, none⟩ = some (.string (str a.name)) := HX.out _ HD4.out 9 _ rfl
                                      have gy4_9 : w4.cell? ⟨v, 9, none⟩ = some (.string (str a'.name)) := HY.out _ HD4.out 9 _ rfl
                                      have gx4_10 : w4.cell? ⟨u, 10, none⟩ = some (.slice s1.pa a.args.len s1.ca) := HX.out _ HD4.out 10 _ rfl
                                      have gy4_10 : w4.cell? ⟨v, 10, none⟩ = some (.slice s2.pa a'.args.len s2.ca) := HY.out _ HD4.out 10 _ rfl
                                      go_wp2_with fail
                                      refine (Ha.out _ HBo4.out).mono ?_
                                      rintro z w5 ⟨rfl, hB'⟩
                                      have HBo5 := Lib.hid (HBo4.out.trans (hB'.mono HBo4.out.size))
                                      have HD5 := Lib.hid (HD4.out.trans (hB'.mono HD4.out.size))
                                      clear hB'
                                      have gx5_14 : w5.cell? ⟨u, 14, none⟩ = some (.slice s1.pb bd.len s1.cb) := HX.out _ HD5.out 14 _ rfl
                                      have gy5_14 : w5.cell? ⟨v, 14, none⟩ = some (.slice s2.pb bd'.len s2.cb) := HY.out _ HD5.out 14 _ rfl
                                      go_wp2_with fail
                                      refine (Hbd.out _ HBo5.out).mono ?_
                                      rintro z w6 ⟨rfl, hB'⟩
                                      have HBo6 := Lib.hid (HBo5.out.trans (hB'.mono HBo5.out.size))
                                      have HD6 := Lib.hid (HD5.out.trans (hB'.mono HD5.out.size))
                                      clear hB'
                                      go_wp2_with fail
                                      go_ret
                                      exact ⟨ret_bool HV.out, hB.out.trans (HBo6.out.mono hB.out.size)⟩
                                    | true =>
                                      rw [hvbd] at Hbd
                                      have Ebd := Lib.hid (eqB_of_true hvbd)
                                      clear hvbd
                                      cases hvel : eqB el el' with
                                      | false =>
                                        rw [hvel] at Hel
                                        have HV := Lib.hid (eqB_false (show ¬ xs = ys from fun h => NE.out h fun h => eqB_of_false hvel (by injection h)))
                                        clear hvel
                                        have gx3_3 : w3.cell? ⟨u, 3, none⟩ = some (.int .i64 e.op) := HX.out _ HD3.out 3 _ rfl
                                        have gy3_3 : w3.cell? ⟨v, 3, none⟩ = some (.int .i64 e'.op) := HY.out _ HD3.out 3 _ rfl
                                        have gx3_4 : w3.cell? ⟨u, 4, none⟩ = some (.int .u64 (e.word : Int)) := HX.out _ HD3.out 4 _ rfl
                                        have gy3_4 : w3.cell? ⟨v, 4, none⟩ = some (.int .u64 (e'.word : Int)) := HY.out _ HD3.out 4 _ rfl
                                        have gx3_5 : w3.cell? ⟨u, 5, none⟩ = some (.string (str e.name)) := HX.out _ HD3.out 5 _ rfl
                                        have gy3_5 : w3.cell? ⟨v, 5, none⟩ = some (.string (str e'.name)) := HY.out _ HD3.out 5 _ rfl
                                        have gx3_6 : w3.cell? ⟨u, 6, none⟩ = some (.slice s1.pe e.args.len s1.ce) := HX.out _ HD3.out 6 _ rfl
                                        have gy3_6 : w3.cell? ⟨v, 6, none⟩ = some (.slice s2.pe e'.args.len s2.ce) := HY.out _ HD3.out 6 _ rfl
                                        go_wp2_with fail
                                        refine (He.out _ HBo.out).mono ?_
                                        rintro z w4 ⟨rfl, hB'⟩
                                        have HBo4 := Lib.hid (HBo.out.trans (hB'.mono HBo.out.size))
                                        have HD4 := Lib.hid (HD3.out.trans (hB'.mono HD3.out.size))
                                        clear hB'
                                        have gx4_7 : w4.cell? ⟨u, 7, none⟩ = some (.int .i64 a.op) := HX.out _ HD4.out 7 _ rfl
                                        have gy4_7 : w4.cell? ⟨v, 7, none⟩ = some (.int .i64 a'.op) := HY.out _ HD4.out 7 _ rfl
                                        have gx4_8 : w4.cell? ⟨u, 8, none⟩ = some (.int .u64 (a.word : Int)) := HX.out _ HD4.out 8 _ rfl
                                        have gy4_8 : w4.cell? ⟨v, 8, none⟩ = some (.int .u64 (a'.word : Int)) := HY.out _ HD4.out 8 _ rfl
                                        have gx4_9 : w4.cell? ⟨u, 9, none⟩ = some (.string (str a.name)) := HX.out _ HD4.out 9 _ rfl
                                        have gy4_9 : w4.cell? ⟨v, 9, none⟩ = some (.string (str a'.name)) := HY.out _ HD4.out 9 _ rfl
                                        have gx4_10 : w4.cell? ⟨u, 10, none⟩ = some (.slice s1.pa a.args.len s1.ca) := HX.out _ HD4.out 10 _ rfl
                                        have gy4_10 : w4.cell? ⟨v, 10, none⟩ = some (.slice s2.pa a'.args.len s2.ca) := HY.out _ HD4.out 10 _ rfl
                                        go_wp2_with fail
                                        refine (Ha.out _ HBo4.out).mono ?_
                                        rintro z w5 ⟨rfl, hB'⟩
                                        have HBo5 := Lib.hid (HBo4.out.trans (hB'.mono HBo4.out.size))
                                        have HD5 := Lib.hid (HD4.out.trans (hB'.mono HD4.out.size))
                                        clear hB'
                                        have gx5_14 : w5.cell? ⟨u, 14, none⟩ = some (.slice s1.pb bd.len s1.cb) := HX.out _ HD5.out 14 _ rfl
                                        have gy5_14 : w5.cell? ⟨v, 14, none⟩ = some (.slice s2.pb bd'.len s2.cb) := HY.out _ HD5.out 14 _ rfl
                                        go_wp2_with fail
                                        refine (Hbd.out _ HBo5.out).mono ?_
                                        rintro z w6 ⟨rfl, hB'⟩
                                        have HBo6 := Lib.hid (HBo5.out.trans (hB'.mono HBo5.out.size))
                                        have HD6 := Lib.hid (HD5.out.trans (hB'.mono HD5.out.size))
                                        clear hB'
                                        have gx6_15 : w6.cell? ⟨u, 15, none⟩ = some (.slice s1.pl el.len s1.cl) := HX.out _ HD6.out 15 _ rfl
                                        have gy6_15 : w6.cell? ⟨v, 15, none⟩ = some (.slice s2.pl el'.len s2.cl) := HY.out _ HD6.out 15 _ rfl
                                        go_wp2_with fail
                                        refine (Hel.out _ HBo6.out).mono ?_
                                        rintro z w7 ⟨rfl, hB'⟩
                                        have HBo7 := Lib.hid (HBo6.out.trans (hB'.mono HBo6.out.size))
                                        have HD7 := Lib.hid (HD6.out.trans (hB'.mono HD6.out.size))
                                        clear hB'
                                        go_wp2_with fail
                                        go_ret
                                        exact ⟨ret_bool HV.out, hB.out.trans (HBo7.out.mono hB.out.size)⟩
                                      | true =>
                                        rw [hvel] at Hel
                                        have Eel := Lib.hid (eqB_of_true hvel)
                                        clear hvel
                                        have gx3_3 : w3.cell? ⟨u, 3, none⟩ = some (.int .i64 e.op) := HX.out _ HD3.out 3 _ rfl
                                        have gy3_3 : w3.cell? ⟨v, 3, none⟩ = some (.int .i64 e'.op) := HY.out _ HD3.out 3 _ rfl
                                        have gx3_4 : w3.cell? ⟨u, 4, none⟩ = some (.int .u64 (e.word : Int)) := HX.out _ HD3.out 4 _ rfl
                                        have gy3_4 : w3.cell? ⟨v, 4, none⟩ = some (.int .u64 (e'.word : Int)) := HY.out _ HD3.out 4 _ rfl
                                        have gx3_5 : w3.cell? ⟨u, 5, none⟩ = some (.string (str e.name)) := HX.out _ HD3.out 5 _ rfl
                                        have gy3_5 : w3.cell? ⟨v, 5, none⟩ = some (.string (str e'.name)) := HY.out _ HD3.out 5 _ rfl
                                        have gx3_6 : w3.cell? ⟨u, 6, none⟩ = some (.slice s1.pe e.args.len s1.ce) := HX.out _ HD3.out 6 _ rfl
                                        have gy3_6 : w3.cell? ⟨v, 6, none⟩ = some (.slice s2.pe e'.args.len s2.ce) := HY.out _ HD3.out 6 _ rfl
                                        go_wp2_with fail
                                        refine (He.out _ HBo.out).mono ?_
                                        rintro z w4 ⟨rfl, hB'⟩
                                        have HBo4 := Lib.hid (HBo.out.trans (hB'.mono HBo.out.size))
                                        have HD4 := Lib.hid (HD3.out.trans (hB'.mono HD3.out.size))
                                        clear hB'
                                        have gx4_7 : w4.cell? ⟨u, 7, none⟩ = some (.int .i64 a.op) := HX.out _ HD4.out 7 _ rfl
                                        have gy4_7 : w4.cell? ⟨v, 7, none⟩ = some (.int .i64 a'.op) := HY.out _ HD4.out 7 _ rfl
                                        have gx4_8 : w4.cell? ⟨u, 8, none⟩ = some (.int .u64 (a.word : Int)) := HX.out _ HD4.out 8 _ rfl
                                        have gy4_8 : w4.cell? ⟨v, 8, none⟩ = some (.int .u64 (a'.word : Int)) := HY.out _ HD4.out 8 _ rfl
                                        have gx4_9 : w4.cell? ⟨u, 9, none⟩ = some (.string (str a.name)) := HX.out _ HD4.out 9 _ rfl
                                        have gy4_9 : w4.cell? ⟨v, 9, none⟩ = some (.string (str a'.name)) := HY.out _ HD4.out 9 _ rfl
                                        have gx4_10 : w4.cell? ⟨u, 10, none⟩ = some (.slice s1.pa a.args.len s1.ca) := HX.out _ HD4.out 10 _ rfl
                                        have gy4_10 : w4.cell? ⟨v, 10, none⟩ = some (.slice s2.pa a'.args.len s2.ca) := HY.out _ HD4.out 10 _ rfl
                                        go_wp2_with fail
                                        refine (Ha.out _ HBo4.out).mono ?_
                                        rintro z w5 ⟨rfl, hB'⟩
                                        have HBo5 := Lib.hid (HBo4.out.trans (hB'.mono HBo4.out.size))
                                        have HD5 := Lib.hid (HD4.out.trans (hB'.mono HD4.out.size))
                                        clear hB'
                                        have gx5_14 : w5.cell? ⟨u, 14, none⟩ = some (.slice s1.pb bd.len s1.cb) := HX.out _ HD5.out 14 _ rfl
                                        have gy5_14 : w5.cell? ⟨v, 14, none⟩ = some (.slice s2.pb bd'.len s2.cb) := HY.out _ HD5.out 14 _ rfl
                                        go_wp2_with fail
                                        refine (Hbd.out _ HBo5.out).mono ?_
                                        rintro z w6 ⟨rfl, hB'⟩
                                        have HBo6 := Lib.hid (HBo5.out.trans (hB'.mono HBo5.out.size))
                                        have HD6 := Lib.hid (HD5.out.trans (hB'.mono HD5.out.size))
                                        clear hB'
                                        have gx6_15 : w6.cell? ⟨u, 15, none⟩ = some (.slice s1.pl el.len s1.cl) := HX.out _ HD6.out 15 _ rfl
                                        have gy6_15 : w6.cell? ⟨v, 15, none⟩ = some (.slice s2.pl el'.len s2.cl) := HY.out _ HD6.out 15 _ rfl
                                        go_wp2_with fail
                                        refine (Hel.out _ HBo6.out).mono ?_
                                        rintro z w7 ⟨rfl, hB'⟩
                                        have HBo7 := Lib.hid (HBo6.out.trans (hB'.mono HBo6.out.size))
                                        have HD7 := Lib.hid (HD6.out.trans (hB'.mono HD6.out.size))
                                        clear hB'
                                        go_wp2_with fail
                                        have HV := Lib.hid (show St.mk kd nm ns e a g lo hi bd el = St.mk kd nm ns' e' a' g' lo hi bd' el' by rw [Ens.out, Ee.out, Ea.out, Eg.out, Ebd.out, Eel.out])
                                        have HBE := Lib.hid (hB.out.trans (HBo7.out.mono hB.out.size))
                                        go_roundw
                                        case rel => exact ⟨ds ++ [St.mk kd nm ns e a g lo hi bd el], rs, rs', by rw [List.length_append]; go_num, Lib.hid (by rw [E1.out]; simp), Lib.hid (by rw [E2.out, ← HV.out]; simp), by simp; omega, by omega, HBE⟩
                                        case measure => simp [intOf]; omega
                      · have F := Lib.hid hvg
                        have HV := Lib.hid (eqB_false (show ¬ xs = ys from fun h => NE.out h fun h => F.out (by injection h with _ _ _ _ _ h; rw [h])))
                        have hlg : ((g.len : Int) != (g'.len : Int)) = true := by simp [bne]; omega
                        have gx0_0 : wc.cell? ⟨u, 0, none⟩ = some (.int .i64 kd) := HX.out _ (Below.refl _ _) 0 _ rfl
                        have gy0_0 : wc.cell? ⟨v, 0, none⟩ = some (.int .i64 kd) := HY.out _ (Below.refl _ _) 0 _ rfl
                        have gx0_1 : wc.cell? ⟨u, 1, none⟩ = some (.string (str nm)) := HX.out _ (Below.refl _ _) 1 _ rfl
                        have gy0_1 : wc.cell? ⟨v, 1, none⟩ = some (.string (str nm)) := HY.out _ (Below.refl _ _) 1 _ rfl
                        have gx0_12 : wc.cell? ⟨u, 12, none⟩ = some (.int .u64 (lo : Int)) := HX.out _ (Below.refl _ _) 12 _ rfl
                        have gy0_12 : wc.cell? ⟨v, 12, none⟩ = some (.int .u64 (lo : Int)) := HY.out _ (Below.refl _ _) 12 _ rfl
                        have gx0_13 : wc.cell? ⟨u, 13, none⟩ = some (.int .u64 (hi : Int)) := HX.out _ (Below.refl _ _) 13 _ rfl
                        have gy0_13 : wc.cell? ⟨v, 13, none⟩ = some (.int .u64 (hi : Int)) := HY.out _ (Below.refl _ _) 13 _ rfl
                        have gx0_2 : wc.cell? ⟨u, 2, none⟩ = some (.slice s1.pn ns.length s1.cn) := HX.out _ (Below.refl _ _) 2 _ rfl
                        have gy0_2 : wc.cell? ⟨v, 2, none⟩ = some (.slice s2.pn ns'.length s2.cn) := HY.out _ (Below.refl _ _) 2 _ rfl
                        have gx0_11 : wc.cell? ⟨u, 11, none⟩ = some (.slice s1.pg g.len s1.cg) := HX.out _ (Below.refl _ _) 11 _ rfl
                        have gy0_11 : wc.cell? ⟨v, 11, none⟩ = some (.slice s2.pg g'.len s2.cg) := HY.out _ (Below.refl _ _) 11 _ rfl
                        go_wp2_with fail
                        go_ret
                        exact ⟨ret_bool HV.out, hB.out.trans (HB0.out.mono hB.out.size)⟩
                    · have F := Lib.hid hvns
                      have HV := Lib.hid (eqB_false (show ¬ xs = ys from fun h => NE.out h fun h => F.out (by injection h with _ _ h; rw [h])))
                      have hlns : ((ns.length : Int) != (ns'.length : Int)) = true := by simp [bne]; omega
                      have gx0_0 : wc.cell? ⟨u, 0, none⟩ = some (.int .i64 kd) := HX.out _ (Below.refl _ _) 0 _ rfl
                      have gy0_0 : wc.cell? ⟨v, 0, none⟩ = some (.int .i64 kd) := HY.out _ (Below.refl _ _) 0 _ rfl
                      have gx0_1 : wc.cell? ⟨u, 1, none⟩ = some (.string (str nm)) := HX.out _ (Below.refl _ _) 1 _ rfl
                      have gy0_1 : wc.cell? ⟨v, 1, none⟩ = some (.string (str nm)) := HY.out _ (Below.refl _ _) 1 _ rfl
                      have gx0_12 : wc.cell? ⟨u, 12, none⟩ = some (.int .u64 (lo : Int)) := HX.out _ (Below.refl _ _) 12 _ rfl
                      have gy0_12 : wc.cell? ⟨v, 12, none⟩ = some (.int .u64 (lo : Int)) := HY.out _ (Below.refl _ _) 12 _ rfl
                      have gx0_13 : wc.cell? ⟨u, 13, none⟩ = some (.int .u64 (hi : Int)) := HX.out _ (Below.refl _ _) 13 _ rfl
                      have gy0_13 : wc.cell? ⟨v, 13, none⟩ = some (.int .u64 (hi : Int)) := HY.out _ (Below.refl _ _) 13 _ rfl
                      have gx0_2 : wc.cell? ⟨u, 2, none⟩ = some (.slice s1.pn ns.length s1.cn) := HX.out _ (Below.refl _ _) 2 _ rfl
                      have gy0_2 : wc.cell? ⟨v, 2, none⟩ = some (.slice s2.pn ns'.length s2.cn) := HY.out _ (Below.refl _ _) 2 _ rfl
                      go_wp2_with fail
                      go_ret
                      exact ⟨ret_bool HV.out, hB.out.trans (HB0.out.mono hB.out.size)⟩
                  · have F := Lib.hid hvhi
                    have HV := Lib.hid (eqB_false (show ¬ xs = ys from fun h => NE.out h fun h => F.out (by injection h)))
                    have gx0_0 : wc.cell? ⟨u, 0, none⟩ = some (.int .i64 kd) := HX.out _ (Below.refl _ _) 0 _ rfl
                    have gy0_0 : wc.cell? ⟨v, 0, none⟩ = some (.int .i64 kd) := HY.out _ (Below.refl _ _) 0 _ rfl
                    have gx0_1 : wc.cell? ⟨u, 1, none⟩ = some (.string (str nm)) := HX.out _ (Below.refl _ _) 1 _ rfl
                    have gy0_1 : wc.cell? ⟨v, 1, none⟩ = some (.string (str nm)) := HY.out _ (Below.refl _ _) 1 _ rfl
                    have gx0_12 : wc.cell? ⟨u, 12, none⟩ = some (.int .u64 (lo : Int)) := HX.out _ (Below.refl _ _) 12 _ rfl
                    have gy0_12 : wc.cell? ⟨v, 12, none⟩ = some (.int .u64 (lo : Int)) := HY.out _ (Below.refl _ _) 12 _ rfl
                    have gx0_13 : wc.cell? ⟨u, 13, none⟩ = some (.int .u64 (hi : Int)) := HX.out _ (Below.refl _ _) 13 _ rfl
                    have gy0_13 : wc.cell? ⟨v, 13, none⟩ = some (.int .u64 (hi' : Int)) := HY.out _ (Below.refl _ _) 13 _ rfl
                    go_wp2_with fail
                    go_ret
                    exact ⟨ret_bool HV.out, hB.out.trans (HB0.out.mono hB.out.size)⟩
                · have F := Lib.hid hvlo
                  have HV := Lib.hid (eqB_false (show ¬ xs = ys from fun h => NE.out h fun h => F.out (by injection h)))
                  have gx0_0 : wc.cell? ⟨u, 0, none⟩ = some (.int .i64 kd) := HX.out _ (Below.refl _ _) 0 _ rfl
                  have gy0_0 : wc.cell? ⟨v, 0, none⟩ = some (.int .i64 kd) := HY.out _ (Below.refl _ _) 0 _ rfl
                  have gx0_1 : wc.cell? ⟨u, 1, none⟩ = some (.string (str nm)) := HX.out _ (Below.refl _ _) 1 _ rfl
                  have gy0_1 : wc.cell? ⟨v, 1, none⟩ = some (.string (str nm)) := HY.out _ (Below.refl _ _) 1 _ rfl
                  have gx0_12 : wc.cell? ⟨u, 12, none⟩ = some (.int .u64 (lo : Int)) := HX.out _ (Below.refl _ _) 12 _ rfl
                  have gy0_12 : wc.cell? ⟨v, 12, none⟩ = some (.int .u64 (lo' : Int)) := HY.out _ (Below.refl _ _) 12 _ rfl
                  go_wp2_with fail
                  go_ret
                  exact ⟨ret_bool HV.out, hB.out.trans (HB0.out.mono hB.out.size)⟩
              · have F := Lib.hid hvnm
                have HV := Lib.hid (eqB_false (show ¬ xs = ys from fun h => NE.out h fun h => F.out (by injection h)))
                have Tnm := str_beq_ne hvnm
                clear hvnm
                have gx0_0 : wc.cell? ⟨u, 0, none⟩ = some (.int .i64 kd) := HX.out _ (Below.refl _ _) 0 _ rfl
                have gy0_0 : wc.cell? ⟨v, 0, none⟩ = some (.int .i64 kd) := HY.out _ (Below.refl _ _) 0 _ rfl
                have gx0_1 : wc.cell? ⟨u, 1, none⟩ = some (.string (str nm)) := HX.out _ (Below.refl _ _) 1 _ rfl
                have gy0_1 : wc.cell? ⟨v, 1, none⟩ = some (.string (str nm')) := HY.out _ (Below.refl _ _) 1 _ rfl
                go_wp2_with fail
                go_ret
                exact ⟨ret_bool HV.out, hB.out.trans (HB0.out.mono hB.out.size)⟩
            · have F := Lib.hid hvkd
              have HV := Lib.hid (eqB_false (show ¬ xs = ys from fun h => NE.out h fun h => F.out (by injection h)))
              have gx0_0 : wc.cell? ⟨u, 0, none⟩ = some (.int .i64 kd) := HX.out _ (Below.refl _ _) 0 _ rfl
              have gy0_0 : wc.cell? ⟨v, 0, none⟩ = some (.int .i64 kd') := HY.out _ (Below.refl _ _) 0 _ rfl
              go_wp2_with fail
              go_ret
              exact ⟨ret_bool HV.out, hB.out.trans (HB0.out.mono hB.out.size)⟩
  · have HB := Lib.hid (eqB_false (show ¬ xs = ys by intro e; exact hl (by rw [e])))
    have hl' : ((xs.length : Int) != (ys.length : Int)) = true := by simp; omega
    clear hl
    go_enter Try.func21, Try.ntmps21
    go_wp2_with fail
    go_ret
    exact ⟨ret_bool HB.out, Below.refl _ _⟩
theorem rss_to : ∀ n, RSS n
  | 0 => fun _ _ h => absurd h (Nat.not_lt_zero _)
  | n + 1 => rss_step n (rss_to n)
theorem rSameStmts_any (l m : Sts) (p q : Option Addr) (c d N : Nat) (w : World) (h1 : l.In w N p) (h2 : m.In w N q) (hN : N ≤ w.heap.size) :
    Calls Try.prog 21 #[.slice p l.len c, .slice q m.len d] w fun e w' => e = .returned (.bool (eqB l m)) ∧ Below w.heap.size w w' :=
  rss_to _ l m (Nat.lt_succ_self _) p q c d N w h1 h2 hN
end Go.Proofs.Ytnghehcjklkoeaa
