/- Two programs are the same: the document's. -/
import Derived.Test.YtnghehcjklkoeaaP9
import Derived.Test.YtnghehcjklkoeaaP6
namespace Go.Proofs.Ytnghehcjklkoeaa
open Go.RowKit

abbrev zeroFn : Array Value := #[.string ⟨#[]⟩, .slice none 0 0, .slice none 0 0, .slice none 0 0, .slice none 0 0]
def HoldP (N b1 o1 b2 o2 : Nat) (x y : Value) (A1 A2 : Array Value) (W : World) : Prop :=
  (W.cell? ⟨N, 1, none⟩ = some x ∧ W.cell? ⟨N + 1, 1, none⟩ = some y) ∧ W.rangeAt b1 o1 A1.toList ∧ W.rangeAt b2 o2 A2.toList
theorem hold_alloc {N b1 o1 b2 o2 : Nat} {x y : Value} {A1 A2 : Array Value} {W : World} {O : Obj} (h : HoldP N b1 o1 b2 o2 x y A1 A2 W) (h1 : N < W.heap.size) (h2 : N + 1 < W.heap.size) (h3 : b1 < W.heap.size) (h4 : b2 < W.heap.size) : HoldP N b1 o1 b2 o2 x y A1 A2 (W.alloc O) :=
  have HB : Below W.heap.size W (W.alloc O) := (Below.refl _ _).alloc (Nat.le_refl _) _
  ⟨⟨(HB.cell (p := ⟨N, 1, none⟩) h1).trans h.1.1, (HB.cell (p := ⟨N + 1, 1, none⟩) h2).trans h.1.2⟩, range_later h.2.1 h3 HB, range_later h.2.2 h4 HB⟩
theorem hold_set {N b1 o1 b2 o2 : Nat} {x y : Value} {A1 A2 : Array Value} {W : World} {b : Nat} {o : Nat} {vs : List Value} (h : HoldP N b1 o1 b2 o2 x y A1 A2 W) (h1 : N < b) (h2 : N + 1 < b) (h3 : b1 < b) (h4 : b2 < b) : HoldP N b1 o1 b2 o2 x y A1 A2 (W.setCells b o vs) :=
  ⟨⟨(World.cell?_setCells_out b vs o W ⟨N, 1, none⟩ (fun e => absurd e (Nat.ne_of_lt h1))).trans h.1.1, (World.cell?_setCells_out b vs o W ⟨N + 1, 1, none⟩ (fun e => absurd e (Nat.ne_of_lt h2))).trans h.1.2⟩,
   World.rangeAt_setCells_apart h.2.1 _ _ _ (.inl (Nat.ne_of_lt h3)), World.rangeAt_setCells_apart h.2.2 _ _ _ (.inl (Nat.ne_of_lt h4))⟩
set_option maxRecDepth 100000 in
set_option maxHeartbeats 12800000 in
theorem rSame_any (x y : Prg) (p q p' q' : Option Addr) (c d c' d' N : Nat) (w : World) (hx : x.Ok w N p q) (hy : y.Ok w N p' q') (hN : N ≤ w.heap.size) :
    Calls Try.prog 9 #[x.val p q c d, y.val p' q' c' d'] w fun e w' => e = .returned (.bool (eqB x y)) ∧ Below w.heap.size w w' := by
  obtain ⟨rg, xs⟩ := x
  obtain ⟨rg', ys⟩ := y
  obtain ⟨w0, hw0⟩ : ∃ w0, ((w.alloc (Obj.cells #[.slice p rg.length c, .slice q xs.length d] 25)).alloc (Obj.cells #[.slice p' rg'.length c', .slice q' ys.length d'] 25)) = w0 := ⟨_, rfl⟩
  have HW0 := Lib.hid (show Below w.heap.size w w0 by rw [← hw0]; exact ((Below.refl _ w).alloc (Nat.le_refl _) _).alloc (by simp) _)
  have HX0 := Lib.hid (fun w1 hb => cells_later (w0 := w0) (w1 := w1) (b := w.heap.size) (A := #[.slice p rg.length c, .slice q xs.length d]) (t := 25) (by rw [← hw0, heap_alloc_old _ _ (by simp)]; exact heap_alloc_new w _) hb)
  have HY0 := Lib.hid (fun w1 hb => cells_later (w0 := w0) (w1 := w1) (b := w.heap.size + 1) (A := #[.slice p' rg'.length c', .slice q' ys.length d']) (t := 25) (by rw [← hw0]; have := heap_alloc_new (w.alloc (Obj.cells #[.slice p rg.length c, .slice q xs.length d] 25)) (Obj.cells #[.slice p' rg'.length c', .slice q' ys.length d'] 25); simpa using this) hb)
  have hw2 : w0.heap.size = w.heap.size + 2 := by rw [← hw0]; simp
  have R1 := Lib.hid hx.1
  have R2 := Lib.hid hy.1
  have S1 := Lib.hid hx.2
  have S2 := Lib.hid hy.2
  have hm1 : rg.length ≤ 140737488355328 := hx.1.1
  have hm2 : rg'.length ≤ 140737488355328 := hy.1.1
  have hm3 : xs.length ≤ 140737488355328 := hx.2.1
  have hm4 : ys.length ≤ 140737488355328 := hy.2.1
  have HXN := Lib.hid hN
  clear hx hy
  show Calls _ _ #[.agg #[.slice p rg.length c, .slice q xs.length d], .agg #[.slice p' rg'.length c', .slice q' ys.length d']] w _
  by_cases hl1 : rg.length = rg'.length
  · by_cases hl2 : xs.length = ys.length
    · have HL1 := Lib.hid hl1
      have HL2 := Lib.hid hl2
      have e1 : ((rg.length : Int) != (rg'.length : Int)) = false := by simp [hl1]
      have e2 : ((xs.length : Int) != (ys.length : Int)) = false := by simp [hl2]
      clear hl1 hl2
      have gz0 : w0.cell? ⟨w.heap.size, 0, none⟩ = some (.slice p rg.length c) := HX0.out _ (Below.refl _ _) 0 _ rfl
      have gz1 : w0.cell? ⟨w.heap.size, 1, none⟩ = some (.slice q xs.length d) := HX0.out _ (Below.refl _ _) 1 _ rfl
      have gz2 : w0.cell? ⟨w.heap.size + 1, 0, none⟩ = some (.slice p' rg'.length c') := HY0.out _ (Below.refl _ _) 0 _ rfl
      have gz3 : w0.cell? ⟨w.heap.size + 1, 1, none⟩ = some (.slice q' ys.length d') := HY0.out _ (Below.refl _ _) 1 _ rfl
      go_enter Try.func9, Try.ntmps9
      go_wp2_with fail
      clear hw0 e1 e2 gz0 gz1 gz2 gz3
      go_loopw [5] (fun i wr => ∃ (ds rs rs' : List Rgn), i = .int .i64 ds.length ∧ Hid (rg = ds ++ rs) ∧ Hid (rg' = ds ++ rs') ∧ ds.length + rs.length = rg.length ∧ rs'.length = rs.length ∧ Hid (Below w0.heap.size w0 wr)) (fun i _ => rg.length - (intOf i).toNat)
      case atStart => exact ⟨[], rg, rg', rfl, Lib.hid rfl, Lib.hid rfl, by simp, by have := HL1.out; omega, Lib.hid (Below.refl _ _)⟩
      case round =>
        obtain ⟨ds, rs, rs', rfl, E1, E2, hd1, hd2, hB⟩ := hrel
        have cx0 : wr.cell? ⟨w.heap.size, 0, none⟩ = some (.slice p rg.length c) := HX0.out _ hB.out 0 _ rfl
        cases rs with
        | nil =>
          cases rs' with
          | cons _ _ => simp at hd2
          | nil =>
            simp only [List.length_nil] at hd1
            have hge : ¬ ds.length < rg.length := by omega
            have ER := Lib.hid (show rg = rg' by rw [E1.out, E2.out])
            go_wp2_with fail
            clear E1 E2 hge hd1 hd2 cx0
            have hB' := hB
            clear hB
            go_loopw [6] (fun i wr => ∃ (ds rs rs' : List Fnc), i = .int .i64 ds.length ∧ Hid (xs = ds ++ rs) ∧ Hid (ys = ds ++ rs') ∧ ds.length + rs.length = xs.length ∧ rs'.length = rs.length ∧ Hid (Below w0.heap.size w0 wr)) (fun i _ => xs.length - (intOf i).toNat)
            case atStart => exact ⟨[], xs, ys, rfl, Lib.hid rfl, Lib.hid rfl, by simp, by have := HL2.out; omega, hB'⟩
            case round =>
              clear hB'
              obtain ⟨ds, rs, rs', rfl, E1, E2, hd1, hd2, HBr⟩ := hrel
              have cx : wr.cell? ⟨w.heap.size, 1, none⟩ = some (.slice q xs.length d) := HX0.out _ HBr.out 1 _ rfl
              have cy : wr.cell? ⟨w.heap.size + 1, 1, none⟩ = some (.slice q' ys.length d') := HY0.out _ HBr.out 1 _ rfl
              cases rs with
              | nil =>
                cases rs' with
                | cons _ _ => simp at hd2
                | nil =>
                  simp only [List.length_nil] at hd1
                  have hge : ¬ ds.length < xs.length := by omega
                  have EQ := Lib.hid (eqB_true (show Prg.mk rg xs = Prg.mk rg' ys by rw [ER.out, E1.out, E2.out]))
                  go_wp2_with fail
                  go_ret
                  exact ⟨ret_bool EQ.out, HW0.out.trans (HBr.out.mono HW0.out.size)⟩
              | cons y1 rs =>
                cases rs' with
                | nil => simp at hd2
                | cons y2 rs' =>
                  simp only [List.length_cons] at hd1 hd2
                  have hlt1 : ds.length < xs.length := by omega
                  have hlt2 : ds.length < ys.length := by have := HL2.out; omega
                  rcases S1.out.2 with h30 | ⟨b1, o1, rfl, hb1, ha1⟩
                  · omega
                  rcases S2.out.2 with h30 | ⟨b2, o2, rfl, hb2, ha2⟩
                  · omega
                  have hws := HBr.out.size
                  have HBww := HW0.out.trans (HBr.out.mono HW0.out.size)
                  rw [E1.out] at ha1
                  rw [E2.out] at ha2
                  obtain ⟨s1, c1, ok1⟩ := Fnc.At.openP (Fnc.At.later (HBww.mono HXN.out) (Nat.le_trans HXN.out HBww.size) y1 b1 _ hb1 (Row.drop _ _ _ ha1).1)
                  obtain ⟨s2, c2, ok2⟩ := Fnc.At.openP (Fnc.At.later (HBww.mono HXN.out) (Nat.le_trans HXN.out HBww.size) y2 b2 _ hb2 (Row.drop _ _ _ ha2).1)
                  obtain ⟨A1, hA1⟩ : ∃ A1, y1.cells s1 = A1 := ⟨_, rfl⟩
                  obtain ⟨A2, hA2⟩ : ∃ A2, y2.cells s2 = A2 := ⟨_, rfl⟩
                  have HA := Lib.hid (And.intro hA1 hA2)
                  have HK := Lib.hid (And.intro ok1 ok2)
                  have HZ1 := Lib.hid (show A1.size = 5 by rw [← hA1]; rfl)
                  have HZ2 := Lib.hid (show A2.size = 5 by rw [← hA2]; rfl)
                  have HO1 := Lib.hid (show A1.all (·.oneCell') = true by rw [← hA1]; exact oneFnc _ _)
                  have HO2 := Lib.hid (show A2.all (·.oneCell') = true by rw [← hA2]; exact oneFnc _ _)
                  have F1 := Lib.hid (show wr.rangeAt b1 (o1 + ds.length * 5) A1.toList from fun j v hv => c1 j v (by rw [hA1, ← Array.getElem?_toList]; exact hv))
                  have F2 := Lib.hid (show wr.rangeAt b2 (o2 + ds.length * 5) A2.toList from fun j v hv => c2 j v (by rw [hA2, ← Array.getElem?_toList]; exact hv))
                  have HI1 := Lib.hid (infoFnc.trans (by rw [HZ1.out]) : (Try.prog.info? 55).map (·.size) = some A1.size)
                  have HI2 := Lib.hid (infoFnc.trans (by rw [HZ2.out]) : (Try.prog.info? 55).map (·.size) = some A2.size)
                  have hbl1 : b1 < wr.heap.size := by omega
                  have hbl2 : b2 < wr.heap.size := by omega
                  have TH1 := Lib.hid (there_new2 wr zeroFn 55).1
                  have TH2 := Lib.hid (there_new2 wr zeroFn 55).2
                  have HBW := Lib.hid (((Below.refl _ wr).alloc (Nat.le_refl _) (.cells zeroFn 55)).alloc (by simp) (.cells zeroFn 55)).drew
                  clear c1 c2 ha1 ha2 hA1 hA2 ok1 ok2 HBww
                  go_upto_region 11 with fail
                  go_cut [7, 8] from 51 to 60 (fun s7 s8 wx => ∃ u v : Nat, s7 = .pointer (some ⟨u, 0, none⟩) ∧ s8 = .pointer (some ⟨v, 0, none⟩) ∧ Hid (PairS A1 A2 u v wr wx))
                  case first =>
                    refine wp_region_held_drew (S := fun W => (W.cell? ⟨w.heap.size, 1, none⟩ = some (.slice (some ⟨b1, o1, none⟩) xs.length d) ∧ W.cell? ⟨w.heap.size + 1, 1, none⟩ = some (.slice (some ⟨b2, o2, none⟩) ys.length d')) ∧ W.rangeAt b1 (o1 + ds.length * 5) A1.toList ∧ W.rangeAt b2 (o2 + ds.length * 5) A2.toList) (by kernel_rfl) ?_ (fun hHeld => ?_)
                    · exact ⟨⟨by rw [World.cell?_drew]; exact cx, by rw [World.cell?_drew]; exact cy⟩, range_later F1.out hbl1 (Below.refl _ _).drew, range_later F2.out hbl2 (Below.refl _ _).drew⟩
                    refine tk 0 ?_ rfl (Or.inl ⟨by rfl, ?_⟩) ?_
                    rotate_left
                    · (intro w hSw; (try dsimp only at hSw); go_simp; try with_reducible rfl)
                    try simp only [Act.put, List.setIfInBounds_toArray, List.set_cons_zero, List.set_cons_succ]
                    refine tk 1 ?_ rfl (Or.inl ⟨by rfl, ?_⟩) ?_
                    rotate_left
                    · (intro w hSw; (try dsimp only at hSw); go_simp; try with_reducible rfl)
                    try simp only [Act.put, List.setIfInBounds_toArray, List.set_cons_zero, List.set_cons_succ]
                    refine tk 2 ?_ rfl (Or.inl ⟨by rfl, ?_⟩) ?_
                    rotate_left
                    · (intro w hSw; (try dsimp only at hSw); go_simp; try with_reducible rfl)
                    try simp only [Act.put, List.setIfInBounds_toArray, List.set_cons_zero, List.set_cons_succ]
                    refine tk 3 ?_ rfl (Or.inl ⟨by rfl, ?_⟩) ?_
                    rotate_left
                    · (intro w hSw; (try dsimp only at hSw); go_simp; try with_reducible rfl)
                    try simp only [Act.put, List.setIfInBounds_toArray, List.set_cons_zero, List.set_cons_succ]
                    refine tk 4 (.agg A1) rfl (yieldsIf_load_mid (by rfl) 55 _ rfl b1 (o1 + ds.length * 5) (by rfl) A1.toList _ (fun _ h => h.2.1) Try.underlying55 rfl (by rw [HI1.out]; simp)) ?_
                    try simp only [Act.put, List.setIfInBounds_toArray, List.set_cons_zero, List.set_cons_succ]
                    refine tk 5 ?_ rfl (Or.inl ⟨by rfl, ?_⟩) ?_
                    rotate_left
                    · (intro w hSw; (try dsimp only at hSw); go_simp; try with_reducible rfl)
                    try simp only [Act.put, List.setIfInBounds_toArray, List.set_cons_zero, List.set_cons_succ]
                    refine tk 6 ?_ rfl (Or.inl ⟨by rfl, ?_⟩) ?_
                    rotate_left
                    · (intro w hSw; (try dsimp only at hSw); go_simp; try with_reducible rfl)
                    try simp only [Act.put, List.setIfInBounds_toArray, List.set_cons_zero, List.set_cons_succ]
                    refine tk 7 ?_ rfl (Or.inl ⟨by rfl, ?_⟩) ?_
                    rotate_left
                    · (intro w hSw; (try dsimp only at hSw); go_simp; try with_reducible rfl)
                    try simp only [Act.put, List.setIfInBounds_toArray, List.set_cons_zero, List.set_cons_succ]
                    refine tk 8 ?_ rfl (Or.inl ⟨by rfl, ?_⟩) ?_
                    rotate_left
                    · (intro w hSw; (try dsimp only at hSw); go_simp; try with_reducible rfl)
                    try simp only [Act.put, List.setIfInBounds_toArray, List.set_cons_zero, List.set_cons_succ]
                    refine tk 9 (.agg A2) rfl (yieldsIf_load_mid (by rfl) 55 _ rfl b2 (o2 + ds.length * 5) (by rfl) A2.toList _ (fun _ h => h.2.2) Try.underlying55 rfl (by rw [HI2.out]; simp)) ?_
                    try simp only [Act.put, List.setIfInBounds_toArray, List.set_cons_zero, List.set_cons_succ]
                    refine wpAnyH_ready (rs := [10, 11]) (by kernel_rfl) (by simp) ?_
                    refine rdy rfl (fun K hK => ?_) (rdy rfl (fun K hK => ?_) AllReadyH.nil)
                    · go_simp
                      refine hK.out _ _ ?_ (fun hHeld => ?_)
                      · exact hold_alloc hHeld (by first | omega | (simp; omega)) (by first | omega | (simp; omega)) (by first | omega | (simp; omega)) (by first | omega | (simp; omega))
                      clear hK K
                      try simp only [Act.put, List.setIfInBounds_toArray, List.set_cons_zero, List.set_cons_succ]
                      refine wpAnyH_ready (rs := [11]) (by kernel_rfl) (by simp) ?_
                      refine rdy rfl (fun K hK => ?_) AllReadyH.nil
                      go_simp
                      refine hK.out _ _ ?_ (fun hHeld => ?_)
                      · exact hold_alloc hHeld (by first | omega | (simp; omega)) (by first | omega | (simp; omega)) (by first | omega | (simp; omega)) (by first | omega | (simp; omega))
                      clear hK K
                      try simp only [Act.put, List.setIfInBounds_toArray, List.set_cons_zero, List.set_cons_succ]
                      refine wpAnyH_ready (rs := [12]) (by kernel_rfl) (by simp) ?_
                      refine rdy rfl (fun K hK => ?_) AllReadyH.nil
                      rw [if_pos (by rfl)]
                      refine wp_store_mid 55 _ _ rfl (wr.heap.size) 0 A1 (by rfl) (by rfl) (by rw [HZ1.out]; exact TH1.out) HI1.out HO1.out ?_
                      refine hK.out _ _ ?_ (fun hHeld => ?_)
                      · exact hold_set hHeld (by omega) (by omega) (by omega) (by omega)
                      clear hK K
                      try simp only [Act.put]
                      refine wpAnyH_ready (rs := [13]) (by kernel_rfl) (by simp) ?_
                      refine rdy rfl (fun K hK => ?_) AllReadyH.nil
                      rw [if_pos (by rfl)]
                      refine wp_store_mid 55 _ _ rfl (wr.heap.size + 1) 0 A2 (by rfl) (by rfl) (World.there_setCells (by rw [HZ2.out]; exact TH2.out) _ _ _) HI2.out HO2.out ?_
                      refine hK.out _ _ ?_ (fun hHeld => ?_)
                      · exact hold_set hHeld (by omega) (by omega) (by omega) (by omega)
                      clear hK K
                      try simp only [Act.put]
                      refine wpAnyH_done (by kernel_rfl) ?_ _
                      go_wp2_with fail
                      go_meet
                      exact ⟨wr.heap.size, wr.heap.size + 1, rfl, rfl, Lib.hid (pair_of (by omega) (by rw [HZ1.out]; exact TH1.out) (by rw [HZ2.out]; exact TH2.out) HBW.out (by omega) (by omega) (by simp <;> omega) (by simp <;> omega))⟩
                    · go_simp
                      refine hK.out _ _ ?_ (fun hHeld => ?_)
                      · exact hold_alloc hHeld (by first | omega | (simp; omega)) (by first | omega | (simp; omega)) (by first | omega | (simp; omega)) (by first | omega | (simp; omega))
                      clear hK K
                      try simp only [Act.put, List.setIfInBounds_toArray, List.set_cons_zero, List.set_cons_succ]
                      refine wpAnyH_ready (rs := [10]) (by kernel_rfl) (by simp) ?_
                      refine rdy rfl (fun K hK => ?_) AllReadyH.nil
                      go_simp
                      refine hK.out _ _ ?_ (fun hHeld => ?_)
                      · exact hold_alloc hHeld (by first | omega | (simp; omega)) (by first | omega | (simp; omega)) (by first | omega | (simp; omega)) (by first | omega | (simp; omega))
                      clear hK K
                      try simp only [Act.put, List.setIfInBounds_toArray, List.set_cons_zero, List.set_cons_succ]
                      refine wpAnyH_ready (rs := [12]) (by kernel_rfl) (by simp) ?_
                      refine rdy rfl (fun K hK => ?_) AllReadyH.nil
                      rw [if_pos (by rfl)]
                      refine wp_store_mid 55 _ _ rfl (wr.heap.size + 1) 0 A1 (by rfl) (by rfl) (by rw [HZ1.out]; exact TH2.out) HI1.out HO1.out ?_
                      refine hK.out _ _ ?_ (fun hHeld => ?_)
                      · exact hold_set hHeld (by omega) (by omega) (by omega) (by omega)
                      clear hK K
                      try simp only [Act.put]
                      refine wpAnyH_ready (rs := [13]) (by kernel_rfl) (by simp) ?_
                      refine rdy rfl (fun K hK => ?_) AllReadyH.nil
                      rw [if_pos (by rfl)]
                      refine wp_store_mid 55 _ _ rfl (wr.heap.size) 0 A2 (by rfl) (by rfl) (World.there_setCells (by rw [HZ2.out]; exact TH1.out) _ _ _) HI2.out HO2.out ?_
                      refine hK.out _ _ ?_ (fun hHeld => ?_)
                      · exact hold_set hHeld (by omega) (by omega) (by omega) (by omega)
                      clear hK K
                      try simp only [Act.put]
                      refine wpAnyH_done (by kernel_rfl) ?_ _
                      go_wp2_with fail
                      go_meet
                      exact ⟨wr.heap.size + 1, wr.heap.size, rfl, rfl, Lib.hid (pair_of (by omega) (by rw [HZ1.out]; exact TH2.out) (by rw [HZ2.out]; exact TH1.out) HBW.out (by omega) (by omega) (by simp <;> omega) (by simp <;> omega))⟩
                  case rest =>
                    obtain ⟨wo, rfl⟩ : ∃ wo : World, wo = wr := ⟨_, rfl⟩
                    obtain ⟨u, v, rfl, rfl, hP⟩ := hcut
                    obtain ⟨nm, ps, vs, rt, bd⟩ := y1
                    obtain ⟨nm', ps', vs', rt', bd'⟩ := y2
                    have NE := Lib.hid (show xs = ys → ¬ (¬ Fnc.mk nm ps vs rt bd = Fnc.mk nm' ps' vs' rt' bd') from fun e h => by
                      rw [E1.out, E2.out] at e
                      have := List.append_cancel_left e
                      injection this with e6 _
                      exact h e6)
                    have HX := Lib.hid (show ∀ w1, Below wc.heap.size wc w1 → ∀ j v, (#[.string (str nm), .slice s1.pp ps.length s1.cp, .slice s1.pv vs.length s1.cv, .slice s1.pr rt.length s1.cr, .slice s1.pb bd.len s1.cb] : Array Value)[j]? = some v → w1.cell? ⟨u, j, none⟩ = some v from fun w1 hb j z hz => (hb.cell hP.out.lu).trans (by have := hP.out.x j z (by rw [← HA.out.1, Array.getElem?_toList]; exact hz); rw [Nat.zero_add] at this; exact this))
                    have HY := Lib.hid (show ∀ w1, Below wc.heap.size wc w1 → ∀ j v', (#[.string (str nm'), .slice s2.pp ps'.length s2.cp, .slice s2.pv vs'.length s2.cv, .slice s2.pr rt'.length s2.cr, .slice s2.pb bd'.len s2.cb] : Array Value)[j]? = some v' → w1.cell? ⟨v, j, none⟩ = some v' from fun w1 hb j z hz => (hb.cell hP.out.lv).trans (by have := hP.out.y j z (by rw [← HA.out.2, Array.getElem?_toList]; exact hz); rw [Nat.zero_add] at this; exact this))
                    have HB0 := Lib.hid hP.out.bel
                    have HD0 := Lib.hid (Below.refl wc.heap.size wc)
                    have Hps := Lib.hid (fun (w1 : World) (hb : Below wo.heap.size wo w1) => rVars_any ps ps' s1.pp s2.pp s1.cp s2.cp wo.heap.size w1 (HK.out.1.1.imp (Nat.le_refl _) (Vr.At.later hb)) (HK.out.2.1.imp (Nat.le_refl _) (Vr.At.later hb)) hb.size)
                    have Hvs := Lib.hid (fun (w1 : World) (hb : Below wo.heap.size wo w1) => rVars_any vs vs' s1.pv s2.pv s1.cv s2.cv wo.heap.size w1 (HK.out.1.2.1.imp (Nat.le_refl _) (Vr.At.later hb)) (HK.out.2.2.1.imp (Nat.le_refl _) (Vr.At.later hb)) hb.size)
                    have Hbd := Lib.hid (fun (w1 : World) (hb : Below wo.heap.size wo w1) => rSameStmts_any bd bd' s1.pb s2.pb s1.cb s2.cb wo.heap.size w1 (Sts.In.later HK.out.1.2.2.2 hb (Nat.le_refl _)) (Sts.In.later HK.out.2.2.2.2 hb (Nat.le_refl _)) hb.size)
                    have RN1 : RowIn wo.heap.size (StrAt wo) 1 rt s1.pr := HK.out.1.2.2.1.2
                    have RN2 : RowIn wo.heap.size (StrAt wo) 1 rt' s2.pr := HK.out.2.2.2.1.2
                    have hmn1 : rt.length ≤ 140737488355328 := RN1.1
                    have hmn2 : rt'.length ≤ 140737488355328 := RN2.1
                    have HR := Lib.hid (And.intro (Row.start RN1) (Row.start RN2))
                    clear hP HK HA TH1 TH2 HBW HI1 HI2 F1 F2 HO1 HO2 HZ1 HZ2 S1 S2 cx cy RN1 RN2
                    by_cases hvnm : nm = nm'
                    · have Enm := Lib.hid hvnm
                      have Tnm := str_beq_eq nm
                      subst hvnm
                      cases hvps : eqB ps ps' with
                      | false =>
                        rw [hvps] at Hps
                        have HV := Lib.hid (eqB_false (show ¬ Prg.mk rg xs = Prg.mk rg' ys from fun h => NE.out (by injection h) fun h => eqB_of_false hvps (by injection h)))
                        clear hvps
                        have gx0_0 : wc.cell? ⟨u, 0, none⟩ = some (.string (str nm)) := HX.out _ (Below.refl _ _) 0 _ rfl
                        have gy0_0 : wc.cell? ⟨v, 0, none⟩ = some (.string (str nm)) := HY.out _ (Below.refl _ _) 0 _ rfl
                        have gx0_1 : wc.cell? ⟨u, 1, none⟩ = some (.slice s1.pp ps.length s1.cp) := HX.out _ (Below.refl _ _) 1 _ rfl
                        have gy0_1 : wc.cell? ⟨v, 1, none⟩ = some (.slice s2.pp ps'.length s2.cp) := HY.out _ (Below.refl _ _) 1 _ rfl
                        go_wp2_with fail
                        refine (Hps.out _ HB0.out).mono ?_
                        rintro z w1 ⟨rfl, hB'⟩
                        have HB1 := Lib.hid (HB0.out.trans (hB'.mono HB0.out.size))
                        have HD1 := Lib.hid (HD0.out.trans (hB'.mono HD0.out.size))
                        clear hB'
                        go_wp2_with fail
                        go_ret
                        exact ⟨ret_bool HV.out, HW0.out.trans ((HBr.out.trans (HB1.out.mono HBr.out.size)).mono HW0.out.size)⟩
                      | true =>
                        have Eps := Lib.hid (eqB_of_true hvps)
                        rw [hvps] at Hps
                        clear hvps
                        cases hvvs : eqB vs vs' with
                        | false =>
                          rw [hvvs] at Hvs
                          have HV := Lib.hid (eqB_false (show ¬ Prg.mk rg xs = Prg.mk rg' ys from fun h => NE.out (by injection h) fun h => eqB_of_false hvvs (by injection h)))
                          clear hvvs
                          have gx0_0 : wc.cell? ⟨u, 0, none⟩ = some (.string (str nm)) := HX.out _ (Below.refl _ _) 0 _ rfl
                          have gy0_0 : wc.cell? ⟨v, 0, none⟩ = some (.string (str nm)) := HY.out _ (Below.refl _ _) 0 _ rfl
                          have gx0_1 : wc.cell? ⟨u, 1, none⟩ = some (.slice s1.pp ps.length s1.cp) := HX.out _ (Below.refl _ _) 1 _ rfl
                          have gy0_1 : wc.cell? ⟨v, 1, none⟩ = some (.slice s2.pp ps'.length s2.cp) := HY.out _ (Below.refl _ _) 1 _ rfl
                          go_wp2_with fail
                          refine (Hps.out _ HB0.out).mono ?_
                          rintro z w1 ⟨rfl, hB'⟩
                          have HB1 := Lib.hid (HB0.out.trans (hB'.mono HB0.out.size))
                          have HD1 := Lib.hid (HD0.out.trans (hB'.mono HD0.out.size))
                          clear hB'
                          have gx1_2 : w1.cell? ⟨u, 2, none⟩ = some (.slice s1.pv vs.length s1.cv) := HX.out _ HD1.out 2 _ rfl
                          have gy1_2 : w1.cell? ⟨v, 2, none⟩ = some (.slice s2.pv vs'.length s2.cv) := HY.out _ HD1.out 2 _ rfl
                          go_wp2_with fail
                          refine (Hvs.out _ HB1.out).mono ?_
                          rintro z w2 ⟨rfl, hB'⟩
                          have HB2 := Lib.hid (HB1.out.trans (hB'.mono HB1.out.size))
                          have HD2 := Lib.hid (HD1.out.trans (hB'.mono HD1.out.size))
                          clear hB'
                          go_wp2_with fail
                          go_ret
                          exact ⟨ret_bool HV.out, HW0.out.trans ((HBr.out.trans (HB2.out.mono HBr.out.size)).mono HW0.out.size)⟩
                        | true =>
                          have Evs := Lib.hid (eqB_of_true hvvs)
                          rw [hvvs] at Hvs
                          clear hvvs
                          by_cases hvrt : rt.length = rt'.length
                          rotate_left
                          · have hlrt : ((rt.length : Int) != (rt'.length : Int)) = true := by simp [bne]; omega
                            have HV := Lib.hid (eqB_false (show ¬ Prg.mk rg xs = Prg.mk rg' ys from fun h => NE.out (by injection h) fun h => hvrt (by injection h with _ _ _ h; rw [h])))
                            have gx0_0 : wc.cell? ⟨u, 0, none⟩ = some (.string (str nm)) := HX.out _ (Below.refl _ _) 0 _ rfl
                            have gy0_0 : wc.cell? ⟨v, 0, none⟩ = some (.string (str nm)) := HY.out _ (Below.refl _ _) 0 _ rfl
                            have gx0_1 : wc.cell? ⟨u, 1, none⟩ = some (.slice s1.pp ps.length s1.cp) := HX.out _ (Below.refl _ _) 1 _ rfl
                            have gy0_1 : wc.cell? ⟨v, 1, none⟩ = some (.slice s2.pp ps'.length s2.cp) := HY.out _ (Below.refl _ _) 1 _ rfl
                            go_wp2_with fail
                            refine (Hps.out _ HB0.out).mono ?_
                            rintro z w1 ⟨rfl, hB'⟩
                            have HB1 := Lib.hid (HB0.out.trans (hB'.mono HB0.out.size))
                            have HD1 := Lib.hid (HD0.out.trans (hB'.mono HD0.out.size))
                            clear hB'
                            have gx1_2 : w1.cell? ⟨u, 2, none⟩ = some (.slice s1.pv vs.length s1.cv) := HX.out _ HD1.out 2 _ rfl
                            have gy1_2 : w1.cell? ⟨v, 2, none⟩ = some (.slice s2.pv vs'.length s2.cv) := HY.out _ HD1.out 2 _ rfl
                            go_wp2_with fail
                            refine (Hvs.out _ HB1.out).mono ?_
                            rintro z w2 ⟨rfl, hB'⟩
                            have HB2 := Lib.hid (HB1.out.trans (hB'.mono HB1.out.size))
                            have HD2 := Lib.hid (HD1.out.trans (hB'.mono HD1.out.size))
                            clear hB'
                            have gx2_3 : w2.cell? ⟨u, 3, none⟩ = some (.slice s1.pr rt.length s1.cr) := HX.out _ HD2.out 3 _ rfl
                            have gy2_3 : w2.cell? ⟨v, 3, none⟩ = some (.slice s2.pr rt'.length s2.cr) := HY.out _ HD2.out 3 _ rfl
                            go_wp2_with fail
                            go_ret
                            exact ⟨ret_bool HV.out, HW0.out.trans ((HBr.out.trans (HB2.out.mono HBr.out.size)).mono HW0.out.size)⟩
                          have Lrt := Lib.hid hvrt
                          have hlrt : ((rt.length : Int) != (rt'.length : Int)) = false := by simp [hvrt]
                          clear hvrt
                          cases hvbd : eqB bd bd' with
                          | false =>
                            rw [hvbd] at Hbd
                            have HV := Lib.hid (eqB_false (show ¬ Prg.mk rg xs = Prg.mk rg' ys from fun h => NE.out (by injection h) fun h => eqB_of_false hvbd (by injection h)))
                            clear hvbd
                            have gx0_0 : wc.cell? ⟨u, 0, none⟩ = some (.string (str nm)) := HX.out _ (Below.refl _ _) 0 _ rfl
                            have gy0_0 : wc.cell? ⟨v, 0, none⟩ = some (.string (str nm)) := HY.out _ (Below.refl _ _) 0 _ rfl
                            have gx0_1 : wc.cell? ⟨u, 1, none⟩ = some (.slice s1.pp ps.length s1.cp) := HX.out _ (Below.refl _ _) 1 _ rfl
                            have gy0_1 : wc.cell? ⟨v, 1, none⟩ = some (.slice s2.pp ps'.length s2.cp) := HY.out _ (Below.refl _ _) 1 _ rfl
                            go_wp2_with fail
                            refine (Hps.out _ HB0.out).mono ?_
                            rintro z w1 ⟨rfl, hB'⟩
                            have HB1 := Lib.hid (HB0.out.trans (hB'.mono HB0.out.size))
                            have HD1 := Lib.hid (HD0.out.trans (hB'.mono HD0.out.size))
                            clear hB'
                            have gx1_2 : w1.cell? ⟨u, 2, none⟩ = some (.slice s1.pv vs.length s1.cv) := HX.out _ HD1.out 2 _ rfl
                            have gy1_2 : w1.cell? ⟨v, 2, none⟩ = some (.slice s2.pv vs'.length s2.cv) := HY.out _ HD1.out 2 _ rfl
                            go_wp2_with fail
                            refine (Hvs.out _ HB1.out).mono ?_
                            rintro z w2 ⟨rfl, hB'⟩
                            have HB2 := Lib.hid (HB1.out.trans (hB'.mono HB1.out.size))
                            have HD2 := Lib.hid (HD1.out.trans (hB'.mono HD1.out.size))
                            clear hB'
                            have gx2_3 : w2.cell? ⟨u, 3, none⟩ = some (.slice s1.pr rt.length s1.cr) := HX.out _ HD2.out 3 _ rfl
                            have gy2_3 : w2.cell? ⟨v, 3, none⟩ = some (.slice s2.pr rt'.length s2.cr) := HY.out _ HD2.out 3 _ rfl
                            have gx2_4 : w2.cell? ⟨u, 4, none⟩ = some (.slice s1.pb bd.len s1.cb) := HX.out _ HD2.out 4 _ rfl
                            have gy2_4 : w2.cell? ⟨v, 4, none⟩ = some (.slice s2.pb bd'.len s2.cb) := HY.out _ HD2.out 4 _ rfl
                            go_wp2_with fail
                            refine (Hbd.out _ HB2.out).mono ?_
                            rintro z w3 ⟨rfl, hB'⟩
                            have HB3 := Lib.hid (HB2.out.trans (hB'.mono HB2.out.size))
                            have HD3 := Lib.hid (HD2.out.trans (hB'.mono HD2.out.size))
                            clear hB'
                            go_wp2_with fail
                            go_ret
                            exact ⟨ret_bool HV.out, HW0.out.trans ((HBr.out.trans (HB3.out.mono HBr.out.size)).mono HW0.out.size)⟩
                          | true =>
                            have Ebd := Lib.hid (eqB_of_true hvbd)
                            rw [hvbd] at Hbd
                            clear hvbd
                            have gx0_0 : wc.cell? ⟨u, 0, none⟩ = some (.string (str nm)) := HX.out _ (Below.refl _ _) 0 _ rfl
                            have gy0_0 : wc.cell? ⟨v, 0, none⟩ = some (.string (str nm)) := HY.out _ (Below.refl _ _) 0 _ rfl
                            have gx0_1 : wc.cell? ⟨u, 1, none⟩ = some (.slice s1.pp ps.length s1.cp) := HX.out _ (Below.refl _ _) 1 _ rfl
                            have gy0_1 : wc.cell? ⟨v, 1, none⟩ = some (.slice s2.pp ps'.length s2.cp) := HY.out _ (Below.refl _ _) 1 _ rfl
                            go_wp2_with fail
                            refine (Hps.out _ HB0.out).mono ?_
                            rintro z w1 ⟨rfl, hB'⟩
                            have HB1 := Lib.hid (HB0.out.trans (hB'.mono HB0.out.size))
                            have HD1 := Lib.hid (HD0.out.trans (hB'.mono HD0.out.size))
                            clear hB'
                            have gx1_2 : w1.cell? ⟨u, 2, none⟩ = some (.slice s1.pv vs.length s1.cv) := HX.out _ HD1.out 2 _ rfl
                            have gy1_2 : w1.cell? ⟨v, 2, none⟩ = some (.slice s2.pv vs'.length s2.cv) := HY.out _ HD1.out 2 _ rfl
                            go_wp2_with fail
                            refine (Hvs.out _ HB1.out).mono ?_
                            rintro z w2 ⟨rfl, hB'⟩
                            have HB2 := Lib.hid (HB1.out.trans (hB'.mono HB1.out.size))
                            have HD2 := Lib.hid (HD1.out.trans (hB'.mono HD1.out.size))
                            clear hB'
                            have gx2_3 : w2.cell? ⟨u, 3, none⟩ = some (.slice s1.pr rt.length s1.cr) := HX.out _ HD2.out 3 _ rfl
                            have gy2_3 : w2.cell? ⟨v, 3, none⟩ = some (.slice s2.pr rt'.length s2.cr) := HY.out _ HD2.out 3 _ rfl
                            have gx2_4 : w2.cell? ⟨u, 4, none⟩ = some (.slice s1.pb bd.len s1.cb) := HX.out _ HD2.out 4 _ rfl
                            have gy2_4 : w2.cell? ⟨v, 4, none⟩ = some (.slice s2.pb bd'.len s2.cb) := HY.out _ HD2.out 4 _ rfl
                            go_wp2_with fail
                            refine (Hbd.out _ HB2.out).mono ?_
                            rintro z w3 ⟨rfl, hB'⟩
                            have HB3 := Lib.hid (HB2.out.trans (hB'.mono HB2.out.size))
                            have HD3 := Lib.hid (HD2.out.trans (hB'.mono HD2.out.size))
                            clear hB'
                            have gx3_3 : w3.cell? ⟨u, 3, none⟩ = some (.slice s1.pr rt.length s1.cr) := HX.out _ HD3.out 3 _ rfl
                            have gy3_3 : w3.cell? ⟨v, 3, none⟩ = some (.slice s2.pr rt'.length s2.cr) := HY.out _ HD3.out 3 _ rfl
                            obtain ⟨⟨bn, on, hpn, hbn, han⟩, ⟨bm, om, hpm, hbm, ham⟩⟩ := HR.out
                            have HAn := Lib.hid (And.intro han ham)
                            have HPn := Lib.hid (And.intro hpn hpm)
                            have HBn := Lib.hid (And.intro hbn hbm)
                            clear HR hpn hpm hbn hbm han ham
                            go_wp2_with fail
                            clear gx0_0 gy0_0 gx0_1 gy0_1 gx1_2 gy1_2 gx2_3 gy2_3 gx2_4 gy2_4 gx3_3 gy3_3 Tnm hlrt
                            go_loopw [9] (fun i wr => ∃ (dn rn rn' : List (List UInt8)), i = .int .i64 dn.length ∧ dn.length + rn.length = rt.length ∧ rn'.length = rn.length ∧ Hid (rt = dn ++ rn) ∧ Hid (rt' = dn ++ rn') ∧ Hid (Below wc.heap.size wc wr)) (fun i _ => rt.length - (intOf i).toNat)
                            case atStart => exact ⟨[], rt, rt', rfl, by simp, Lrt.out.symm, Lib.hid rfl, Lib.hid rfl, HD3⟩
                            case round =>
                              obtain ⟨dn, rn, rn', rfl, hk1, hk2, G1, G2, hB2⟩ := hrel
                              obtain ⟨w4, rfl⟩ : ∃ w4 : World, w4 = wr := ⟨_, rfl⟩
                              have HBo := Lib.hid (HB0.out.trans (hB2.out.mono HB0.out.size))
                              cases rn with
                              | cons z1 rn =>
                                cases rn' with
                                | nil => simp at hk2
                                | cons z2 rn' =>
                                  simp only [List.length_cons] at hk1 hk2
                                  have hlt2 : dn.length < rt.length := by omega
                                  have hlt3 : dn.length < rt'.length := by rw [G2.out, List.length_append, List.length_cons]; omega
                                  have hpn : s1.pr = some ⟨bn, on, none⟩ := by rcases HPn.out.1 with h0 | h0; (· omega); (· exact h0)
                                  have hpm : s2.pr = some ⟨bm, om, none⟩ := by rcases HPn.out.2 with h0 | h0; (· omega); (· exact h0)
                                  have hs1 : w4.cell? ⟨bn, on + dn.length, none⟩ = some (.string (str z1)) := by
                                    have h1 := Row.get (i := dn.length) (x := z1) HAn.out.1 (by rw [G1.out]; simp)
                                    rw [Nat.mul_one] at h1
                                    exact StrAt.later HBo.out z1 bn _ (by have := HBn.out.1; omega) h1
                                  have hs2 : w4.cell? ⟨bm, om + dn.length, none⟩ = some (.string (str z2)) := by
                                    have h1 := Row.get (i := dn.length) (x := z2) HAn.out.2 (by rw [G2.out]; simp)
                                    rw [Nat.mul_one] at h1
                                    exact StrAt.later HBo.out z2 bm _ (by have := HBn.out.2; omega) h1
                                  have c2 : w4.cell? ⟨u, 3, none⟩ = some (.slice (some ⟨bn, on, none⟩) rt.length s1.cr) := by rw [← hpn]; exact HX.out _ hB2.out 3 _ rfl
                                  have c3 : w4.cell? ⟨v, 3, none⟩ = some (.slice (some ⟨bm, om, none⟩) rt'.length s2.cr) := by rw [← hpm]; exact HY.out _ hB2.out 3 _ rfl
                                  clear hpn hpm
                                  have e2 : w4.drew.cell? ⟨u, 3, none⟩ = some (.slice (some ⟨bn, on, none⟩) rt.length s1.cr) := c2
                                  have e3 : w4.drew.cell? ⟨v, 3, none⟩ = some (.slice (some ⟨bm, om, none⟩) rt'.length s2.cr) := c3
                                  have e4 : w4.drew.cell? ⟨bn, on + dn.length, none⟩ = some (.string (str z1)) := hs1
                                  have e5 : w4.drew.cell? ⟨bm, om + dn.length, none⟩ = some (.string (str z2)) := hs2
                                  have HD2' := Lib.hid hB2.out.drew
                                  by_cases hz : z1 = z2
                                  · have Tz := (show ((str z1).toList == (str z2).toList) = true by rw [hz]; exact str_beq_eq z2)
                                    go_upto_region 17 with fail
                                    refine wp_region_held_drew (S := fun W => W.cell? ⟨u, 3, none⟩ = some (.slice (some ⟨bn, on, none⟩) rt.length s1.cr) ∧ W.cell? ⟨v, 3, none⟩ = some (.slice (some ⟨bm, om, none⟩) rt'.length s2.cr) ∧ W.cell? ⟨bn, on + dn.length, none⟩ = some (.string (str z1)) ∧ W.cell? ⟨bm, om + dn.length, none⟩ = some (.string (str z2))) (by kernel_rfl) ?_ (fun hHeld => ?_)
                                    · exact ⟨e2, e3, e4, e5⟩
                                    refine tk 0 ?_ rfl (Or.inl ⟨by rfl, ?_⟩) ?_
                                    rotate_left
                                    · (intro w hSw; (try dsimp only at hSw); go_simp; try with_reducible rfl)
                                    try simp only [Act.put, List.setIfInBounds_toArray, List.set_cons_zero, List.set_cons_succ]
                                    refine tk 1 ?_ rfl (Or.inl ⟨by rfl, ?_⟩) ?_
                                    rotate_left
                                    · (intro w hSw; (try dsimp only at hSw); go_simp; try with_reducible rfl)
                                    try simp only [Act.put, List.setIfInBounds_toArray, List.set_cons_zero, List.set_cons_succ]
                                    refine tk 2 ?_ rfl (Or.inl ⟨by rfl, ?_⟩) ?_
                                    rotate_left
                                    · (intro w hSw; (try dsimp only at hSw); go_simp; try with_reducible rfl)
                                    try simp only [Act.put, List.setIfInBounds_toArray, List.set_cons_zero, List.set_cons_succ]
                                    refine tk 3 ?_ rfl (Or.inl ⟨by rfl, ?_⟩) ?_
                                    rotate_left
                                    · (intro w hSw; (try dsimp only at hSw); go_simp; try with_reducible rfl)
                                    try simp only [Act.put, List.setIfInBounds_toArray, List.set_cons_zero, List.set_cons_succ]
                                    refine tk 4 ?_ rfl (Or.inl ⟨by rfl, ?_⟩) ?_
                                    rotate_left
                                    · (intro w hSw; (try dsimp only at hSw); go_simp; try with_reducible rfl)
                                    try simp only [Act.put, List.setIfInBounds_toArray, List.set_cons_zero, List.set_cons_succ]
                                    refine tk 5 ?_ rfl (Or.inl ⟨by rfl, ?_⟩) ?_
                                    rotate_left
                                    · (intro w hSw; (try dsimp only at hSw); go_simp; try with_reducible rfl)
                                    try simp only [Act.put, List.setIfInBounds_toArray, List.set_cons_zero, List.set_cons_succ]
                                    refine tk 6 ?_ rfl (Or.inl ⟨by rfl, ?_⟩) ?_
                                    rotate_left
                                    · (intro w hSw; (try dsimp only at hSw); go_simp; try with_reducible rfl)
                                    try simp only [Act.put, List.setIfInBounds_toArray, List.set_cons_zero, List.set_cons_succ]
                                    refine tk 7 ?_ rfl (Or.inl ⟨by rfl, ?_⟩) ?_
                                    rotate_left
                                    · (intro w hSw; (try dsimp only at hSw); go_simp; try with_reducible rfl)
                                    try simp only [Act.put, List.setIfInBounds_toArray, List.set_cons_zero, List.set_cons_succ]
                                    refine tk 8 ?_ rfl (Or.inl ⟨by rfl, ?_⟩) ?_
                                    rotate_left
                                    · (intro w hSw; (try dsimp only at hSw); go_simp; try with_reducible rfl)
                                    try simp only [Act.put, List.setIfInBounds_toArray, List.set_cons_zero, List.set_cons_succ]
                                    refine tk 9 ?_ rfl (Or.inl ⟨by rfl, ?_⟩) ?_
                                    rotate_left
                                    · (intro w hSw; (try dsimp only at hSw); go_simp; try with_reducible rfl)
                                    try simp only [Act.put, List.setIfInBounds_toArray, List.set_cons_zero, List.set_cons_succ]
                                    refine tk 10 (.bool false) rfl (Or.inl ⟨by rfl, ?_⟩) ?_
                                    · (intro w hSw; (try dsimp only at hSw); go_simp)
                                    try simp only [Act.put, List.setIfInBounds_toArray, List.set_cons_zero, List.set_cons_succ]
                                    refine wpAnyH_done (by kernel_rfl) ?_ _
                                    go_wp2_with fail
                                    go_roundw
                                    case rel => exact ⟨dn ++ [z1], rn, rn', by rw [List.length_append]; go_num, by simp; omega, by omega, Lib.hid (by rw [G1.out]; simp), Lib.hid (by rw [G2.out, hz]; simp), HD2'⟩
                                    case measure => simp [intOf]; omega
                                  · have Tz := str_beq_ne hz
                                    go_upto_region 17 with fail
                                    refine wp_region_held_drew (S := fun W => W.cell? ⟨u, 3, none⟩ = some (.slice (some ⟨bn, on, none⟩) rt.length s1.cr) ∧ W.cell? ⟨v, 3, none⟩ = some (.slice (some ⟨bm, om, none⟩) rt'.length s2.cr) ∧ W.cell? ⟨bn, on + dn.length, none⟩ = some (.string (str z1)) ∧ W.cell? ⟨bm, om + dn.length, none⟩ = some (.string (str z2))) (by kernel_rfl) ?_ (fun hHeld => ?_)
                                    · exact ⟨e2, e3, e4, e5⟩
                                    refine tk 0 ?_ rfl (Or.inl ⟨by rfl, ?_⟩) ?_
                                    rotate_left
                                    · (intro w hSw; (try dsimp only at hSw); go_simp; try with_reducible rfl)
                                    try simp only [Act.put, List.setIfInBounds_toArray, List.set_cons_zero, List.set_cons_succ]
                                    refine tk 1 ?_ rfl (Or.inl ⟨by rfl, ?_⟩) ?_
                                    rotate_left
                                    · (intro w hSw; (try dsimp only at hSw); go_simp; try with_reducible rfl)
                                    try simp only [Act.put, List.setIfInBounds_toArray, List.set_cons_zero, List.set_cons_succ]
                                    refine tk 2 ?_ rfl (Or.inl ⟨by rfl, ?_⟩) ?_
                                    rotate_left
                                    · (intro w hSw; (try dsimp only at hSw); go_simp; try with_reducible rfl)
                                    try simp only [Act.put, List.setIfInBounds_toArray, List.set_cons_zero, List.set_cons_succ]
                                    refine tk 3 ?_ rfl (Or.inl ⟨by rfl, ?_⟩) ?_
                                    rotate_left
                                    · (intro w hSw; (try dsimp only at hSw); go_simp; try with_reducible rfl)
                                    try simp only [Act.put, List.setIfInBounds_toArray, List.set_cons_zero, List.set_cons_succ]
                                    refine tk 4 ?_ rfl (Or.inl ⟨by rfl, ?_⟩) ?_
                                    rotate_left
                                    · (intro w hSw; (try dsimp only at hSw); go_simp; try with_reducible rfl)
                                    try simp only [Act.put, List.setIfInBounds_toArray, List.set_cons_zero, List.set_cons_succ]
                                    refine tk 5 ?_ rfl (Or.inl ⟨by rfl, ?_⟩) ?_
                                    rotate_left
                                    · (intro w hSw; (try dsimp only at hSw); go_simp; try with_reducible rfl)
                                    try simp only [Act.put, List.setIfInBounds_toArray, List.set_cons_zero, List.set_cons_succ]
                                    refine tk 6 ?_ rfl (Or.inl ⟨by rfl, ?_⟩) ?_
                                    rotate_left
                                    · (intro w hSw; (try dsimp only at hSw); go_simp; try with_reducible rfl)
                                    try simp only [Act.put, List.setIfInBounds_toArray, List.set_cons_zero, List.set_cons_succ]
                                    refine tk 7 ?_ rfl (Or.inl ⟨by rfl, ?_⟩) ?_
                                    rotate_left
                                    · (intro w hSw; (try dsimp only at hSw); go_simp; try with_reducible rfl)
                                    try simp only [Act.put, List.setIfInBounds_toArray, List.set_cons_zero, List.set_cons_succ]
                                    refine tk 8 ?_ rfl (Or.inl ⟨by rfl, ?_⟩) ?_
                                    rotate_left
                                    · (intro w hSw; (try dsimp only at hSw); go_simp; try with_reducible rfl)
                                    try simp only [Act.put, List.setIfInBounds_toArray, List.set_cons_zero, List.set_cons_succ]
                                    refine tk 9 ?_ rfl (Or.inl ⟨by rfl, ?_⟩) ?_
                                    rotate_left
                                    · (intro w hSw; (try dsimp only at hSw); go_simp; try with_reducible rfl)
                                    try simp only [Act.put, List.setIfInBounds_toArray, List.set_cons_zero, List.set_cons_succ]
                                    refine tk 10 (.bool true) rfl (Or.inl ⟨by rfl, ?_⟩) ?_
                                    · (intro w hSw; (try dsimp only at hSw); go_simp)
                                    try simp only [Act.put, List.setIfInBounds_toArray, List.set_cons_zero, List.set_cons_succ]
                                    refine wpAnyH_done (by kernel_rfl) ?_ _
                                    have HV := Lib.hid (eqB_false (show ¬ Prg.mk rg xs = Prg.mk rg' ys from fun h => NE.out (by injection h) fun h => hz (by injection h with _ _ _ h; rw [G1.out, G2.out] at h; have := List.append_cancel_left h; injection this)))
                                    go_wp2_with fail
                                    go_ret
                                    exact ⟨ret_bool HV.out, HW0.out.trans ((HBr.out.trans ((HB0.out.trans (HD2'.out.mono HB0.out.size)).mono HBr.out.size)).mono HW0.out.size)⟩
                              | nil =>
                                obtain rfl : rn' = [] := List.eq_nil_of_length_eq_zero hk2
                                simp only [List.length_nil] at hk1
                                have hge2 : ¬ dn.length < rt.length := by omega
                                have HV := Lib.hid (show Fnc.mk nm ps vs rt bd = Fnc.mk nm ps' vs' rt' bd' by rw [Eps.out, Evs.out, Ebd.out, G1.out, G2.out])
                                have c2 : w4.cell? ⟨u, 3, none⟩ = some (.slice s1.pr rt.length s1.cr) := HX.out _ hB2.out 3 _ rfl
                                have HBE := Lib.hid (HBr.out.trans (HBo.out.mono HBr.out.size))
                                go_wp2_with fail
                                go_roundw
                                case rel => exact ⟨ds ++ [Fnc.mk nm ps vs rt bd], rs, rs', by rw [List.length_append]; go_num, Lib.hid (by rw [E1.out]; simp), Lib.hid (by rw [E2.out, ← HV.out]; simp), by simp; omega, by omega, HBE⟩
                                case measure => simp [intOf]; omega
                    · have Tnm := str_beq_ne hvnm
                      have HV := Lib.hid (eqB_false (show ¬ Prg.mk rg xs = Prg.mk rg' ys from fun h => NE.out (by injection h) fun h => hvnm (by injection h)))
                      clear hvnm
                      have gx0_0 : wc.cell? ⟨u, 0, none⟩ = some (.string (str nm)) := HX.out _ (Below.refl _ _) 0 _ rfl
                      have gy0_0 : wc.cell? ⟨v, 0, none⟩ = some (.string (str nm')) := HY.out _ (Below.refl _ _) 0 _ rfl
                      go_wp2_with fail
                      go_ret
                      exact ⟨ret_bool HV.out, HW0.out.trans ((HBr.out.trans (HB0.out.mono HBr.out.size)).mono HW0.out.size)⟩
        | cons y1 rs =>
          cases rs' with
          | nil => simp at hd2
          | cons y2 rs' =>
            have cy0 : wr.cell? ⟨w.heap.size + 1, 0, none⟩ = some (.slice p' rg'.length c') := HY0.out _ hB.out 0 _ rfl
            simp only [List.length_cons] at hd1 hd2
            have hlt1 : ds.length < rg.length := by omega
            have hlt2 : ds.length < rg'.length := by have := HL1.out; omega
            rcases R1.out.2 with h30 | ⟨b1, o1, rfl, hb1, ha1⟩
            · omega
            rcases R2.out.2 with h30 | ⟨b2, o2, rfl, hb2, ha2⟩
            · omega
            rw [E1.out] at ha1
            rw [E2.out] at ha2
            have HBww := HW0.out.trans (hB.out.mono HW0.out.size)
            have u1 := Rgn.At.later (HBww.mono HXN.out) y1 b1 _ hb1 (Row.drop _ _ _ ha1).1
            have u2 := Rgn.At.later (HBww.mono HXN.out) y2 b2 _ hb2 (Row.drop _ _ _ ha2).1
            obtain ⟨u10, u11, u12, u13⟩ := u1
            obtain ⟨u20, u21, u22, u23⟩ := u2
            have HD := Lib.hid hB.out.drew
            clear ha1 ha2 HBww
            by_cases hy : y1 = y2
            · subst hy
              have e1 := neq_rgn_eq y1
              go_wp2_with fail
              go_region
              all_goals
                go_wp2_with fail
                go_roundw
                case rel => exact ⟨ds ++ [y1], rs, rs', by rw [List.length_append]; go_num, Lib.hid (by rw [E1.out]; simp), Lib.hid (by rw [E2.out]; simp), by simp; omega, by omega, HD⟩
                case measure => simp [intOf]; omega
            · have e1 := neq_rgn_ne hy
              have EQ := Lib.hid (eqB_false (show ¬ Prg.mk rg xs = Prg.mk rg' ys by
                intro e
                injection e with e _
                rw [E1.out, E2.out] at e
                have := List.append_cancel_left e
                injection this with e6 _
                exact hy e6))
              clear hy
              go_wp2_with fail
              go_region
              all_goals
                go_wp2_with fail
                go_ret
                exact ⟨ret_bool EQ.out, HW0.out.trans (HD.out.mono HW0.out.size)⟩
    · have HV := Lib.hid (eqB_false (show ¬ Prg.mk rg xs = Prg.mk rg' ys from fun h => hl2 (by injection h with _ h; rw [h])))
      have e1 : ((rg.length : Int) != (rg'.length : Int)) = false := by simp [hl1]
      have e2 : ((xs.length : Int) != (ys.length : Int)) = true := by simp; omega
      rw [← hw0] at HW0
      clear hl1 hl2 HX0 HY0 hw2 hw0
      go_enter Try.func9, Try.ntmps9
      go_wp2_with fail
      go_ret
      exact ⟨ret_bool HV.out, HW0.out⟩
  · have HV := Lib.hid (eqB_false (show ¬ Prg.mk rg xs = Prg.mk rg' ys from fun h => hl1 (by injection h with h _; rw [h])))
    have e1 : ((rg.length : Int) != (rg'.length : Int)) = true := by simp; omega
    rw [← hw0] at HW0
    clear hl1 HX0 HY0 hw2 hw0
    go_enter Try.func9, Try.ntmps9
    go_wp2_with fail
    go_ret
    exact ⟨ret_bool HV.out, HW0.out⟩
end Go.Proofs.Ytnghehcjklkoeaa
