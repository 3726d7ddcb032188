/- Two programs are the same: the document's. -/
import Derived.Test.YtlhbledakddbbaaGreatDoorR1
import Derived.Test.YtlhbledakddbbaaGreatDoorQ6
namespace Go.Proofs.YtlhbledakddbbaaGreatDoor
open Go.RowKit

abbrev zeroFn : Array Value := #[.string ⟨#[]⟩, .slice none 0 0, .slice none 0 0, .slice none 0 0, .slice none 0 0]
def HoldP (N b1 o1 b2 o2 : Nat) (x y : Value) (A1 A2 : Array Value) (W : World) : Prop :=
  (W.cell? ⟨N, 1, none⟩ = some x ∧ W.cell? ⟨N + 1, 1, none⟩ = some y) ∧ W.rangeAt b1 o1 A1.toList ∧ W.rangeAt b2 o2 A2.toList
theorem hold_alloc {N b1 o1 b2 o2 : Nat} {x y : Value} {A1 A2 : Array Value} {W : World} {O : Obj} (h : HoldP N b1 o1 b2 o2 x y A1 A2 W) (h1 : N < W.heap.size) (h2 : N + 1 < W.heap.size) (h3 : b1 < W.heap.size) (h4 : b2 < W.heap.size) : HoldP N b1 o1 b2 o2 x y A1 A2 (W.alloc O) :=
  have HB : Below W.heap.size W (W.alloc O) := (Below.refl _ _).alloc (Nat.le_refl _) _
  ⟨⟨(HB.cell (p := ⟨N, 1, none⟩) h1).trans h.1.1, (HB.cell (p := ⟨N + 1, 1, none⟩) h2).trans h.1.2⟩, range_later h.2.1 h3 HB, range_later h.2.2 h4 HB⟩
theorem hold_set {N b1 o1 b2 o2 : Nat} {x y : Value} {A1 A2 : Array Value} {W : World} {b : Nat} {o : Nat} {vs : List Value} (h : HoldP N b1 o1 b2 o2 x y A1 A2 W) (h1 : N < b) (h2 : N + 1 < b) (h3 : b1 < b) (h4 : b2 < b) : HoldP N b1 o1 b2 o2 x y A1 A2 (W.setCells b o vs) :=
  ⟨⟨(World.cell?_setCells_out b vs o W ⟨N, 1, none⟩ (fun e => absurd e (Nat.ne_of_lt h1))).trans h.1.1, (World.cell?_setCells_out b vs o W ⟨N + 1, 1, none⟩ (fun e => absurd e (Nat.ne_of_lt h2))).trans h.1.2⟩,
   World.rangeAt_setCells_apart h.2.1 _ _ _ (.inl (Nat.ne_of_lt h3)), World.rangeAt_setCells_apart h.2.2 _ _ _ (.inl (Nat.ne_of_lt h4))⟩
set_option maxRecDepth 100000 in
set_option maxHeartbeats 12800000 in
theorem rSame_any (x y : Prg) (p q p' q' : Option Addr) (c d c' d' N : Nat) (w : World) (hx : x.Ok w N p q) (hy : y.Ok w N p' q') (hN : N ≤ w.heap.size) :
    Calls Tryz.prog 22 #[x.val p q c d, y.val p' q' c' d'] w fun e w' => e = .returned (.bool (eqB x y)) ∧ Below w.heap.size w w' := by
  obtain ⟨rg, xs⟩ := x
  obtain ⟨rg', ys⟩ := y
  obtain ⟨w0, hw0⟩ : ∃ w0, ((w.alloc (Obj.cells #[.slice p rg.length c, .slice q xs.length d] 39)).alloc (Obj.cells #[.slice p' rg'.length c', .slice q' ys.length d'] 39)) = w0 := ⟨_, rfl⟩
  have HW0 := Lib.hid (show Below w.heap.size w w0 by rw [← hw0]; exact ((Below.refl _ w).alloc (Nat.le_refl _) _).alloc (by simp) _)
  have HX0 := Lib.hid (fun w1 hb => cells_later (w0 := w0) (w1 := w1) (b := w.heap.size) (A := #[.slice p rg.length c, .slice q xs.length d]) (t := 39) (by rw [← hw0, heap_alloc_old _ _ (by simp)]; exact heap_alloc_new w _) hb)
  have HY0 := Lib.hid (fun w1 hb => cells_later (w0 := w0) (w1 := w1) (b := w.heap.size + 1) (A := #[.slice p' rg'.length c', .slice q' ys.length d']) (t := 39) (by rw [← hw0]; have := heap_alloc_new (w.alloc (Obj.cells #[.slice p rg.length c, .slice q xs.length d] 39)) (Obj.cells #[.slice p' rg'.length c', .slice q' ys.length d'] 39); simpa using this) hb)
  have hw2 : w0.heap.size = w.heap.size + 2 := by rw [← hw0]; simp
  have R1 := Lib.hid hx.1
  have R2 := Lib.hid hy.1
  have S1 := Lib.hid hx.2
  have S2 := Lib.hid hy.2
  have hm1 : rg.length ≤ 140737488355328 := hx.1.1
  have hm2 : rg'.length ≤ 140737488355328 := hy.1.1
  have hm3 : xs.length ≤ 140737488355328 := hx.2.1
  have hm4 : ys.length ≤ 140737488355328 := hy.2.1
  have HXN := Lib.hid hN
  clear hx hy
  show Calls _ _ #[.agg #[.slice p rg.length c, .slice q xs.length d], .agg #[.slice p' rg'.length c', .slice q' ys.length d']] w _
  by_cases hl1 : rg.length = rg'.length
  · by_cases hl2 : xs.length = ys.length
    · have HL1 := Lib.hid hl1
      have HL2 := Lib.hid hl2
      have e1 : ((rg.length : Int) != (rg'.length : Int)) = false := by simp [hl1]
      have e2 : ((xs.length : Int) != (ys.length : Int)) = false := by simp [hl2]
      clear hl1 hl2
      have gz0 : w0.cell? ⟨w.heap.size, 0, none⟩ = some (.slice p rg.length c) := HX0.out _ (Below.refl _ _) 0 _ rfl
      have gz1 : w0.cell? ⟨w.heap.size, 1, none⟩ = some (.slice q xs.length d) := HX0.out _ (Below.refl _ _) 1 _ rfl
      have gz2 : w0.cell? ⟨w.heap.size + 1, 0, none⟩ = some (.slice p' rg'.length c') := HY0.out _ (Below.refl _ _) 0 _ rfl
      have gz3 : w0.cell? ⟨w.heap.size + 1, 1, none⟩ = some (.slice q' ys.length d') := HY0.out _ (Below.refl _ _) 1 _ rfl
      go_enter Tryz.func22, Tryz.ntmps22
      go_wp2_with fail
      clear hw0 e1 e2 gz0 gz1 gz2 gz3
      go_loopw [5] (fun i wr => ∃ (ds rs rs' : List Rgn), i = .int .i64 ds.length ∧ Hid (rg = ds ++ rs) ∧ Hid (rg' = ds ++ rs') ∧ ds.length + rs.length = rg.length ∧ rs'.length = rs.length ∧ Hid (Below w0.heap.size w0 wr)) (fun i _ => rg.length - (intOf i).toNat)
      case atStart => exact ⟨[], rg, rg', rfl, Lib.hid rfl, Lib.hid rfl, by simp, by have := HL1.out; omega, Lib.hid (Below.refl _ _)⟩
      case round =>
        obtain ⟨ds, rs, rs', rfl, E1, E2, hd1, hd2, hB⟩ := hrel
        have cx0 : wr.cell? ⟨w.heap.size, 0, none⟩ = some (.slice p rg.length c) := HX0.out _ hB.out 0 _ rfl
        cases rs with
        | nil =>
          cases rs' with
          | cons _ _ => simp at hd2
          | nil =>
            simp only [List.length_nil] at hd1
            have hge : ¬ ds.length < rg.length := by omega
            have ER := Lib.hid (show rg = rg' by rw [E1.out, E2.out])
            go_wp2_with fail
            clear E1 E2 hge hd1 hd2 cx0
            have hB' := hB
            clear hB
            go_loopw [6] (fun i wr => ∃ (ds rs rs' : List Fnc), i = .int .i64 ds.length ∧ Hid (xs = ds ++ rs) ∧ Hid (ys = ds ++ rs') ∧ ds.length + rs.length = xs.length ∧ rs'.length = rs.length ∧ Hid (Below w0.heap.size w0 wr)) (fun i _ => xs.length - (intOf i).toNat)
            case atStart => exact ⟨[], xs, ys, rfl, Lib.hid rfl, Lib.hid rfl, by simp, by have := HL2.out; omega, hB'⟩
            case round =>
              clear hB'
              obtain ⟨ds, rs, rs', rfl, E1, E2, hd1, hd2, HBr⟩ := hrel
              have cx : wr.cell? ⟨w.heap.size, 1, none⟩ = some (.slice q xs.length d) := HX0.out _ HBr.out 1 _ rfl
              have cy : wr.cell? ⟨w.heap.size + 1, 1, none⟩ = some (.slice q' ys.length d') := HY0.out _ HBr.out 1 _ rfl
              cases rs with
              | nil =>
                cases rs' with
                | cons _ _ => simp at hd2
                | nil =>
                  simp only [List.length_nil] at hd1
                  have hge : ¬ ds.length < xs.length := by omega
                  have EQ := Lib.hid (eqB_true (show Prg.mk rg xs = Prg.mk rg' ys by rw [ER.out, E1.out, E2.out]))
                  go_wp2_with fail
                  go_ret
                  exact ⟨ret_bool EQ.out, HW0.out.trans (HBr.out.mono HW0.out.size)⟩
              | cons y1 rs =>
                cases rs' with
                | nil => simp at hd2
                | cons y2 rs' =>
                  simp only [List.length_cons] at hd1 hd2
                  have hlt1 : ds.length < xs.length := by omega
                  have hlt2 : ds.length < ys.length := by have := HL2.out; omega
                  rcases S1.out.2 with h30 | ⟨b1, o1, rfl, hb1, ha1⟩
                  · omega
                  rcases S2.out.2 with h30 | ⟨b2, o2, rfl, hb2, ha2⟩
                  · omega
                  have hws := HBr.out.size
                  have HBww := HW0.out.trans (HBr.out.mono HW0.out.size)
                  rw [E1.out] at ha1
                  rw [E2.out] at ha2
                  obtain ⟨s1, c1, ok1⟩ := Fnc.At.openP (Fnc.At.later (HBww.mono HXN.out) (Nat.le_trans HXN.out HBww.size) y1 b1 _ hb1 (Row.drop _ _ _ ha1).1)
                  obtain ⟨s2, c2, ok2⟩ := Fnc.At.openP (Fnc.At.later (HBww.mono HXN.out) (Nat.le_trans HXN.out HBww.size) y2 b2 _ hb2 (Row.drop _ _ _ ha2).1)
                  obtain ⟨A1, hA1⟩ : ∃ A1, y1.cells s1 = A1 := ⟨_, rfl⟩
                  obtain ⟨A2, hA2⟩ : ∃ A2, y2.cells s2 = A2 := ⟨_, rfl⟩
                  have HA := Lib.hid (And.intro hA1 hA2)
                  have HK := Lib.hid (And.intro ok1 ok2)
                  have HZ1 := Lib.hid (show A1.size = 5 by rw [← hA1]; rfl)
                  have HZ2 := Lib.hid (show A2.size = 5 by rw [← hA2]; rfl)
                  have HO1 := Lib.hid (show A1.all (·.oneCell') = true by rw [← hA1]; exact oneFnc _ _)
                  have HO2 := Lib.hid (show A2.all (·.oneCell') = true by rw [← hA2]; exact oneFnc _ _)
                  have F1 := Lib.hid (show wr.rangeAt b1 (o1 + ds.length * 5) A1.toList from fun j v hv => c1 j v (by rw [hA1, ← Array.getElem?_toList]; exact hv))
                  have F2 := Lib.hid (show wr.rangeAt b2 (o2 + ds.length * 5) A2.toList from fun j v hv => c2 j v (by rw [hA2, ← Array.getElem?_toList]; exact hv))
                  have HI1 := Lib.hid (infoFnc.trans (by rw [HZ1.out]) : (Tryz.prog.info? 49).map (·.size) = some A1.size)
                  have HI2 := Lib.hid (infoFnc.trans (by rw [HZ2.out]) : (Tryz.prog.info? 49).map (·.size) = some A2.size)
                  have hbl1 : b1 < wr.heap.size := by omega
                  have hbl2 : b2 < wr.heap.size := by omega
                  have TH1 := Lib.hid (there_new2 wr zeroFn 49).1
                  have TH2 := Lib.hid (there_new2 wr zeroFn 49).2
                  have HBW := Lib.hid (((Below.refl _ wr).alloc (Nat.le_refl _) (.cells zeroFn 49)).alloc (by simp) (.cells zeroFn 49)).drew
                  clear c1 c2 ha1 ha2 hA1 hA2 ok1 ok2 HBww
                  go_upto_region 11 with fail
                  go_cut [7, 8] from 50 to 59 (fun s7 s8 wx => ∃ u v : Nat, s7 = .pointer (some ⟨u, 0, none⟩) ∧ s8 = .pointer (some ⟨v, 0, none⟩) ∧ Hid (PairS A1 A2 u v wr wx))
                  case first =>
                    refine wp_region_held_drew (S := fun W => (W.cell? ⟨w.heap.size, 1, none⟩ = some (.slice (some ⟨b1, o1, none⟩) xs.length d) ∧ W.cell? ⟨w.heap.size + 1, 1, none⟩ = some (.slice (some ⟨b2, o2, none⟩) ys.length d')) ∧ W.rangeAt b1 (o1 + ds.length * 5) A1.toList ∧ W.rangeAt b2 (o2 + ds.length * 5) A2.toList) (by kernel_rfl) ?_ (fun hHeld => ?_)
                    · exact ⟨⟨by rw [World.cell?_drew]; exact cx, by rw [World.cell?_drew]; exact cy⟩, range_later F1.out hbl1 (Below.refl _ _).drew, range_later F2.out hbl2 (Below.refl _ _).drew⟩
                    refine wpAnyH_take (i := 0) (oi := { dst := Option.some 50, op := Go.Op.fieldAddr 39 (Go.Operand.tmp 2) 1, type := 0, pos := "ref.go:407", after := #[], guard := Option.none }) (v := ?_) rfl (by kernel_rfl) (by kernel_rfl) (by kernel_rfl) (fun _ _ _ h => h) (Or.inl ⟨by rfl, ?_⟩) (by assumption) ?_
                    rotate_left
                    · (intro w hSw; (try dsimp only at hSw); go_simp; try with_reducible rfl)
                    try simp only [Act.put, List.setIfInBounds_toArray, List.set_cons_zero, List.set_cons_succ]
                    refine wpAnyH_take (i := 1) (oi := { dst := Option.some 51, op := Go.Op.load 37 (Go.Operand.tmp 50), type := 37, pos := "ref.go:407", after := #[{ on := 0, ground := Go.Ground.data }], guard := Option.none }) (v := ?_) rfl (by kernel_rfl) (by kernel_rfl) (by kernel_rfl) (fun _ _ _ h => h) (Or.inl ⟨by rfl, ?_⟩) (by assumption) ?_
                    rotate_left
                    · (intro w hSw; (try dsimp only at hSw); go_simp; try with_reducible rfl)
                    try simp only [Act.put, List.setIfInBounds_toArray, List.set_cons_zero, List.set_cons_succ]
                    refine wpAnyH_take (i := 2) (oi := { dst := Option.some 52, op := Go.Op.move (Go.Operand.tmp 6), type := 3, pos := "ref.go:407", after := #[], guard := Option.none }) (v := ?_) rfl (by kernel_rfl) (by kernel_rfl) (by kernel_rfl) (fun _ _ _ h => h) (Or.inl ⟨by rfl, ?_⟩) (by assumption) ?_
                    rotate_left
                    · (intro w hSw; (try dsimp only at hSw); go_simp; try with_reducible rfl)
                    try simp only [Act.put, List.setIfInBounds_toArray, List.set_cons_zero, List.set_cons_succ]
                    refine wpAnyH_take (i := 3) (oi := { dst := Option.some 53, op := Go.Op.indexAddr 37 (Go.Operand.tmp 51) (Go.Operand.tmp 52), type := 0, pos := "ref.go:407", after := #[{ on := 1, ground := Go.Ground.data }, { on := 2, ground := Go.Ground.data }], guard := Option.none }) (v := ?_) rfl (by kernel_rfl) (by kernel_rfl) (by kernel_rfl) (fun _ _ _ h => h) (Or.inl ⟨by rfl, ?_⟩) (by assumption) ?_
                    rotate_left
                    · (intro w hSw; (try dsimp only at hSw); go_simp; try with_reducible rfl)
                    try simp only [Act.put, List.setIfInBounds_toArray, List.set_cons_zero, List.set_cons_succ]
                    refine wpAnyH_take (i := 4) (oi := { dst := Option.some 54, op := Go.Op.load 49 (Go.Operand.tmp 53), type := 49, pos := "ref.go:407", after := #[{ on := 3, ground := Go.Ground.data }], guard := Option.none }) (v := .agg A1) rfl (by kernel_rfl) (by kernel_rfl) (by kernel_rfl) (fun _ _ _ h => h) (yieldsIf_load_mid (by rfl) 49 _ rfl b1 (o1 + ds.length * 5) (by rfl) A1.toList _ (fun _ h => h.2.1) Tryz.underlying49 rfl (by rw [HI1.out]; simp)) (by assumption) ?_
                    try simp only [Act.put, List.setIfInBounds_toArray, List.set_cons_zero, List.set_cons_succ]
                    refine wpAnyH_take (i := 5) (oi := { dst := Option.some 55, op := Go.Op.fieldAddr 39 (Go.Operand.tmp 3) 1, type := 0, pos := "ref.go:407", after := #[{ on := 12, ground := Go.Ground.gcOnly Go.Departure.lateStores }], guard := Option.none }) (v := ?_) rfl (by kernel_rfl) (by kernel_rfl) (by kernel_rfl) (fun _ _ _ h => h) (Or.inl ⟨by rfl, ?_⟩) (by assumption) ?_
                    rotate_left
                    · (intro w hSw; (try dsimp only at hSw); go_simp; try with_reducible rfl)
                    try simp only [Act.put, List.setIfInBounds_toArray, List.set_cons_zero, List.set_cons_succ]
                    refine wpAnyH_take (i := 6) (oi := { dst := Option.some 56, op := Go.Op.load 37 (Go.Operand.tmp 55), type := 37, pos := "ref.go:407", after := #[{ on := 5, ground := Go.Ground.data }, { on := 12, ground := Go.Ground.gcOnly Go.Departure.lateStores }], guard := Option.none }) (v := ?_) rfl (by kernel_rfl) (by kernel_rfl) (by kernel_rfl) (fun _ _ _ h => h) (Or.inl ⟨by rfl, ?_⟩) (by assumption) ?_
                    rotate_left
                    · (intro w hSw; (try dsimp only at hSw); go_simp; try with_reducible rfl)
                    try simp only [Act.put, List.setIfInBounds_toArray, List.set_cons_zero, List.set_cons_succ]
                    refine wpAnyH_take (i := 7) (oi := { dst := Option.some 57, op := Go.Op.move (Go.Operand.tmp 6), type := 3, pos := "ref.go:407", after := #[{ on := 12, ground := Go.Ground.gcOnly Go.Departure.lateStores }], guard := Option.none }) (v := ?_) rfl (by kernel_rfl) (by kernel_rfl) (by kernel_rfl) (fun _ _ _ h => h) (Or.inl ⟨by rfl, ?_⟩) (by assumption) ?_
                    rotate_left
                    · (intro w hSw; (try dsimp only at hSw); go_simp; try with_reducible rfl)
                    try simp only [Act.put, List.setIfInBounds_toArray, List.set_cons_zero, List.set_cons_succ]
                    refine wpAnyH_take (i := 8) (oi := { dst := Option.some 58, op := Go.Op.indexAddr 37 (Go.Operand.tmp 56) (Go.Operand.tmp 57), type := 0, pos := "ref.go:407", after := #[{ on := 6, ground := Go.Ground.data }, { on := 7, ground := Go.Ground.data }, { on := 12, ground := Go.Ground.gcOnly Go.Departure.lateStores }], guard := Option.none }) (v := ?_) rfl (by kernel_rfl) (by kernel_rfl) (by kernel_rfl) (fun _ _ _ h => h) (Or.inl ⟨by rfl, ?_⟩) (by assumption) ?_
                    rotate_left
                    · (intro w hSw; (try dsimp only at hSw); go_simp; try with_reducible rfl)
                    try simp only [Act.put, List.setIfInBounds_toArray, List.set_cons_zero, List.set_cons_succ]
                    refine wpAnyH_take (i := 9) (oi := { dst := Option.some 59, op := Go.Op.load 49 (Go.Operand.tmp 58), type := 49, pos := "ref.go:407", after := #[{ on := 8, ground := Go.Ground.data }, { on := 12, ground := Go.Ground.gcOnly Go.Departure.lateStores }], guard := Option.none }) (v := .agg A2) rfl (by kernel_rfl) (by kernel_rfl) (by kernel_rfl) (fun _ _ _ h => h) (yieldsIf_load_mid (by rfl) 49 _ rfl b2 (o2 + ds.length * 5) (by rfl) A2.toList _ (fun _ h => h.2.2) Tryz.underlying49 rfl (by rw [HI2.out]; simp)) (by assumption) ?_
                    try simp only [Act.put, List.setIfInBounds_toArray, List.set_cons_zero, List.set_cons_succ]
                    refine wpAnyH_ready (rs := [10, 11]) (by kernel_rfl) (by simp) ?_
                    refine AllReadyH.cons (o := { dst := Option.some 7, op := Go.Op.alloc 49, type := 0, pos := "ref.go:407", after := #[], guard := Option.none }) rfl (fun K hK => ?_) (AllReadyH.cons (o := { dst := Option.some 8, op := Go.Op.alloc 49, type := 0, pos := "ref.go:407", after := #[], guard := Option.none }) rfl (fun K hK => ?_) AllReadyH.nil)
                    · go_simp
                      refine hK.out _ _ ?_ (fun hHeld => ?_)
                      · exact hold_alloc hHeld (by first | omega | (simp; omega)) (by first | omega | (simp; omega)) (by first | omega | (simp; omega)) (by first | omega | (simp; omega))
                      clear hK K
                      try simp only [Act.put, List.setIfInBounds_toArray, List.set_cons_zero, List.set_cons_succ]
                      refine wpAnyH_ready (rs := [11]) (by kernel_rfl) (by simp) ?_
                      refine AllReadyH.cons (o := { dst := Option.some 8, op := Go.Op.alloc 49, type := 0, pos := "ref.go:407", after := #[], guard := Option.none }) rfl (fun K hK => ?_) AllReadyH.nil
                      go_simp
                      refine hK.out _ _ ?_ (fun hHeld => ?_)
                      · exact hold_alloc hHeld (by first | omega | (simp; omega)) (by first | omega | (simp; omega)) (by first | omega | (simp; omega)) (by first | omega | (simp; omega))
                      clear hK K
                      try simp only [Act.put, List.setIfInBounds_toArray, List.set_cons_zero, List.set_cons_succ]
                      refine wpAnyH_ready (rs := [12]) (by kernel_rfl) (by simp) ?_
                      refine AllReadyH.cons (o := { dst := Option.none, op := Go.Op.store 49 (Go.Operand.tmp 7) (Go.Operand.tmp 54), type := 0, pos := "ref.go:407", after := #[{ on := 10, ground := Go.Ground.data }, { on := 4, ground := Go.Ground.data }, { on := 0, ground := Go.Ground.phase }, { on := 1, ground := Go.Ground.phase }, { on := 2, ground := Go.Ground.phase }, { on := 3, ground := Go.Ground.phase }, { on := 4, ground := Go.Ground.phase }, { on := 5, ground := Go.Ground.textOnly Go.Departure.lateStores }, { on := 6, ground := Go.Ground.textOnly Go.Departure.lateStores }, { on := 7, ground := Go.Ground.textOnly Go.Departure.lateStores }, { on := 8, ground := Go.Ground.textOnly Go.Departure.lateStores }, { on := 9, ground := Go.Ground.textOnly Go.Departure.lateStores }, { on := 10, ground := Go.Ground.phase }, { on := 11, ground := Go.Ground.phase }], guard := Option.none }) rfl (fun K hK => ?_) AllReadyH.nil
                      rw [if_pos (by rfl)]
                      refine wp_store_mid 49 _ _ rfl (wr.heap.size) 0 A1 (by rfl) (by rfl) (by rw [HZ1.out]; exact TH1.out) HI1.out HO1.out ?_
                      refine hK.out _ _ ?_ (fun hHeld => ?_)
                      · exact hold_set hHeld (by omega) (by omega) (by omega) (by omega)
                      clear hK K
                      try simp only [Act.put]
                      refine wpAnyH_ready (rs := [13]) (by kernel_rfl) (by simp) ?_
                      refine AllReadyH.cons (o := { dst := Option.none, op := Go.Op.store 49 (Go.Operand.tmp 8) (Go.Operand.tmp 59), type := 0, pos := "ref.go:407", after := #[{ on := 11, ground := Go.Ground.data }, { on := 9, ground := Go.Ground.data }, { on := 12, ground := Go.Ground.chain }, { on := 0, ground := Go.Ground.phase }, { on := 1, ground := Go.Ground.phase }, { on := 2, ground := Go.Ground.phase }, { on := 3, ground := Go.Ground.phase }, { on := 4, ground := Go.Ground.phase }, { on := 5, ground := Go.Ground.phase }, { on := 6, ground := Go.Ground.phase }, { on := 7, ground := Go.Ground.phase }, { on := 8, ground := Go.Ground.phase }, { on := 9, ground := Go.Ground.phase }, { on := 10, ground := Go.Ground.phase }, { on := 11, ground := Go.Ground.phase }, { on := 12, ground := Go.Ground.phase }], guard := Option.none }) rfl (fun K hK => ?_) AllReadyH.nil
                      rw [if_pos (by rfl)]
                      refine wp_store_mid 49 _ _ rfl (wr.heap.size + 1) 0 A2 (by rfl) (by rfl) (World.there_setCells (by rw [HZ2.out]; exact TH2.out) _ _ _) HI2.out HO2.out ?_
                      refine hK.out _ _ ?_ (fun hHeld => ?_)
                      · exact hold_set hHeld (by omega) (by omega) (by omega) (by omega)
                      clear hK K
                      try simp only [Act.put]
                      refine wpAnyH_done (by kernel_rfl) ?_ _
                      go_wp2_with fail
                      go_meet
                      exact ⟨wr.heap.size, wr.heap.size + 1, rfl, rfl, Lib.hid (pair_of (by omega) (by rw [HZ1.out]; exact TH1.out) (by rw [HZ2.out]; exact TH2.out) HBW.out (by omega) (by omega) (by simp <;> omega) (by simp <;> omega))⟩
                    · go_simp
                      refine hK.out _ _ ?_ (fun hHeld => ?_)
                      · exact hold_alloc hHeld (by first | omega | (simp; omega)) (by first | omega | (simp; omega)) (by first | omega | (simp; omega)) (by first | omega | (simp; omega))
                      clear hK K
                      try simp only [Act.put, List.setIfInBounds_toArray, List.set_cons_zero, List.set_cons_succ]
                      refine wpAnyH_ready (rs := [10]) (by kernel_rfl) (by simp) ?_
                      refine AllReadyH.cons (o := { dst := Option.some 7, op := Go.Op.alloc 49, type := 0, pos := "ref.go:407", after := #[], guard := Option.none }) rfl (fun K hK => ?_) AllReadyH.nil
                      go_simp
                      refine hK.out _ _ ?_ (fun hHeld => ?_)
                      · exact hold_alloc hHeld (by first | omega | (simp; omega)) (by first | omega | (simp; omega)) (by first | omega | (simp; omega)) (by first | omega | (simp; omega))
                      clear hK K
                      try simp only [Act.put, List.setIfInBounds_toArray, List.set_cons_zero, List.set_cons_succ]
                      refine wpAnyH_ready (rs := [12]) (by kernel_rfl) (by simp) ?_
                      refine AllReadyH.cons (o := { dst := Option.none, op := Go.Op.store 49 (Go.Operand.tmp 7) (Go.Operand.tmp 54), type := 0, pos := "ref.go:407", after := #[{ on := 10, ground := Go.Ground.data }, { on := 4, ground := Go.Ground.data }, { on := 0, ground := Go.Ground.phase }, { on := 1, ground := Go.Ground.phase }, { on := 2, ground := Go.Ground.phase }, { on := 3, ground := Go.Ground.phase }, { on := 4, ground := Go.Ground.phase }, { on := 5, ground := Go.Ground.textOnly Go.Departure.lateStores }, { on := 6, ground := Go.Ground.textOnly Go.Departure.lateStores }, { on := 7, ground := Go.Ground.textOnly Go.Departure.lateStores }, { on := 8, ground := Go.Ground.textOnly Go.Departure.lateStores }, { on := 9, ground := Go.Ground.textOnly Go.Departure.lateStores }, { on := 10, ground := Go.Ground.phase }, { on := 11, ground := Go.Ground.phase }], guard := Option.none }) rfl (fun K hK => ?_) AllReadyH.nil
                      rw [if_pos (by rfl)]
                      refine wp_store_mid 49 _ _ rfl (wr.heap.size + 1) 0 A1 (by rfl) (by rfl) (by rw [HZ1.out]; exact TH2.out) HI1.out HO1.out ?_
                      refine hK.out _ _ ?_ (fun hHeld => ?_)
                      · exact hold_set hHeld (by omega) (by omega) (by omega) (by omega)
                      clear hK K
                      try simp only [Act.put]
                      refine wpAnyH_ready (rs := [13]) (by kernel_rfl) (by simp) ?_
                      refine AllReadyH.cons (o := { dst := Option.none, op := Go.Op.store 49 (Go.Operand.tmp 8) (Go.Operand.tmp 59), type := 0, pos := "ref.go:407", after := #[{ on := 11, ground := Go.Ground.data }, { on := 9, ground := Go.Ground.data }, { on := 12, ground := Go.Ground.chain }, { on := 0, ground := Go.Ground.phase }, { on := 1, ground := Go.Ground.phase }, { on := 2, ground := Go.Ground.phase }, { on := 3, ground := Go.Ground.phase }, { on := 4, ground := Go.Ground.phase }, { on := 5, ground := Go.Ground.phase }, { on := 6, ground := Go.Ground.phase }, { on := 7, ground := Go.Ground.phase }, { on := 8, ground := Go.Ground.phase }, { on := 9, ground := Go.Ground.phase }, { on := 10, ground := Go.Ground.phase }, { on := 11, ground := Go.Ground.phase }, { on := 12, ground := Go.Ground.phase }], guard := Option.none }) rfl (fun K hK => ?_) AllReadyH.nil
                      rw [if_pos (by rfl)]
                      refine wp_store_mid 49 _ _ rfl (wr.heap.size) 0 A2 (by rfl) (by rfl) (World.there_setCells (by rw [HZ2.out]; exact TH1.out) _ _ _) HI2.out HO2.out ?_
                      refine hK.out _ _ ?_ (fun hHeld => ?_)
                      · exact hold_set hHeld (by omega) (by omega) (by omega) (by omega)
                      clear hK K
                      try simp only [Act.put]
                      refine wpAnyH_done (by kernel_rfl) ?_ _
                      go_wp2_with fail
                      go_meet
                      exact ⟨wr.heap.size + 1, wr.heap.size, rfl, rfl, Lib.hid (pair_of (by omega) (by rw [HZ1.out]; exact TH2.out) (by rw [HZ2.out]; exact TH1.out) HBW.out (by omega) (by omega) (by simp <;> omega) (by simp <;> omega))⟩
                  case rest =>
                    obtain ⟨u, v, rfl, rfl, hP⟩ := hcut
                    obtain ⟨nm, ps, vs, rt, bd⟩ := y1
                    obtain ⟨nm', ps', vs', rt', bd'⟩ := y2
                    have NE := Lib.hid (show xs = ys → ¬ (¬ Fnc.mk nm ps vs rt bd = Fnc.mk nm' ps' vs' rt' bd') from fun e h => by
                      rw [E1.out, E2.out] at e
                      have := List.append_cancel_left e
                      injection this with e6 _
                      exact h e6)
                    have HX := Lib.hid (show ∀ w1, Below wc.heap.size wc w1 → ∀ j v, (#[.string (str nm), .slice s1.pp ps.length s1.cp, .slice s1.pv vs.length s1.cv, .slice s1.pr rt.length s1.cr, .slice s1.pb bd.len s1.cb] : Array Value)[j]? = some v → w1.cell? ⟨u, j, none⟩ = some v from fun w1 hb j z hz => (hb.cell hP.out.lu).trans (by have := hP.out.x j z (by rw [← HA.out.1, Array.getElem?_toList]; exact hz); rw [Nat.zero_add] at this; exact this))
                    have HY := Lib.hid (show ∀ w1, Below wc.heap.size wc w1 → ∀ j v', (#[.string (str nm'), .slice s2.pp ps'.length s2.cp, .slice s2.pv vs'.length s2.cv, .slice s2.pr rt'.length s2.cr, .slice s2.pb bd'.len s2.cb] : Array Value)[j]? = some v' → w1.cell? ⟨v, j, none⟩ = some v' from fun w1 hb j z hz => (hb.cell hP.out.lv).trans (by have := hP.out.y j z (by rw [← HA.out.2, Array.getElem?_toList]; exact hz); rw [Nat.zero_add] at this; exact this))
                    have HB0 := Lib.hid hP.out.bel
                    have HD0 := Lib.hid (Below.refl wc.heap.size wc)
                    have Hps := Lib.hid (fun (w1 : World) (hb : Below wr.heap.size wr w1) => rVars_any ps ps' s1.pp s2.pp s1.cp s2.cp wr.heap.size w1 (HK.out.1.1.imp (Nat.le_refl _) (Vr.At.later hb)) (HK.out.2.1.imp (Nat.le_refl _) (Vr.At.later hb)) hb.size)
                    have Hvs := Lib.hid (fun (w1 : World) (hb : Below wr.heap.size wr w1) => rVars_any vs vs' s1.pv s2.pv s1.cv s2.cv wr.heap.size w1 (HK.out.1.2.1.imp (Nat.le_refl _) (Vr.At.later hb)) (HK.out.2.2.1.imp (Nat.le_refl _) (Vr.At.later hb)) hb.size)
                    have Hrt := Lib.hid (fun (w1 : World) (hb : Below wr.heap.size wr w1) => rNames_any rt rt' s1.pr s2.pr s1.cr s2.cr wr.heap.size w1 (HK.out.1.2.2.1.2.imp (Nat.le_refl _) (StrAt.later hb)) (HK.out.2.2.2.1.2.imp (Nat.le_refl _) (StrAt.later hb)) hb.size)
                    have Hbd := Lib.hid (fun (w1 : World) (hb : Below wr.heap.size wr w1) => rSameStmts_any bd bd' s1.pb s2.pb s1.cb s2.cb wr.heap.size w1 (Sts.In.later HK.out.1.2.2.2 hb (Nat.le_refl _)) (Sts.In.later HK.out.2.2.2.2 hb (Nat.le_refl _)) hb.size)
                    clear hP HK HA TH1 TH2 HBW HI1 HI2 F1 F2 HO1 HO2 HZ1 HZ2 S1 S2 cx cy
                    by_cases hvnm : nm = nm'
                    · have Enm := Lib.hid hvnm
                      have Tnm := str_beq_eq nm
                      subst hvnm
                      cases hvps : eqB ps ps' with
                      | false =>
                        have Fps := Lib.hid (eqB_of_false hvps)
                        have HV := Lib.hid (eqB_false (show ¬ Prg.mk rg xs = Prg.mk rg' ys from fun h => NE.out (by injection h) fun h => Fps.out (by injection h)))
                        rw [hvps] at Hps
                        clear hvps
                        have gx0_0 : wc.cell? ⟨u, 0, none⟩ = some (.string (str nm)) := HX.out _ (Below.refl _ _) 0 _ rfl
                        have gy0_0 : wc.cell? ⟨v, 0, none⟩ = some (.string (str nm)) := HY.out _ (Below.refl _ _) 0 _ rfl
                        have gx0_1 : wc.cell? ⟨u, 1, none⟩ = some (.slice s1.pp ps.length s1.cp) := HX.out _ (Below.refl _ _) 1 _ rfl
                        have gy0_1 : wc.cell? ⟨v, 1, none⟩ = some (.slice s2.pp ps'.length s2.cp) := HY.out _ (Below.refl _ _) 1 _ rfl
                        go_wp2_with fail
                        refine (Hps.out _ HB0.out).mono ?_
                        rintro z w1 ⟨rfl, hB'⟩
                        have HB1 := Lib.hid (HB0.out.trans (hB'.mono HB0.out.size))
                        have HD1 := Lib.hid (HD0.out.trans (hB'.mono HD0.out.size))
                        clear hB'
                        go_wp2_with fail
                        go_ret
                        exact ⟨ret_bool HV.out, HW0.out.trans ((HBr.out.trans (HB1.out.mono HBr.out.size)).mono HW0.out.size)⟩
                      | true =>
                        have Eps := Lib.hid (eqB_of_true hvps)
                        rw [hvps] at Hps
                        clear hvps
                        cases hvvs : eqB vs vs' with
                        | false =>
                          have Fvs := Lib.hid (eqB_of_false hvvs)
                          have HV := Lib.hid (eqB_false (show ¬ Prg.mk rg xs = Prg.mk rg' ys from fun h => NE.out (by injection h) fun h => Fvs.out (by injection h)))
                          rw [hvvs] at Hvs
                          clear hvvs
                          have gx0_0 : wc.cell? ⟨u, 0, none⟩ = some (.string (str nm)) := HX.out _ (Below.refl _ _) 0 _ rfl
                          have gy0_0 : wc.cell? ⟨v, 0, none⟩ = some (.string (str nm)) := HY.out _ (Below.refl _ _) 0 _ rfl
                          have gx0_1 : wc.cell? ⟨u, 1, none⟩ = some (.slice s1.pp ps.length s1.cp) := HX.out _ (Below.refl _ _) 1 _ rfl
                          have gy0_1 : wc.cell? ⟨v, 1, none⟩ = some (.slice s2.pp ps'.length s2.cp) := HY.out _ (Below.refl _ _) 1 _ rfl
                          go_wp2_with fail
                          refine (Hps.out _ HB0.out).mono ?_
                          rintro z w1 ⟨rfl, hB'⟩
                          have HB1 := Lib.hid (HB0.out.trans (hB'.mono HB0.out.size))
                          have HD1 := Lib.hid (HD0.out.trans (hB'.mono HD0.out.size))
                          clear hB'
                          have gx1_2 : w1.cell? ⟨u, 2, none⟩ = some (.slice s1.pv vs.length s1.cv) := HX.out _ HD1.out 2 _ rfl
                          have gy1_2 : w1.cell? ⟨v, 2, none⟩ = some (.slice s2.pv vs'.length s2.cv) := HY.out _ HD1.out 2 _ rfl
                          go_wp2_with fail
                          refine (Hvs.out _ HB1.out).mono ?_
                          rintro z w2 ⟨rfl, hB'⟩
                          have HB2 := Lib.hid (HB1.out.trans (hB'.mono HB1.out.size))
                          have HD2 := Lib.hid (HD1.out.trans (hB'.mono HD1.out.size))
                          clear hB'
                          go_wp2_with fail
                          go_ret
                          exact ⟨ret_bool HV.out, HW0.out.trans ((HBr.out.trans (HB2.out.mono HBr.out.size)).mono HW0.out.size)⟩
                        | true =>
                          have Evs := Lib.hid (eqB_of_true hvvs)
                          rw [hvvs] at Hvs
                          clear hvvs
                          cases hvrt : eqB rt rt' with
                          | false =>
                            have Frt := Lib.hid (eqB_of_false hvrt)
                            have HV := Lib.hid (eqB_false (show ¬ Prg.mk rg xs = Prg.mk rg' ys from fun h => NE.out (by injection h) fun h => Frt.out (by injection h)))
                            rw [hvrt] at Hrt
                            clear hvrt
                            have gx0_0 : wc.cell? ⟨u, 0, none⟩ = some (.string (str nm)) := HX.out _ (Below.refl _ _) 0 _ rfl
                            have gy0_0 : wc.cell? ⟨v, 0, none⟩ = some (.string (str nm)) := HY.out _ (Below.refl _ _) 0 _ rfl
                            have gx0_1 : wc.cell? ⟨u, 1, none⟩ = some (.slice s1.pp ps.length s1.cp) := HX.out _ (Below.refl _ _) 1 _ rfl
                            have gy0_1 : wc.cell? ⟨v, 1, none⟩ = some (.slice s2.pp ps'.length s2.cp) := HY.out _ (Below.refl _ _) 1 _ rfl
                            go_wp2_with fail
                            refine (Hps.out _ HB0.out).mono ?_
                            rintro z w1 ⟨rfl, hB'⟩
                            have HB1 := Lib.hid (HB0.out.trans (hB'.mono HB0.out.size))
                            have HD1 := Lib.hid (HD0.out.trans (hB'.mono HD0.out.size))
                            clear hB'
                            have gx1_2 : w1.cell? ⟨u, 2, none⟩ = some (.slice s1.pv vs.length s1.cv) := HX.out _ HD1.out 2 _ rfl
                            have gy1_2 : w1.cell? ⟨v, 2, none⟩ = some (.slice s2.pv vs'.length s2.cv) := HY.out _ HD1.out 2 _ rfl
                            go_wp2_with fail
                            refine (Hvs.out _ HB1.out).mono ?_
                            rintro z w2 ⟨rfl, hB'⟩
                            have HB2 := Lib.hid (HB1.out.trans (hB'.mono HB1.out.size))
                            have HD2 := Lib.hid (HD1.out.trans (hB'.mono HD1.out.size))
                            clear hB'
                            have gx2_3 : w2.cell? ⟨u, 3, none⟩ = some (.slice s1.pr rt.length s1.cr) := HX.out _ HD2.out 3 _ rfl
                            have gy2_3 : w2.cell? ⟨v, 3, none⟩ = some (.slice s2.pr rt'.length s2.cr) := HY.out _ HD2.out 3 _ rfl
                            go_wp2_with fail
                            refine (Hrt.out _ HB2.out).mono ?_
                            rintro z w3 ⟨rfl, hB'⟩
                            have HB3 := Lib.hid (HB2.out.trans (hB'.mono HB2.out.size))
                            have HD3 := Lib.hid (HD2.out.trans (hB'.mono HD2.out.size))
                            clear hB'
                            go_wp2_with fail
                            go_ret
                            exact ⟨ret_bool HV.out, HW0.out.trans ((HBr.out.trans (HB3.out.mono HBr.out.size)).mono HW0.out.size)⟩
                          | true =>
                            have Ert := Lib.hid (eqB_of_true hvrt)
                            rw [hvrt] at Hrt
                            clear hvrt
                            cases hvbd : eqB bd bd' with
                            | false =>
                              have Fbd := Lib.hid (eqB_of_false hvbd)
                              have HV := Lib.hid (eqB_false (show ¬ Prg.mk rg xs = Prg.mk rg' ys from fun h => NE.out (by injection h) fun h => Fbd.out (by injection h)))
                              rw [hvbd] at Hbd
                              clear hvbd
                              have gx0_0 : wc.cell? ⟨u, 0, none⟩ = some (.string (str nm)) := HX.out _ (Below.refl _ _) 0 _ rfl
                              have gy0_0 : wc.cell? ⟨v, 0, none⟩ = some (.string (str nm)) := HY.out _ (Below.refl _ _) 0 _ rfl
                              have gx0_1 : wc.cell? ⟨u, 1, none⟩ = some (.slice s1.pp ps.length s1.cp) := HX.out _ (Below.refl _ _) 1 _ rfl
                              have gy0_1 : wc.cell? ⟨v, 1, none⟩ = some (.slice s2.pp ps'.length s2.cp) := HY.out _ (Below.refl _ _) 1 _ rfl
                              go_wp2_with fail
                              refine (Hps.out _ HB0.out).mono ?_
                              rintro z w1 ⟨rfl, hB'⟩
                              have HB1 := Lib.hid (HB0.out.trans (hB'.mono HB0.out.size))
                              have HD1 := Lib.hid (HD0.out.trans (hB'.mono HD0.out.size))
                              clear hB'
                              have gx1_2 : w1.cell? ⟨u, 2, none⟩ = some (.slice s1.pv vs.length s1.cv) := HX.out _ HD1.out 2 _ rfl
                              have gy1_2 : w1.cell? ⟨v, 2, none⟩ = some (.slice s2.pv vs'.length s2.cv) := HY.out _ HD1.out 2 _ rfl
                              go_wp2_with fail
                              refine (Hvs.out _ HB1.out).mono ?_
                              rintro z w2 ⟨rfl, hB'⟩
                              have HB2 := Lib.hid (HB1.out.trans (hB'.mono HB1.out.size))
                              have HD2 := Lib.hid (HD1.out.trans (hB'.mono HD1.out.size))
                              clear hB'
                              have gx2_3 : w2.cell? ⟨u, 3, none⟩ = some (.slice s1.pr rt.length s1.cr) := HX.out _ HD2.out 3 _ rfl
                              have gy2_3 : w2.cell? ⟨v, 3, none⟩ = some (.slice s2.pr rt'.length s2.cr) := HY.out _ HD2.out 3 _ rfl
                              go_wp2_with fail
                              refine (Hrt.out _ HB2.out).mono ?_
                              rintro z w3 ⟨rfl, hB'⟩
                              have HB3 := Lib.hid (HB2.out.trans (hB'.mono HB2.out.size))
                              have HD3 := Lib.hid (HD2.out.trans (hB'.mono HD2.out.size))
                              clear hB'
                              have gx3_4 : w3.cell? ⟨u, 4, none⟩ = some (.slice s1.pb bd.len s1.cb) := HX.out _ HD3.out 4 _ rfl
                              have gy3_4 : w3.cell? ⟨v, 4, none⟩ = some (.slice s2.pb bd'.len s2.cb) := HY.out _ HD3.out 4 _ rfl
                              go_wp2_with fail
                              refine (Hbd.out _ HB3.out).mono ?_
                              rintro z w4 ⟨rfl, hB'⟩
                              have HB4 := Lib.hid (HB3.out.trans (hB'.mono HB3.out.size))
                              have HD4 := Lib.hid (HD3.out.trans (hB'.mono HD3.out.size))
                              clear hB'
                              go_wp2_with fail
                              go_ret
                              exact ⟨ret_bool HV.out, HW0.out.trans ((HBr.out.trans (HB4.out.mono HBr.out.size)).mono HW0.out.size)⟩
                            | true =>
                              have Ebd := Lib.hid (eqB_of_true hvbd)
                              rw [hvbd] at Hbd
                              clear hvbd
                              have HV := Lib.hid (show Fnc.mk nm ps' vs' rt' bd' = Fnc.mk nm ps vs rt bd by rw [Eps.out, Evs.out, Ert.out, Ebd.out])
                              have gx0_0 : wc.cell? ⟨u, 0, none⟩ = some (.string (str nm)) := HX.out _ (Below.refl _ _) 0 _ rfl
                              have gy0_0 : wc.cell? ⟨v, 0, none⟩ = some (.string (str nm)) := HY.out _ (Below.refl _ _) 0 _ rfl
                              have gx0_1 : wc.cell? ⟨u, 1, none⟩ = some (.slice s1.pp ps.length s1.cp) := HX.out _ (Below.refl _ _) 1 _ rfl
                              have gy0_1 : wc.cell? ⟨v, 1, none⟩ = some (.slice s2.pp ps'.length s2.cp) := HY.out _ (Below.refl _ _) 1 _ rfl
                              go_wp2_with fail
                              refine (Hps.out _ HB0.out).mono ?_
                              rintro z w1 ⟨rfl, hB'⟩
                              have HB1 := Lib.hid (HB0.out.trans (hB'.mono HB0.out.size))
                              have HD1 := Lib.hid (HD0.out.trans (hB'.mono HD0.out.size))
                              clear hB'
                              have gx1_2 : w1.cell? ⟨u, 2, none⟩ = some (.slice s1.pv vs.length s1.cv) := HX.out _ HD1.out 2 _ rfl
                              have gy1_2 : w1.cell? ⟨v, 2, none⟩ = some (.slice s2.pv vs'.length s2.cv) := HY.out _ HD1.out 2 _ rfl
                              go_wp2_with fail
                              refine (Hvs.out _ HB1.out).mono ?_
                              rintro z w2 ⟨rfl, hB'⟩
                              have HB2 := Lib.hid (HB1.out.trans (hB'.mono HB1.out.size))
                              have HD2 := Lib.hid (HD1.out.trans (hB'.mono HD1.out.size))
                              clear hB'
                              have gx2_3 : w2.cell? ⟨u, 3, none⟩ = some (.slice s1.pr rt.length s1.cr) := HX.out _ HD2.out 3 _ rfl
                              have gy2_3 : w2.cell? ⟨v, 3, none⟩ = some (.slice s2.pr rt'.length s2.cr) := HY.out _ HD2.out 3 _ rfl
                              go_wp2_with fail
                              refine (Hrt.out _ HB2.out).mono ?_
                              rintro z w3 ⟨rfl, hB'⟩
                              have HB3 := Lib.hid (HB2.out.trans (hB'.mono HB2.out.size))
                              have HD3 := Lib.hid (HD2.out.trans (hB'.mono HD2.out.size))
                              clear hB'
                              have gx3_4 : w3.cell? ⟨u, 4, none⟩ = some (.slice s1.pb bd.len s1.cb) := HX.out _ HD3.out 4 _ rfl
                              have gy3_4 : w3.cell? ⟨v, 4, none⟩ = some (.slice s2.pb bd'.len s2.cb) := HY.out _ HD3.out 4 _ rfl
                              go_wp2_with fail
                              refine (Hbd.out _ HB3.out).mono ?_
                              rintro z w4 ⟨rfl, hB'⟩
                              have HB4 := Lib.hid (HB3.out.trans (hB'.mono HB3.out.size))
                              have HD4 := Lib.hid (HD3.out.trans (hB'.mono HD3.out.size))
                              clear hB'
                              go_wp2_with fail
                              have HBE := Lib.hid (HBr.out.trans (HB4.out.mono HBr.out.size))
                              go_roundw
                              case rel => exact ⟨ds ++ [Fnc.mk nm ps vs rt bd], rs, rs', by rw [List.length_append]; go_num, Lib.hid (by rw [E1.out]; simp), Lib.hid (by rw [E2.out, HV.out]; simp), by simp; omega, by omega, HBE⟩
                              case measure => simp [intOf]; omega
                    · have Fnm := Lib.hid hvnm
                      have HV := Lib.hid (eqB_false (show ¬ Prg.mk rg xs = Prg.mk rg' ys from fun h => NE.out (by injection h) fun h => Fnm.out (by injection h)))
                      have Tnm := str_beq_ne hvnm
                      clear hvnm
                      have gx0_0 : wc.cell? ⟨u, 0, none⟩ = some (.string (str nm)) := HX.out _ (Below.refl _ _) 0 _ rfl
                      have gy0_0 : wc.cell? ⟨v, 0, none⟩ = some (.string (str nm')) := HY.out _ (Below.refl _ _) 0 _ rfl
                      go_wp2_with fail
                      go_ret
                      exact ⟨ret_bool HV.out, HW0.out.trans ((HBr.out.trans (HB0.out.mono HBr.out.size)).mono HW0.out.size)⟩
        | cons y1 rs =>
          cases rs' with
          | nil => simp at hd2
          | cons y2 rs' =>
            have cy0 : wr.cell? ⟨w.heap.size + 1, 0, none⟩ = some (.slice p' rg'.length c') := HY0.out _ hB.out 0 _ rfl
            simp only [List.length_cons] at hd1 hd2
            have hlt1 : ds.length < rg.length := by omega
            have hlt2 : ds.length < rg'.length := by have := HL1.out; omega
            rcases R1.out.2 with h30 | ⟨b1, o1, rfl, hb1, ha1⟩
            · omega
            rcases R2.out.2 with h30 | ⟨b2, o2, rfl, hb2, ha2⟩
            · omega
            rw [E1.out] at ha1
            rw [E2.out] at ha2
            have HBww := HW0.out.trans (hB.out.mono HW0.out.size)
            have u1 := Rgn.At.later (HBww.mono HXN.out) y1 b1 _ hb1 (Row.drop _ _ _ ha1).1
            have u2 := Rgn.At.later (HBww.mono HXN.out) y2 b2 _ hb2 (Row.drop _ _ _ ha2).1
            obtain ⟨u10, u11, u12, u13⟩ := u1
            obtain ⟨u20, u21, u22, u23⟩ := u2
            have HD := Lib.hid hB.out.drew
            clear ha1 ha2 HBww
            by_cases hy : y1 = y2
            · subst hy
              have e1 := neq_rgn_eq y1
              go_wp2_with fail
              go_region
              all_goals
                go_wp2_with fail
                go_roundw
                case rel => exact ⟨ds ++ [y1], rs, rs', by rw [List.length_append]; go_num, Lib.hid (by rw [E1.out]; simp), Lib.hid (by rw [E2.out]; simp), by simp; omega, by omega, HD⟩
                case measure => simp [intOf]; omega
            · have e1 := neq_rgn_ne hy
              have EQ := Lib.hid (eqB_false (show ¬ Prg.mk rg xs = Prg.mk rg' ys by
                intro e
                injection e with e _
                rw [E1.out, E2.out] at e
                have := List.append_cancel_left e
                injection this with e6 _
                exact hy e6))
              clear hy
              go_wp2_with fail
              go_region
              all_goals
                go_wp2_with fail
                go_ret
                exact ⟨ret_bool EQ.out, HW0.out.trans (HD.out.mono HW0.out.size)⟩
    · have HV := Lib.hid (eqB_false (show ¬ Prg.mk rg xs = Prg.mk rg' ys from fun h => hl2 (by injection h with _ h; rw [h])))
      have e1 : ((rg.length : Int) != (rg'.length : Int)) = false := by simp [hl1]
      have e2 : ((xs.length : Int) != (ys.length : Int)) = true := by simp; omega
      rw [← hw0] at HW0
      clear hl1 hl2 HX0 HY0 hw2 hw0
      go_enter Tryz.func22, Tryz.ntmps22
      go_wp2_with fail
      go_ret
      exact ⟨ret_bool HV.out, HW0.out⟩
  · have HV := Lib.hid (eqB_false (show ¬ Prg.mk rg xs = Prg.mk rg' ys from fun h => hl1 (by injection h with h _; rw [h])))
    have e1 : ((rg.length : Int) != (rg'.length : Int)) = true := by simp; omega
    rw [← hw0] at HW0
    clear hl1 HX0 HY0 hw2 hw0
    go_enter Tryz.func22, Tryz.ntmps22
    go_wp2_with fail
    go_ret
    exact ⟨ret_bool HV.out, HW0.out⟩
end Go.Proofs.YtlhbledakddbbaaGreatDoor
