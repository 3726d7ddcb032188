/- The law MemMay, walked. -/
import Derived.Test.YtigkjmjkpjjjkaaC1
import Derived.Test.YtigkjmjkpjjjkaaC5
import Derived.Test.YtigkjmjkpjjjkaaC6
import Derived.Test.YtigkjmjkpjjjkaaC7
import Derived.Test.YtigkjmjkpjjjkaaLM
namespace Go.Proofs.Ytigkjmjkpjjjkaa
open Go.RowKit

/-- what holds throughout the law's last row -/
structure SMay (w : World) (l : List Rg) (p : Option Addr) (c B g B2 g2 q2 : Nat) (W : World) : Prop where
  mem : MemIs W B g l (fun _ => 0)
  ref : RefIs W B2 g2 l (fun _ => 0)
  lt : q2 < W.heap.size
  lt2 : g2 < W.heap.size
  hdr : W.cell? ⟨g2, 1, none⟩ = some (.slice (some ⟨q2, 0, none⟩) 65536 65536)
  byt : ∀ j, j < 65536 → W.cell? ⟨q2, j, none⟩ = some (.int .u8 ((0 : Nat) : Int))
  giv : GivenM W l p c
  bel : Below w.heap.size w W
theorem SMay.later {w : World} {l : List Rg} {p : Option Addr} {c B g B2 g2 q2 : Nat} {W W' : World} (h : SMay w l p c B g B2 g2 q2 W) (hB : Below W.heap.size W W') : SMay w l p c B g B2 g2 q2 W' :=
  ⟨h.mem.later hB, h.ref.later hB, Nat.lt_of_lt_of_le h.lt hB.size, Nat.lt_of_lt_of_le h.lt2 hB.size, (hB.cell (p := ⟨g2, 1, none⟩) h.lt2).trans h.hdr, fun j hj => (hB.cell (p := ⟨q2, j, none⟩) h.lt).trans (h.byt j hj), h.giv.later hB, h.bel.trans (hB.mono h.bel.size)⟩
theorem SMay.drew {w : World} {l : List Rg} {p : Option Addr} {c B g B2 g2 q2 : Nat} {W : World} (h : SMay w l p c B g B2 g2 q2 W) : SMay w l p c B g B2 g2 q2 W.drew := h.later (Below.refl _ _).drew

theorem rel_0 : RelWB (fun _ => 0) (fun _ => 0) := fun a _ => by simp [byteOf]
theorem words_0 {l : List Rg} (hok : l.all Rg.ok = true) : l.map (wordsB (fun _ => 0)) = wordsL (fun _ => 0) l :=
  List.map_congr_left fun r hr => wordsB_eq rel_0 (fun _ => by simp) (fun _ => by simp) (List.all_eq_true.1 hok r hr)
theorem wordsL_small {f : Nat → Nat} {l : List Rg} (hok : l.all Rg.ok = true) : ∀ xs ∈ wordsL f l, xs.length ≤ 1000000 := by
  intro xs hx
  obtain ⟨r, hr, rfl⟩ := List.mem_map.1 hx
  obtain ⟨h, _⟩ := Rg.ok_iff.1 (List.all_eq_true.1 hok r hr)
  rw [wordsR_len]; omega
theorem st_0 {W : World} {go : Nat} (h : StIs W go 16384 (fun _ => 0)) : (convert 38 9 (.slice (some ⟨go, 0, none⟩) 16384 16384)).run Try.prog W = .ok (.string (strOf (fun _ => 0) 49152 16384)) W :=
  conv_str (fun _ => 0) (fun _ => by simp) 49152 16384 go 0 16384 W fun j hj => by
    obtain ⟨u, hu, _, hr⟩ := h j hj
    rw [Nat.zero_add, hu, hr hj]; simp [byteOf]
theorem rf_0 {w : World} {l : List Rg} {p : Option Addr} {c B g B2 g2 q2 : Nat} {W : World} (h : SMay w l p c B g B2 g2 q2 W) : (convert 38 9 (.slice (some ⟨q2, 49152, none⟩) 16384 16384)).run Try.prog W = .ok (.string (strOf (fun _ => 0) 49152 16384)) W :=
  conv_str (fun _ => 0) (fun _ => by simp) 49152 16384 q2 49152 16384 W fun j hj => h.byt (49152 + j) (by omega)

set_option maxRecDepth 100000 in
set_option maxHeartbeats 6400000 in
theorem may_long (l : List Rg) (p : Option Addr) (c : Nat) (w : World) (h : GivenM w l p c) (hl : longB l = true) :
    Calls Try.prog 3 #[.slice p l.length c] w fun e w' => e = .returned (.bool true) ∧ Below w.heap.size w w' := by
  have HG := Lib.hid h
  clear h
  have HL := Lib.hid (by have := long_any l p c _ w HG.out.rg; rw [hl] at this; exact this : Calls Try.prog 11 #[.slice p l.length c] w fun e w'' => e = .returned (.bool true) ∧ w = w'')
  clear hl
  go_enter Try.func3, Try.ntmps3
  go_wp2_with fail
  refine HL.out.mono ?_
  rintro e w1 ⟨rfl, rfl⟩
  go_wp2_with fail
  refine (known_any _).mono ?_
  rintro e w3 ⟨rfl, hB⟩
  have HB := Lib.hid hB
  clear hB
  go_wp2_with fail
  go_ret
  exact ⟨rfl, HB.out⟩
set_option maxRecDepth 100000 in
set_option maxHeartbeats 6400000 in
theorem may_bad (l : List Rg) (p : Option Addr) (c : Nat) (w : World) (h : GivenM w l p c) (hl : longB l = false) (hm : mayB l = false) :
    Calls Try.prog 3 #[.slice p l.length c] w fun e w' => e = .returned (.bool true) ∧ Below w.heap.size w w' := by
  have HG := Lib.hid h
  clear h
  have HL := Lib.hid (by have := long_any l p c _ w HG.out.rg; rw [hl] at this; exact this : Calls Try.prog 11 #[.slice p l.length c] w fun e w'' => e = .returned (.bool false) ∧ w = w'')
  have HM : Hid (∀ w', Below w.heap.size w w' → Calls Try.prog 15 #[.slice p l.length c] w' fun e w'' => e = .returned (.bool false) ∧ Below w'.heap.size w' w'') := Lib.hid fun w' hB => by
    have := refMay_any l p c _ w' (HG.out.later hB).rg (Nat.le_refl _); rw [hm] at this; exact this
  have HMm : Hid (∀ w', Below w.heap.size w w' → Calls Try.prog 14 #[.slice p l.length c] w' fun e w'' => e = .returned (.bool false) ∧ Below w'.heap.size w' w'') := Lib.hid fun w' hB => by
    have := may_any l p c _ w' (HG.out.later hB).rg (Nat.le_refl _) HG.out.le HG.out.cap; rw [hm] at this; exact this
  have HN := Lib.hid ((new_any l p c _ w HG.out.rg (Nat.le_refl _) HG.out.le HG.out.cap HG.out.nil).mono (R' := fun e w'' => e = .returned (.tuple #[.pointer none, .int .i64 2]) ∧ Below w.heap.size w w'') fun e w'' h => ⟨h.1.1 hm, h.2⟩)
  clear hl hm
  go_enter Try.func3, Try.ntmps3
  go_wp2_with fail
  refine HL.out.mono ?_
  rintro e w1 ⟨rfl, rfl⟩
  go_wp2_with fail
  refine HN.out.mono ?_
  rintro e w2 ⟨rfl, hB⟩
  have HB2 := Lib.hid hB
  clear hB
  go_wp2_with fail
  refine (HMm.out _ HB2.out).mono ?_
  rintro e w3 ⟨rfl, hB⟩
  have HB3 := Lib.hid (HB2.out.trans (hB.mono HB2.out.size))
  clear hB
  go_wp2_with fail
  refine (HM.out _ HB3.out).mono ?_
  rintro e w4 ⟨rfl, hB⟩
  have HB4 := Lib.hid (HB3.out.trans (hB.mono HB3.out.size))
  clear hB
  go_wp2_with fail
  refine (HM.out _ HB4.out).mono ?_
  rintro e w5 ⟨rfl, hB⟩
  have HB5 := Lib.hid (HB4.out.trans (hB.mono HB4.out.size))
  clear hB
  go_wp2_with fail
  refine (num_any 2 _).mono ?_
  rintro e w' ⟨rfl, rfl⟩
  go_wp2_with fail
  refine (known_any _).mono ?_
  rintro e w6 ⟨rfl, hB⟩
  have HB6 := Lib.hid (HB5.out.trans (hB.mono HB5.out.size))
  clear hB
  go_wp2_with fail
  go_ret
  exact ⟨rfl, HB6.out⟩
set_option maxRecDepth 100000 in
set_option maxHeartbeats 6400000 in
theorem may_yes (l : List Rg) (p : Option Addr) (c : Nat) (w : World) (h : GivenM w l p c) (hl : longB l = false) (hm : mayB l = true) :
    Calls Try.prog 3 #[.slice p l.length c] w fun e w' => e = .returned (.bool true) ∧ Below w.heap.size w w' := by
  have HG := Lib.hid h
  clear h
  have HL := Lib.hid (by have := long_any l p c _ w HG.out.rg; rw [hl] at this; exact this : Calls Try.prog 11 #[.slice p l.length c] w fun e w'' => e = .returned (.bool false) ∧ w = w'')
  have HM : Hid (∀ w', Below w.heap.size w w' → Calls Try.prog 15 #[.slice p l.length c] w' fun e w'' => e = .returned (.bool true) ∧ Below w'.heap.size w' w'') := Lib.hid fun w' hB => by
    have := refMay_any l p c _ w' (HG.out.later hB).rg (Nat.le_refl _); rw [hm] at this; exact this
  have HMm : Hid (∀ w', Below w.heap.size w w' → Calls Try.prog 14 #[.slice p l.length c] w' fun e w'' => e = .returned (.bool true) ∧ Below w'.heap.size w' w'') := Lib.hid fun w' hB => by
    have := may_any l p c _ w' (HG.out.later hB).rg (Nat.le_refl _) HG.out.le HG.out.cap; rw [hm] at this; exact this
  have hok := Lib.hid (ok_of hm)
  have hl16 : l.length ≤ 16 := by simp [mayB] at hm; exact hm.1
  have HN := Lib.hid ((new_any l p c _ w HG.out.rg (Nat.le_refl _) HG.out.le HG.out.cap HG.out.nil).mono (R' := fun e w'' => (∃ g, e = .returned (.tuple #[.pointer (some ⟨g, 0, none⟩), .int .i64 0]) ∧ MemIs w'' w.heap.size g l (fun _ => 0)) ∧ Below w.heap.size w w'') fun e w'' h => ⟨h.1.2 hm, h.2⟩)
  have HR : Hid (∀ w', Below w.heap.size w w' → Calls Try.prog 17 #[.slice p l.length c] w' fun e w'' => (∃ g, e = .returned (.pointer (some ⟨g, 0, none⟩)) ∧ RefIs w'' w'.heap.size g l (fun _ => 0)) ∧ Below w'.heap.size w' w'') := Lib.hid fun w' hB =>
    refNew_all l p c _ w' (HG.out.later hB).rg (Nat.le_refl _) (by omega) HG.out.nil
  obtain ⟨s0, hs0'⟩ : ∃ s, strOf (fun _ => 0) 49152 16384 = s := ⟨_, rfl⟩
  have hs0 := Lib.hid hs0'
  clear hl hm hs0'
  go_enter Try.func3, Try.ntmps3
  go_wp2_with fail
  refine HL.out.mono ?_
  rintro e w1 ⟨rfl, rfl⟩
  go_wp2_with fail
  refine HN.out.mono ?_
  rintro e w2 ⟨⟨g, rfl, hM⟩, hB⟩
  have HB2 := Lib.hid hB
  have HM2 := Lib.hid hM
  clear hB hM
  go_wp2_with fail
  refine (HMm.out _ HB2.out).mono ?_
  rintro e w3 ⟨rfl, hB⟩
  have HB3 := Lib.hid (HB2.out.trans (hB.mono HB2.out.size))
  have HM3 := Lib.hid (HM2.out.later hB)
  clear hB
  go_wp2_with fail
  refine (HM.out _ HB3.out).mono ?_
  rintro e w4 ⟨rfl, hB⟩
  have HB4 := Lib.hid (HB3.out.trans (hB.mono HB3.out.size))
  have HM4 := Lib.hid (HM3.out.later hB)
  clear hB
  go_wp2_with fail
  refine (HM.out _ HB4.out).mono ?_
  rintro e w5 ⟨rfl, hB⟩
  have HB5 := Lib.hid (HB4.out.trans (hB.mono HB4.out.size))
  have HM5 := Lib.hid (HM4.out.later hB)
  clear hB
  go_wp2_with fail
  refine (HR.out _ HB5.out).mono ?_
  rintro e w6 ⟨⟨g2, rfl, hR⟩, hB⟩
  have HB6 := Lib.hid (HB5.out.trans (hB.mono HB5.out.size))
  have HM6 := Lib.hid (HM5.out.later hB)
  have HR6 := Lib.hid hR
  clear hR
  clear hB
  go_wp2_with fail
  generalize w5.heap.size = B5 at HR6
  generalize hB3 : w.heap.size = B3 at HM6
  obtain ⟨p2, c2, q2, k1, k2, k4, k5, k6, k7, k8, k9, k10, k11, k12, k13⟩ := HR6.out
  have HS : Hid (SMay w l p c B3 g B5 g2 q2 w6) := Lib.hid ⟨HM6.out, HR6.out, by omega, k7, k2, fun j hj => (k12 j hj).1, HG.out.later HB6.out, HB6.out⟩
  clear k1 k2 k4 k5 k6 k7 k8 k9 k10 k11 k12 k13 hB3
  refine wp_region_held_drew (S := (fun W => SMay w l p c B3 g B5 g2 q2 W)) (by kernel_rfl) ?_ (fun hHeld => ?_)
  · exact HS.out.drew
  refine wpAnyH_take (i := 0) (oi := { dst := Option.some 34, op := Go.Op.move (Go.Operand.tmp 4), type := 26, pos := "law.go:53", after := #[], guard := Option.none }) (v := ?_) rfl (by kernel_rfl) (by kernel_rfl) (by kernel_rfl) (fun _ _ _ h => h) (Or.inl ⟨by rfl, ?_⟩) (by assumption) ?_
  rotate_left
  · (intro w hSw; (try dsimp only at hSw); go_simp; try with_reducible rfl)
  try simp only [Act.put, List.setIfInBounds_toArray, List.set_cons_zero, List.set_cons_succ]
  refine wpAnyH_ready (rs := [1]) (by kernel_rfl) (by simp) ?_
  refine AllReadyH.cons (o := { dst := Option.some 35, op := Go.Op.call { callee := Go.Callee.value (Go.Operand.func 16), args := #[Go.Operand.tmp 34], argTypes := #[26] }, type := 3, pos := "law.go:53", after := #[{ on := 0, ground := Go.Ground.data }], guard := Option.none }) rfl (fun K hK => ?_) AllReadyH.nil
  go_simp
  refine (num_any 0 _).mono ?_
  rintro e W1 ⟨rfl, rfl⟩
  refine hK.out _ _ ?_ (fun hHeld => ?_)
  · (try dsimp only); exact hHeld
  clear hK K
  try simp only [Act.put, List.setIfInBounds_toArray, List.set_cons_zero, List.set_cons_succ]
  refine wpAnyH_take (i := 2) (oi := { dst := Option.some 36, op := Go.Op.binOp Go.BinOp.eql 3 (Go.Operand.tmp 35) (Go.Operand.const (Go.Value.int Go.IntKind.i64 0)) 3, type := 4, pos := "law.go:53", after := #[{ on := 1, ground := Go.Ground.data }], guard := Option.none }) (v := ?_) rfl (by kernel_rfl) (by kernel_rfl) (by kernel_rfl) (fun _ _ _ h => h) (Or.inl ⟨by rfl, ?_⟩) (by assumption) ?_
  rotate_left
  · (intro w hSw; (try dsimp only at hSw); go_simp; try with_reducible rfl)
  try simp only [Act.put, List.setIfInBounds_toArray, List.set_cons_zero, List.set_cons_succ]
  refine wpAnyH_take (i := 3) (oi := { dst := Option.some 37, op := Go.Op.move (Go.Operand.tmp 36), type := 4, pos := "law.go:53", after := #[{ on := 2, ground := Go.Ground.data }, { on := 1, ground := Go.Ground.chain }], guard := Option.none }) (v := ?_) rfl (by kernel_rfl) (by kernel_rfl) (by kernel_rfl) (fun _ _ _ h => h) (Or.inl ⟨by rfl, ?_⟩) (by assumption) ?_
  rotate_left
  · (intro w hSw; (try dsimp only at hSw); go_simp; try with_reducible rfl)
  try simp only [Act.put, List.setIfInBounds_toArray, List.set_cons_zero, List.set_cons_succ]
  refine wpAnyH_take (i := 4) (oi := { dst := Option.some 38, op := Go.Op.move (Go.Operand.tmp 3), type := 25, pos := "law.go:53", after := #[{ on := 3, ground := Go.Ground.guard }], guard := Option.some (3, Bool.true) }) (v := ?_) rfl (by kernel_rfl) (by kernel_rfl) (by kernel_rfl) (fun _ _ _ h => h) (Or.inl ⟨by rfl, ?_⟩) (by assumption) ?_
  rotate_left
  · (intro w hSw; (try dsimp only at hSw); go_simp; try with_reducible rfl)
  try simp only [Act.put, List.setIfInBounds_toArray, List.set_cons_zero, List.set_cons_succ]
  refine wpAnyH_take (i := 6) (oi := { dst := Option.some 40, op := Go.Op.move (Go.Operand.tmp 0), type := 22, pos := "law.go:53", after := #[{ on := 3, ground := Go.Ground.guard }], guard := Option.some (3, Bool.true) }) (v := ?_) rfl (by kernel_rfl) (by kernel_rfl) (by kernel_rfl) (fun _ _ _ h => h) (Or.inl ⟨by rfl, ?_⟩) (by assumption) ?_
  rotate_left
  · (intro w hSw; (try dsimp only at hSw); go_simp; try with_reducible rfl)
  try simp only [Act.put, List.setIfInBounds_toArray, List.set_cons_zero, List.set_cons_succ]
  refine wpAnyH_ready (rs := [5]) (by kernel_rfl) (by simp) ?_
  refine AllReadyH.cons (o := { dst := Option.some 39, op := Go.Op.call { callee := Go.Callee.value (Go.Operand.func 19), args := #[Go.Operand.tmp 38], argTypes := #[25] }, type := 22, pos := "law.go:53", after := #[{ on := 4, ground := Go.Ground.data }, { on := 3, ground := Go.Ground.chain }, { on := 3, ground := Go.Ground.guard }], guard := Option.some (3, Bool.true) }) rfl (fun K hK => ?_) AllReadyH.nil
  go_simp
  refine (layout_any l _ B3 g _ hHeld.mem (by omega)).mono ?_
  rintro e W5 ⟨⟨v1, rfl, hv1⟩, hB⟩
  obtain ⟨q1, d1, rfl, hin1, _⟩ := hv1
  refine hK.out _ _ ?_ (fun hHeld => ?_)
  · (try dsimp only); exact SMay.later hHeld hB
  clear hK K
  try simp only [Act.put, List.setIfInBounds_toArray, List.set_cons_zero, List.set_cons_succ]
  refine wpAnyH_ready (rs := [7]) (by kernel_rfl) (by simp) ?_
  refine AllReadyH.cons (o := { dst := Option.some 41, op := Go.Op.call { callee := Go.Callee.value (Go.Operand.func 18), args := #[Go.Operand.tmp 39, Go.Operand.tmp 40], argTypes := #[22, 22] }, type := 4, pos := "law.go:53", after := #[{ on := 5, ground := Go.Ground.data }, { on := 6, ground := Go.Ground.data }, { on := 5, ground := Go.Ground.chain }, { on := 3, ground := Go.Ground.guard }], guard := Option.some (3, Bool.true) }) rfl (fun K hK => ?_) AllReadyH.nil
  go_simp
  refine (sameRg_eq l q1 p d1 c _ _ hin1 hHeld.giv.rg).mono ?_
  rintro e W7 ⟨rfl, hB⟩
  refine hK.out _ _ ?_ (fun hHeld => ?_)
  · (try dsimp only); exact SMay.later hHeld hB
  clear hK K
  try simp only [Act.put, List.setIfInBounds_toArray, List.set_cons_zero, List.set_cons_succ]
  refine wpAnyH_take (i := 8) (oi := { dst := Option.some 42, op := Go.Op.pick (Go.Operand.tmp 37) (Go.Operand.tmp 41) (Go.Operand.const (Go.Value.bool Bool.false)), type := 4, pos := "law.go:53", after := #[{ on := 3, ground := Go.Ground.data }, { on := 7, ground := Go.Ground.data }], guard := Option.none }) (v := ?_) rfl (by kernel_rfl) (by kernel_rfl) (by kernel_rfl) (fun _ _ _ h => h) (Or.inl ⟨by rfl, ?_⟩) (by assumption) ?_
  rotate_left
  · (intro w hSw; (try dsimp only at hSw); go_simp; try with_reducible rfl)
  try simp only [Act.put, List.setIfInBounds_toArray, List.set_cons_zero, List.set_cons_succ]
  refine wpAnyH_take (i := 9) (oi := { dst := Option.some 43, op := Go.Op.move (Go.Operand.tmp 42), type := 4, pos := "law.go:53", after := #[{ on := 8, ground := Go.Ground.data }, { on := 7, ground := Go.Ground.chain }], guard := Option.none }) (v := ?_) rfl (by kernel_rfl) (by kernel_rfl) (by kernel_rfl) (fun _ _ _ h => h) (Or.inl ⟨by rfl, ?_⟩) (by assumption) ?_
  rotate_left
  · (intro w hSw; (try dsimp only at hSw); go_simp; try with_reducible rfl)
  try simp only [Act.put, List.setIfInBounds_toArray, List.set_cons_zero, List.set_cons_succ]
  refine wpAnyH_take (i := 10) (oi := { dst := Option.some 44, op := Go.Op.move (Go.Operand.tmp 3), type := 25, pos := "law.go:53", after := #[{ on := 9, ground := Go.Ground.guard }], guard := Option.some (9, Bool.true) }) (v := ?_) rfl (by kernel_rfl) (by kernel_rfl) (by kernel_rfl) (fun _ _ _ h => h) (Or.inl ⟨by rfl, ?_⟩) (by assumption) ?_
  rotate_left
  · (intro w hSw; (try dsimp only at hSw); go_simp; try with_reducible rfl)
  try simp only [Act.put, List.setIfInBounds_toArray, List.set_cons_zero, List.set_cons_succ]
  refine wpAnyH_take (i := 12) (oi := { dst := Option.some 46, op := Go.Op.move (Go.Operand.tmp 5), type := 31, pos := "law.go:53", after := #[{ on := 9, ground := Go.Ground.guard }], guard := Option.some (9, Bool.true) }) (v := ?_) rfl (by kernel_rfl) (by kernel_rfl) (by kernel_rfl) (fun _ _ _ h => h) (Or.inl ⟨by rfl, ?_⟩) (by assumption) ?_
  rotate_left
  · (intro w hSw; (try dsimp only at hSw); go_simp; try with_reducible rfl)
  try simp only [Act.put, List.setIfInBounds_toArray, List.set_cons_zero, List.set_cons_succ]
  refine wpAnyH_ready (rs := [11]) (by kernel_rfl) (by simp) ?_
  refine AllReadyH.cons (o := { dst := Option.some 45, op := Go.Op.call { callee := Go.Callee.value (Go.Operand.func 21), args := #[Go.Operand.tmp 44], argTypes := #[25] }, type := 36, pos := "law.go:53", after := #[{ on := 10, ground := Go.Ground.data }, { on := 9, ground := Go.Ground.chain }, { on := 9, ground := Go.Ground.guard }], guard := Option.some (9, Bool.true) }) rfl (fun K hK => ?_) AllReadyH.nil
  go_simp
  refine (words_any l _ B3 g _ hHeld.mem hok.out hl16).mono ?_
  rintro e W11 ⟨⟨rfl, hO⟩, hgo, hB⟩
  have HRR := Lib.hid (RRows.of (by simp [wordsL]) hO hgo)
  refine hK.out _ _ ?_ (fun hHeld => ?_)
  · (try dsimp only); exact SMay.later hHeld hB
  clear hK K
  try simp only [Act.put, List.setIfInBounds_toArray, List.set_cons_zero, List.set_cons_succ]
  refine wpAnyH_ready (rs := [13]) (by kernel_rfl) (by simp) ?_
  refine AllReadyH.cons (o := { dst := Option.some 47, op := Go.Op.call { callee := Go.Callee.value (Go.Operand.func 22), args := #[Go.Operand.tmp 46], argTypes := #[31] }, type := 36, pos := "law.go:53", after := #[{ on := 12, ground := Go.Ground.data }, { on := 11, ground := Go.Ground.chain }, { on := 9, ground := Go.Ground.guard }], guard := Option.some (9, Bool.true) }) rfl (fun K hK => ?_) AllReadyH.nil
  go_simp
  refine (refWords_any l _ B5 g2 _ hHeld.ref hok.out hl16).mono ?_
  rintro e W13 ⟨⟨v2, rfl, hv2⟩, hB⟩
  rw [words_0 hok.out] at hv2
  have HRR2 := Lib.hid (HRR.out.later hB)
  have HRV := Lib.hid hv2
  clear hv2
  refine hK.out _ _ ?_ (fun hHeld => ?_)
  · (try dsimp only); exact SMay.later hHeld hB
  clear hK K
  try simp only [Act.put, List.setIfInBounds_toArray, List.set_cons_zero, List.set_cons_succ]
  refine wpAnyH_ready (rs := [14]) (by kernel_rfl) (by simp) ?_
  refine AllReadyH.cons (o := { dst := Option.some 48, op := Go.Op.call { callee := Go.Callee.value (Go.Operand.func 20), args := #[Go.Operand.tmp 45, Go.Operand.tmp 47], argTypes := #[36, 36] }, type := 4, pos := "law.go:53", after := #[{ on := 11, ground := Go.Ground.data }, { on := 13, ground := Go.Ground.data }, { on := 13, ground := Go.Ground.chain }, { on := 9, ground := Go.Ground.guard }], guard := Option.some (9, Bool.true) }) rfl (fun K hK => ?_) AllReadyH.nil
  go_simp
  refine (sameWords_eq _ _ v2 _ HRR2.out HRV.out (by simp [wordsL]; omega) (wordsL_small hok.out)).mono ?_
  rintro e W14 ⟨rfl, hB⟩
  refine hK.out _ _ ?_ (fun hHeld => ?_)
  · (try dsimp only); exact SMay.later hHeld hB
  clear hK K
  try simp only [Act.put, List.setIfInBounds_toArray, List.set_cons_zero, List.set_cons_succ]
  refine wpAnyH_take (i := 15) (oi := { dst := Option.some 49, op := Go.Op.pick (Go.Operand.tmp 43) (Go.Operand.tmp 48) (Go.Operand.const (Go.Value.bool Bool.false)), type := 4, pos := "law.go:53", after := #[{ on := 9, ground := Go.Ground.data }, { on := 14, ground := Go.Ground.data }], guard := Option.none }) (v := ?_) rfl (by kernel_rfl) (by kernel_rfl) (by kernel_rfl) (fun _ _ _ h => h) (Or.inl ⟨by rfl, ?_⟩) (by assumption) ?_
  rotate_left
  · (intro w hSw; (try dsimp only at hSw); go_simp; try with_reducible rfl)
  try simp only [Act.put, List.setIfInBounds_toArray, List.set_cons_zero, List.set_cons_succ]
  refine wpAnyH_take (i := 16) (oi := { dst := Option.some 50, op := Go.Op.move (Go.Operand.tmp 49), type := 4, pos := "law.go:53", after := #[{ on := 15, ground := Go.Ground.data }, { on := 14, ground := Go.Ground.chain }], guard := Option.none }) (v := ?_) rfl (by kernel_rfl) (by kernel_rfl) (by kernel_rfl) (fun _ _ _ h => h) (Or.inl ⟨by rfl, ?_⟩) (by assumption) ?_
  rotate_left
  · (intro w hSw; (try dsimp only at hSw); go_simp; try with_reducible rfl)
  try simp only [Act.put, List.setIfInBounds_toArray, List.set_cons_zero, List.set_cons_succ]
  refine wpAnyH_take (i := 17) (oi := { dst := Option.some 51, op := Go.Op.move (Go.Operand.tmp 3), type := 25, pos := "law.go:53", after := #[{ on := 16, ground := Go.Ground.guard }], guard := Option.some (16, Bool.true) }) (v := ?_) rfl (by kernel_rfl) (by kernel_rfl) (by kernel_rfl) (fun _ _ _ h => h) (Or.inl ⟨by rfl, ?_⟩) (by assumption) ?_
  rotate_left
  · (intro w hSw; (try dsimp only at hSw); go_simp; try with_reducible rfl)
  try simp only [Act.put, List.setIfInBounds_toArray, List.set_cons_zero, List.set_cons_succ]
  refine wpAnyH_take (i := 20) (oi := { dst := Option.some 54, op := Go.Op.move (Go.Operand.tmp 5), type := 31, pos := "law.go:53", after := #[{ on := 16, ground := Go.Ground.guard }], guard := Option.some (16, Bool.true) }) (v := ?_) rfl (by kernel_rfl) (by kernel_rfl) (by kernel_rfl) (fun _ _ _ h => h) (Or.inl ⟨by rfl, ?_⟩) (by assumption) ?_
  rotate_left
  · (intro w hSw; (try dsimp only at hSw); go_simp; try with_reducible rfl)
  try simp only [Act.put, List.setIfInBounds_toArray, List.set_cons_zero, List.set_cons_succ]
  refine wpAnyH_take (i := 21) (oi := { dst := Option.some 55, op := Go.Op.nilCheck (Go.Operand.tmp 54), type := 0, pos := "law.go:53", after := #[{ on := 20, ground := Go.Ground.data }, { on := 16, ground := Go.Ground.guard }], guard := Option.some (16, Bool.true) }) (v := ?_) rfl (by kernel_rfl) (by kernel_rfl) (by kernel_rfl) (fun _ _ _ h => h) (Or.inl ⟨by rfl, ?_⟩) (by assumption) ?_
  rotate_left
  · (intro w hSw; (try dsimp only at hSw); go_simp; try with_reducible rfl)
  try simp only [Act.put, List.setIfInBounds_toArray, List.set_cons_zero, List.set_cons_succ]
  refine wpAnyH_take (i := 22) (oi := { dst := Option.some 56, op := Go.Op.fieldAddr 41 (Go.Operand.tmp 55) 1, type := 0, pos := "law.go:53", after := #[{ on := 21, ground := Go.Ground.data }, { on := 16, ground := Go.Ground.guard }], guard := Option.some (16, Bool.true) }) (v := ?_) rfl (by kernel_rfl) (by kernel_rfl) (by kernel_rfl) (fun _ _ _ h => h) (Or.inl ⟨by rfl, ?_⟩) (by assumption) ?_
  rotate_left
  · (intro w hSw; (try dsimp only at hSw); go_simp; try with_reducible rfl)
  try simp only [Act.put, List.setIfInBounds_toArray, List.set_cons_zero, List.set_cons_succ]
  refine wpAnyH_take (i := 23) (oi := { dst := Option.some 57, op := Go.Op.load 38 (Go.Operand.tmp 56), type := 38, pos := "law.go:53", after := #[{ on := 22, ground := Go.Ground.data }, { on := 16, ground := Go.Ground.guard }], guard := Option.some (16, Bool.true) }) (v := ?_) rfl (by kernel_rfl) (by kernel_rfl) (by kernel_rfl) (fun _ _ _ h => h) (Or.inl ⟨by rfl, ?_⟩) (by assumption) ?_
  rotate_left
  · (intro w hSw; (try dsimp only at hSw); have hq := hSw.hdr; go_simp; try with_reducible rfl)
  try simp only [Act.put, List.setIfInBounds_toArray, List.set_cons_zero, List.set_cons_succ]
  refine wpAnyH_take (i := 24) (oi := { dst := Option.some 58, op := Go.Op.slice 38 (Go.Operand.tmp 57) (Option.some (Go.Operand.const (Go.Value.int Go.IntKind.i64 49152))) Option.none Option.none, type := 38, pos := "law.go:53", after := #[{ on := 23, ground := Go.Ground.data }, { on := 16, ground := Go.Ground.guard }], guard := Option.some (16, Bool.true) }) (v := ?_) rfl (by kernel_rfl) (by kernel_rfl) (by kernel_rfl) (fun _ _ _ h => h) (Or.inl ⟨by rfl, ?_⟩) (by assumption) ?_
  rotate_left
  · (intro w hSw; (try dsimp only at hSw); go_simp; try with_reducible rfl)
  try simp only [Act.put, List.setIfInBounds_toArray, List.set_cons_zero, List.set_cons_succ]
  refine wpAnyH_take (i := 25) (oi := { dst := Option.some 59, op := Go.Op.convert 38 9 (Go.Operand.tmp 58), type := 9, pos := "law.go:53", after := #[{ on := 24, ground := Go.Ground.data }, { on := 16, ground := Go.Ground.guard }], guard := Option.some (16, Bool.true) }) (v := ?_) rfl (by kernel_rfl) (by kernel_rfl) (by kernel_rfl) (fun _ _ _ h => h) (Or.inl ⟨by rfl, ?_⟩) (by assumption) ?_
  rotate_left
  · (intro w hSw; (try dsimp only at hSw); have hq := rf_0 hSw; rw [hs0.out] at hq; go_simp; try with_reducible rfl)
  try simp only [Act.put, List.setIfInBounds_toArray, List.set_cons_zero, List.set_cons_succ]
  refine wpAnyH_ready (rs := [18]) (by kernel_rfl) (by simp) ?_
  refine AllReadyH.cons (o := { dst := Option.some 52, op := Go.Op.call { callee := Go.Callee.value (Go.Operand.func 23), args := #[Go.Operand.tmp 51], argTypes := #[25] }, type := 38, pos := "law.go:53", after := #[{ on := 17, ground := Go.Ground.data }, { on := 16, ground := Go.Ground.chain }, { on := 16, ground := Go.Ground.guard }], guard := Option.some (16, Bool.true) }) rfl (fun K hK => ?_) AllReadyH.nil
  go_simp
  refine (stack_any l _ B3 g _ hHeld.mem).mono ?_
  rintro e W18 ⟨⟨rfl, hst⟩, hB⟩
  have hcv := st_0 hst
  rw [hs0.out] at hcv
  refine hK.out _ _ ?_ (fun hHeld => ?_)
  · (try dsimp only); exact SMay.later hHeld hB
  clear hK K
  try simp only [Act.put, List.setIfInBounds_toArray, List.set_cons_zero, List.set_cons_succ]
  refine wpAnyH_ready (rs := [19]) (by kernel_rfl) (by simp) ?_
  refine AllReadyH.cons (o := { dst := Option.some 53, op := Go.Op.convert 38 9 (Go.Operand.tmp 52), type := 9, pos := "law.go:53", after := #[{ on := 18, ground := Go.Ground.data }, { on := 16, ground := Go.Ground.guard }], guard := Option.some (16, Bool.true) }) rfl (fun K hK => ?_) AllReadyH.nil
  go_simp
  refine hK.out _ _ ?_ (fun hHeld => ?_)
  · (try dsimp only); exact hHeld
  clear hK K
  try simp only [Act.put, List.setIfInBounds_toArray, List.set_cons_zero, List.set_cons_succ]
  refine wpAnyH_take (i := 26) (oi := { dst := Option.some 60, op := Go.Op.binOp Go.BinOp.eql 9 (Go.Operand.tmp 53) (Go.Operand.tmp 59) 9, type := 4, pos := "law.go:53", after := #[{ on := 19, ground := Go.Ground.data }, { on := 25, ground := Go.Ground.data }, { on := 16, ground := Go.Ground.guard }], guard := Option.some (16, Bool.true) }) (v := ?_) rfl (by kernel_rfl) (by kernel_rfl) (by kernel_rfl) (fun _ _ _ h => h) (Or.inl ⟨by rfl, ?_⟩) (by assumption) ?_
  rotate_left
  · (intro w hSw; (try dsimp only at hSw); go_simp; try with_reducible rfl)
  try simp only [Act.put, List.setIfInBounds_toArray, List.set_cons_zero, List.set_cons_succ]
  refine wpAnyH_take (i := 27) (oi := { dst := Option.some 61, op := Go.Op.pick (Go.Operand.tmp 50) (Go.Operand.tmp 60) (Go.Operand.const (Go.Value.bool Bool.false)), type := 4, pos := "law.go:53", after := #[{ on := 16, ground := Go.Ground.data }, { on := 26, ground := Go.Ground.data }], guard := Option.none }) (v := ?_) rfl (by kernel_rfl) (by kernel_rfl) (by kernel_rfl) (fun _ _ _ h => h) (Or.inl ⟨by rfl, ?_⟩) (by assumption) ?_
  rotate_left
  · (intro w hSw; (try dsimp only at hSw); go_simp; try with_reducible rfl)
  try simp only [Act.put, List.setIfInBounds_toArray, List.set_cons_zero, List.set_cons_succ]
  refine wpAnyH_take (i := 28) (oi := { dst := Option.some 62, op := Go.Op.move (Go.Operand.tmp 61), type := 4, pos := "law.go:53", after := #[{ on := 27, ground := Go.Ground.data }, { on := 18, ground := Go.Ground.chain }], guard := Option.none }) (v := ?_) rfl (by kernel_rfl) (by kernel_rfl) (by kernel_rfl) (fun _ _ _ h => h) (Or.inl ⟨by rfl, ?_⟩) (by assumption) ?_
  rotate_left
  · (intro w hSw; (try dsimp only at hSw); go_simp; try with_reducible rfl)
  try simp only [Act.put, List.setIfInBounds_toArray, List.set_cons_zero, List.set_cons_succ]
  refine wpAnyH_take (i := 29) (oi := { dst := Option.some 63, op := Go.Op.move (Go.Operand.tmp 3), type := 25, pos := "law.go:53", after := #[{ on := 28, ground := Go.Ground.guard }], guard := Option.some (28, Bool.true) }) (v := ?_) rfl (by kernel_rfl) (by kernel_rfl) (by kernel_rfl) (fun _ _ _ h => h) (Or.inl ⟨by rfl, ?_⟩) (by assumption) ?_
  rotate_left
  · (intro w hSw; (try dsimp only at hSw); go_simp; try with_reducible rfl)
  try simp only [Act.put, List.setIfInBounds_toArray, List.set_cons_zero, List.set_cons_succ]
  refine wpAnyH_take (i := 30) (oi := { dst := Option.some 64, op := Go.Op.move (Go.Operand.tmp 5), type := 31, pos := "law.go:53", after := #[{ on := 28, ground := Go.Ground.guard }], guard := Option.some (28, Bool.true) }) (v := ?_) rfl (by kernel_rfl) (by kernel_rfl) (by kernel_rfl) (fun _ _ _ h => h) (Or.inl ⟨by rfl, ?_⟩) (by assumption) ?_
  rotate_left
  · (intro w hSw; (try dsimp only at hSw); go_simp; try with_reducible rfl)
  try simp only [Act.put, List.setIfInBounds_toArray, List.set_cons_zero, List.set_cons_succ]
  refine wpAnyH_ready (rs := [31]) (by kernel_rfl) (by simp) ?_
  refine AllReadyH.cons (o := { dst := Option.some 65, op := Go.Op.call { callee := Go.Callee.value (Go.Operand.func 24), args := #[Go.Operand.tmp 63, Go.Operand.tmp 64, Go.Operand.const (Go.Value.int Go.IntKind.i64 0)], argTypes := #[25, 31, 3] }, type := 4, pos := "law.go:53", after := #[{ on := 29, ground := Go.Ground.data }, { on := 30, ground := Go.Ground.data }, { on := 28, ground := Go.Ground.chain }, { on := 28, ground := Go.Ground.guard }], guard := Option.some (28, Bool.true) }) rfl (fun K hK => ?_) AllReadyH.nil
  go_simp
  refine (once_0 l l B3 g B5 g2 _ hHeld.mem hHeld.ref).mono ?_
  rintro e W31 ⟨rfl, hB⟩
  refine hK.out _ _ ?_ (fun hHeld => ?_)
  · (try dsimp only); exact SMay.later hHeld hB
  clear hK K
  try simp only [Act.put, List.setIfInBounds_toArray, List.set_cons_zero, List.set_cons_succ]
  refine wpAnyH_take (i := 32) (oi := { dst := Option.some 66, op := Go.Op.pick (Go.Operand.tmp 62) (Go.Operand.tmp 65) (Go.Operand.const (Go.Value.bool Bool.false)), type := 4, pos := "law.go:53", after := #[{ on := 28, ground := Go.Ground.data }, { on := 31, ground := Go.Ground.data }], guard := Option.none }) (v := ?_) rfl (by kernel_rfl) (by kernel_rfl) (by kernel_rfl) (fun _ _ _ h => h) (Or.inl ⟨by rfl, ?_⟩) (by assumption) ?_
  rotate_left
  · (intro w hSw; (try dsimp only at hSw); go_simp; try with_reducible rfl)
  try simp only [Act.put, List.setIfInBounds_toArray, List.set_cons_zero, List.set_cons_succ]
  refine wpAnyH_take (i := 33) (oi := { dst := Option.some 67, op := Go.Op.move (Go.Operand.tmp 66), type := 4, pos := "law.go:53", after := #[{ on := 32, ground := Go.Ground.data }, { on := 31, ground := Go.Ground.chain }], guard := Option.none }) (v := ?_) rfl (by kernel_rfl) (by kernel_rfl) (by kernel_rfl) (fun _ _ _ h => h) (Or.inl ⟨by rfl, ?_⟩) (by assumption) ?_
  rotate_left
  · (intro w hSw; (try dsimp only at hSw); go_simp; try with_reducible rfl)
  try simp only [Act.put, List.setIfInBounds_toArray, List.set_cons_zero, List.set_cons_succ]
  refine wpAnyH_ready (rs := [34]) (by kernel_rfl) (by simp) ?_
  refine AllReadyH.cons (o := { dst := Option.some 68, op := Go.Op.call { callee := Go.Callee.value (Go.Operand.func 12), args := #[], argTypes := #[] }, type := 4, pos := "law.go:53", after := #[{ on := 33, ground := Go.Ground.chain }, { on := 33, ground := Go.Ground.guard }], guard := Option.some (33, Bool.true) }) rfl (fun K hK => ?_) AllReadyH.nil
  go_simp
  refine (known_any _).mono ?_
  rintro e W34 ⟨rfl, hB⟩
  refine hK.out _ _ ?_ (fun hHeld => ?_)
  · (try dsimp only); exact SMay.later hHeld hB
  clear hK K
  try simp only [Act.put, List.setIfInBounds_toArray, List.set_cons_zero, List.set_cons_succ]
  refine wpAnyH_take (i := 35) (oi := { dst := Option.some 69, op := Go.Op.pick (Go.Operand.tmp 67) (Go.Operand.tmp 68) (Go.Operand.const (Go.Value.bool Bool.false)), type := 4, pos := "law.go:53", after := #[{ on := 33, ground := Go.Ground.data }, { on := 34, ground := Go.Ground.data }], guard := Option.none }) (v := ?_) rfl (by kernel_rfl) (by kernel_rfl) (by kernel_rfl) (fun _ _ _ h => h) (Or.inl ⟨by rfl, ?_⟩) (by assumption) ?_
  rotate_left
  · (intro w hSw; (try dsimp only at hSw); go_simp; try with_reducible rfl)
  try simp only [Act.put, List.setIfInBounds_toArray, List.set_cons_zero, List.set_cons_succ]
  refine wpAnyH_take (i := 36) (oi := { dst := Option.some 2, op := Go.Op.assign (Go.Operand.tmp 69), type := 4, pos := "law.go:53", after := #[{ on := 35, ground := Go.Ground.data }, { on := 34, ground := Go.Ground.chain }, { on := 0, ground := Go.Ground.phase }, { on := 1, ground := Go.Ground.phase }, { on := 2, ground := Go.Ground.phase }, { on := 3, ground := Go.Ground.phase }, { on := 4, ground := Go.Ground.phase }, { on := 5, ground := Go.Ground.phase }, { on := 6, ground := Go.Ground.phase }, { on := 7, ground := Go.Ground.phase }, { on := 8, ground := Go.Ground.phase }, { on := 9, ground := Go.Ground.phase }, { on := 10, ground := Go.Ground.phase }, { on := 11, ground := Go.Ground.phase }, { on := 12, ground := Go.Ground.phase }, { on := 13, ground := Go.Ground.phase }, { on := 14, ground := Go.Ground.phase }, { on := 15, ground := Go.Ground.phase }, { on := 16, ground := Go.Ground.phase }, { on := 17, ground := Go.Ground.phase }, { on := 18, ground := Go.Ground.phase }, { on := 19, ground := Go.Ground.phase }, { on := 20, ground := Go.Ground.phase }, { on := 21, ground := Go.Ground.phase }, { on := 22, ground := Go.Ground.phase }, { on := 23, ground := Go.Ground.phase }, { on := 24, ground := Go.Ground.phase }, { on := 25, ground := Go.Ground.phase }, { on := 26, ground := Go.Ground.phase }, { on := 27, ground := Go.Ground.phase }, { on := 28, ground := Go.Ground.phase }, { on := 29, ground := Go.Ground.phase }, { on := 30, ground := Go.Ground.phase }, { on := 31, ground := Go.Ground.phase }, { on := 32, ground := Go.Ground.phase }, { on := 33, ground := Go.Ground.phase }, { on := 34, ground := Go.Ground.phase }, { on := 35, ground := Go.Ground.phase }], guard := Option.none }) (v := ?_) rfl (by kernel_rfl) (by kernel_rfl) (by kernel_rfl) (fun _ _ _ h => h) (Or.inl ⟨by rfl, ?_⟩) (by assumption) ?_
  rotate_left
  · (intro w hSw; (try dsimp only at hSw); go_simp; try with_reducible rfl)
  try simp only [Act.put, List.setIfInBounds_toArray, List.set_cons_zero, List.set_cons_succ]
  refine wpAnyH_done (by kernel_rfl) ?_ _
  have HE := Lib.hid hHeld.bel
  go_wp2_with fail
  go_ret
  exact ⟨rfl, HE.out⟩
theorem may_law (l : List Rg) (p : Option Addr) (c : Nat) (w : World) (h : GivenM w l p c) :
    Calls Try.prog 3 #[.slice p l.length c] w fun e w' => e = .returned (.bool true) ∧ Below w.heap.size w w' := by
  cases hl : longB l with
  | true => exact may_long l p c w h hl
  | false =>
    cases hm : mayB l with
    | false => exact may_bad l p c w h hl hm
    | true => exact may_yes l p c w h hl hm
end Go.Proofs.Ytigkjmjkpjjjkaa
