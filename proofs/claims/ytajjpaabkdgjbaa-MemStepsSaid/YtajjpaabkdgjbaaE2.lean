/- Two memories are the same. -/
import Derived.Test.YtajjpaabkdgjbaaE1
import Derived.Test.YtajjpaabkdgjbaaDI
import Derived.Test.YtajjpaabkdgjbaaDD
import Derived.Deep.RegionHeld
import Derived.Deep.RegionHeld3
namespace Go.Proofs.Ytajjpaabkdgjbaa
open Go.RowKit

/-- the words are the same -/
def EqW (f h : Nat → Nat) : Prop := ∀ j, j < 8192 → f j = h j
noncomputable def wordsEq (f h : Nat → Nat) : Bool := @decide (EqW f h) (Classical.propDecidable _)
theorem wordsEq_of {f h : Nat → Nat} {xs ys : List Nat} (hx : xs.length = 8192) (hy : ys.length = 8192) (fx : ∀ j, j < 8192 → xs[j]? = some (f j)) (fy : ∀ j, j < 8192 → ys[j]? = some (h j)) : decide (xs = ys) = wordsEq f h := by
  have key : xs = ys ↔ EqW f h := by
    constructor
    · rintro rfl j hj
      have := (fx j hj).symm.trans (fy j hj)
      exact Option.some.inj this
    · intro e
      refine List.ext_getElem? fun j => ?_
      rcases Nat.lt_or_ge j 8192 with hj | hj
      · rw [fx j hj, fy j hj, e j hj]
      · rw [List.getElem?_eq_none (by omega), List.getElem?_eq_none (by omega)]
  unfold wordsEq
  rw [Bool.eq_iff_iff, decide_eq_true_eq, @decide_eq_true_eq _ (Classical.propDecidable _)]
  exact key
noncomputable def memB (l k : List Rg) (f h : Nat → Nat) : Bool := eqB l k && wordsEq f h
theorem MemIs.range {W : World} {B g : Nat} {l : List Rg} {f : Nat → Nat} (h : MemIs W B g l f) {xs : List Nat} (hx : ∀ j, j < 8192 → xs[j]? = some (f j)) (hl : xs.length = 8192) : W.rangeAt g 2 (u64s xs) := fun j v hv => by
  obtain ⟨x, h1, rfl⟩ := u64s_get xs j v hv
  have hj : j < 8192 := by rw [← hl]; exact (List.getElem?_eq_some_iff.1 h1).1
  rw [hx j hj] at h1
  cases h1
  exact (h.cell j hj).1
set_option maxRecDepth 100000 in
set_option maxHeartbeats 3200000 in
theorem memSame_any (l k : List Rg) (f h : Nat → Nat) (B1 g1 B2 g2 : Nat) (w : World) (h1 : MemIs w B1 g1 l f) (h2 : MemIs w B2 g2 k h) :
    Calls Try.prog 24 #[.pointer (some ⟨g1, 0, none⟩), .pointer (some ⟨g2, 0, none⟩)] w fun e w' => e = .returned (.bool (memB l k f h)) ∧ Below w.heap.size w w' := by
  have HN1 := Lib.hid h1.isn
  have HN2 := Lib.hid h2.isn
  obtain ⟨xs, hx1, hx2, hx3⟩ := words_ex f 8192 h1.lt
  obtain ⟨ys, hy1, hy2, hy3⟩ := words_ex h 8192 h2.lt
  have hr1 := h1.range hx2 hx1
  have hr2 := h2.range hy2 hy1
  have hv2 := wordsEq_of hx1 hy1 hx2 hy2
  have heq0 := fun w : World => eql_arr w xs ys hx1 hy1
  have hg1 := h1.gt.2
  have hg2 := h2.gt.2
  have hI1 : (Try.prog.info? 81).map (·.size) = some (u64s xs).toArray.toList.length := by rw [info_arr]; simp [u64s, hx1]
  have hI2 : (Try.prog.info? 81).map (·.size) = some (u64s ys).toArray.toList.length := by rw [info_arr]; simp [u64s, hy1]
  obtain ⟨p1, c1, q1, a1, a2, a3, a4, _⟩ := h1
  obtain ⟨p2, c2, q2, b1, b2, b3, b4, _⟩ := h2
  replace hr1 : w.rangeAt g1 2 (u64s xs).toArray.toList := hr1
  replace hr2 : w.rangeAt g2 2 (u64s ys).toArray.toList := hr2
  rw [hv2] at heq0
  have heq : ∀ w : World, (binOp .eql 81 (.agg (u64s xs).toArray) (.agg (u64s ys).toArray)).run Try.prog w = .ok (.bool (wordsEq f h)) w := heq0
  generalize (u64s xs).toArray = A1 at hr1 hI1 heq
  generalize (u64s ys).toArray = A2 at hr2 hI2 heq
  have HI1 := Lib.hid hI1
  have HI2 := Lib.hid hI2
  have HS := Lib.hid (fun (W : World) (hB : Below w.heap.size w W) => show W.cell? ⟨g1, 0, none⟩ = some (.slice p1 l.length c1) ∧ W.cell? ⟨g2, 0, none⟩ = some (.slice p2 k.length c2) ∧ W.rangeAt g1 2 A1.toList ∧ W.rangeAt g2 2 A2.toList from
    ⟨(hB.cell (p := ⟨g1, 0, none⟩) hg1).trans a1, (hB.cell (p := ⟨g2, 0, none⟩) hg2).trans b1, fun j v hv => (hB.cell (p := ⟨g1, 2 + j, none⟩) hg1).trans (hr1 j v hv), fun j v hv => (hB.cell (p := ⟨g2, 2 + j, none⟩) hg2).trans (hr2 j v hv)⟩)
  have HE := Lib.hid (fun (W : World) (hB : Below w.heap.size w W) => eqRg_any l k p1 p2 c1 c2 (max g1 g2) W (a4.later (hB.mono (by omega)) (by omega)) (b4.later (hB.mono (by omega)) (by omega)) (by have := hB.size; omega))
  clear hr1 hr2 hv2 heq0 a1 a2 a3 a4 b1 b2 b3 b4 hx1 hx2 hx3 hy1 hy2 hy3 hg1 hg2 hI1 hI2
  unfold memB
  generalize wordsEq f h = v2 at heq ⊢
  cases hv : eqB l k with
  | true =>
    have HV := Lib.hid (show v2 = (true && v2) from rfl)
    rw [hv] at HE
    clear hv
    go_enter Try.func24, Try.ntmps24
    go_wp2_with (first | (go_at_call 43; (with_reducible refine HN1.out.mono ?_); rintro e w' ⟨rfl, rfl⟩) | (go_at_call 43; (with_reducible refine HN2.out.mono ?_); rintro e w' ⟨rfl, rfl⟩))
    refine wp_region_held_drew (S := fun W => W.cell? ⟨g1, 0, none⟩ = some (.slice p1 l.length c1) ∧ W.cell? ⟨g2, 0, none⟩ = some (.slice p2 k.length c2) ∧ W.rangeAt g1 2 A1.toList ∧ W.rangeAt g2 2 A2.toList) (by kernel_rfl) ?_ (fun hHeld => ?_)
    · exact HS.out _ (Below.refl _ _).drew
    refine wpAnyH_take (i := 0) (oi := { dst := Option.some 17, op := Go.Op.move (Go.Operand.tmp 0), type := 29, pos := "mem.go:56", after := #[], guard := Option.none }) (v := ?_) rfl (by kernel_rfl) (by kernel_rfl) (by kernel_rfl) (fun _ _ _ h => h) (Or.inl ⟨by rfl, ?_⟩) (by assumption) ?_
    rotate_left
    · (intro w hSw; (try dsimp only at hSw); go_simp; try with_reducible rfl)
    try simp only [Act.put, List.setIfInBounds_toArray, List.set_cons_zero, List.set_cons_succ]
    refine wpAnyH_take (i := 1) (oi := { dst := Option.some 18, op := Go.Op.nilCheck (Go.Operand.tmp 17), type := 0, pos := "mem.go:56", after := #[{ on := 0, ground := Go.Ground.data }], guard := Option.none }) (v := ?_) rfl (by kernel_rfl) (by kernel_rfl) (by kernel_rfl) (fun _ _ _ h => h) (Or.inl ⟨by rfl, ?_⟩) (by assumption) ?_
    rotate_left
    · (intro w hSw; (try dsimp only at hSw); go_simp; try with_reducible rfl)
    try simp only [Act.put, List.setIfInBounds_toArray, List.set_cons_zero, List.set_cons_succ]
    refine wpAnyH_take (i := 2) (oi := { dst := Option.some 19, op := Go.Op.fieldAddr 83 (Go.Operand.tmp 18) 0, type := 0, pos := "mem.go:56", after := #[{ on := 1, ground := Go.Ground.data }], guard := Option.none }) (v := ?_) rfl (by kernel_rfl) (by kernel_rfl) (by kernel_rfl) (fun _ _ _ h => h) (Or.inl ⟨by rfl, ?_⟩) (by assumption) ?_
    rotate_left
    · (intro w hSw; (try dsimp only at hSw); go_simp; try with_reducible rfl)
    try simp only [Act.put, List.setIfInBounds_toArray, List.set_cons_zero, List.set_cons_succ]
    refine wpAnyH_take (i := 3) (oi := { dst := Option.some 20, op := Go.Op.load 22 (Go.Operand.tmp 19), type := 22, pos := "mem.go:56", after := #[{ on := 2, ground := Go.Ground.data }], guard := Option.none }) (v := ?_) rfl (by kernel_rfl) (by kernel_rfl) (by kernel_rfl) (fun _ _ _ h => h) (Or.inl ⟨by rfl, ?_⟩) (by assumption) ?_
    rotate_left
    · (intro w hSw; (try dsimp only at hSw); go_simp; try with_reducible rfl)
    try simp only [Act.put, List.setIfInBounds_toArray, List.set_cons_zero, List.set_cons_succ]
    refine wpAnyH_take (i := 4) (oi := { dst := Option.some 21, op := Go.Op.move (Go.Operand.tmp 1), type := 29, pos := "mem.go:56", after := #[], guard := Option.none }) (v := ?_) rfl (by kernel_rfl) (by kernel_rfl) (by kernel_rfl) (fun _ _ _ h => h) (Or.inl ⟨by rfl, ?_⟩) (by assumption) ?_
    rotate_left
    · (intro w hSw; (try dsimp only at hSw); go_simp; try with_reducible rfl)
    try simp only [Act.put, List.setIfInBounds_toArray, List.set_cons_zero, List.set_cons_succ]
    refine wpAnyH_take (i := 5) (oi := { dst := Option.some 22, op := Go.Op.nilCheck (Go.Operand.tmp 21), type := 0, pos := "mem.go:56", after := #[{ on := 4, ground := Go.Ground.data }], guard := Option.none }) (v := ?_) rfl (by kernel_rfl) (by kernel_rfl) (by kernel_rfl) (fun _ _ _ h => h) (Or.inl ⟨by rfl, ?_⟩) (by assumption) ?_
    rotate_left
    · (intro w hSw; (try dsimp only at hSw); go_simp; try with_reducible rfl)
    try simp only [Act.put, List.setIfInBounds_toArray, List.set_cons_zero, List.set_cons_succ]
    refine wpAnyH_take (i := 6) (oi := { dst := Option.some 23, op := Go.Op.fieldAddr 83 (Go.Operand.tmp 22) 0, type := 0, pos := "mem.go:56", after := #[{ on := 5, ground := Go.Ground.data }], guard := Option.none }) (v := ?_) rfl (by kernel_rfl) (by kernel_rfl) (by kernel_rfl) (fun _ _ _ h => h) (Or.inl ⟨by rfl, ?_⟩) (by assumption) ?_
    rotate_left
    · (intro w hSw; (try dsimp only at hSw); go_simp; try with_reducible rfl)
    try simp only [Act.put, List.setIfInBounds_toArray, List.set_cons_zero, List.set_cons_succ]
    refine wpAnyH_take (i := 7) (oi := { dst := Option.some 24, op := Go.Op.load 22 (Go.Operand.tmp 23), type := 22, pos := "mem.go:56", after := #[{ on := 6, ground := Go.Ground.data }], guard := Option.none }) (v := ?_) rfl (by kernel_rfl) (by kernel_rfl) (by kernel_rfl) (fun _ _ _ h => h) (Or.inl ⟨by rfl, ?_⟩) (by assumption) ?_
    rotate_left
    · (intro w hSw; (try dsimp only at hSw); go_simp; try with_reducible rfl)
    try simp only [Act.put, List.setIfInBounds_toArray, List.set_cons_zero, List.set_cons_succ]
    refine wpAnyH_ready (rs := [8]) (by kernel_rfl) (by simp) ?_
    refine AllReadyH.cons (o := { dst := Option.some 25, op := Go.Op.call { callee := Go.Callee.value (Go.Operand.func 46), args := #[Go.Operand.tmp 20, Go.Operand.tmp 24], argTypes := #[22, 22] }, type := 4, pos := "mem.go:56", after := #[{ on := 3, ground := Go.Ground.data }, { on := 7, ground := Go.Ground.data }], guard := Option.none }) rfl (fun K hK => ?_) AllReadyH.nil
    go_simp
    refine (HE.out _ (Below.refl _ _).drew).mono ?_
    rintro z wa ⟨rfl, hB'⟩
    have HB := Lib.hid ((Below.refl w.heap.size w).drew.trans hB')
    clear hB'
    refine hK.out _ _ ?_ (fun hHeld => ?_)
    · exact HS.out _ HB.out
    clear hK K
    try simp only [Act.put, List.setIfInBounds_toArray, List.set_cons_zero, List.set_cons_succ]
    refine wpAnyH_take (i := 9) (oi := { dst := Option.some 26, op := Go.Op.move (Go.Operand.tmp 25), type := 4, pos := "mem.go:56", after := #[{ on := 8, ground := Go.Ground.data }, { on := 8, ground := Go.Ground.chain }], guard := Option.none }) (v := ?_) rfl (by kernel_rfl) (by kernel_rfl) (by kernel_rfl) (fun _ _ _ h => h) (Or.inl ⟨by rfl, ?_⟩) (by assumption) ?_
    rotate_left
    · (intro w hSw; (try dsimp only at hSw); go_simp; try with_reducible rfl)
    try simp only [Act.put, List.setIfInBounds_toArray, List.set_cons_zero, List.set_cons_succ]
    refine wpAnyH_take (i := 10) (oi := { dst := Option.some 27, op := Go.Op.move (Go.Operand.tmp 0), type := 29, pos := "mem.go:56", after := #[{ on := 9, ground := Go.Ground.guard }], guard := Option.some (9, Bool.true) }) (v := ?_) rfl (by kernel_rfl) (by kernel_rfl) (by kernel_rfl) (fun _ _ _ h => h) (Or.inl ⟨by rfl, ?_⟩) (by assumption) ?_
    rotate_left
    · (intro w hSw; (try dsimp only at hSw); go_simp; try with_reducible rfl)
    try simp only [Act.put, List.setIfInBounds_toArray, List.set_cons_zero, List.set_cons_succ]
    refine wpAnyH_take (i := 11) (oi := { dst := Option.some 28, op := Go.Op.nilCheck (Go.Operand.tmp 27), type := 0, pos := "mem.go:56", after := #[{ on := 10, ground := Go.Ground.data }, { on := 9, ground := Go.Ground.guard }], guard := Option.some (9, Bool.true) }) (v := ?_) rfl (by kernel_rfl) (by kernel_rfl) (by kernel_rfl) (fun _ _ _ h => h) (Or.inl ⟨by rfl, ?_⟩) (by assumption) ?_
    rotate_left
    · (intro w hSw; (try dsimp only at hSw); go_simp; try with_reducible rfl)
    try simp only [Act.put, List.setIfInBounds_toArray, List.set_cons_zero, List.set_cons_succ]
    refine wpAnyH_take (i := 12) (oi := { dst := Option.some 29, op := Go.Op.fieldAddr 83 (Go.Operand.tmp 28) 2, type := 0, pos := "mem.go:56", after := #[{ on := 11, ground := Go.Ground.data }, { on := 9, ground := Go.Ground.guard }], guard := Option.some (9, Bool.true) }) (v := ?_) rfl (by kernel_rfl) (by kernel_rfl) (by kernel_rfl) (fun _ _ _ h => h) (Or.inl ⟨by rfl, ?_⟩) (by assumption) ?_
    rotate_left
    · (intro w hSw; (try dsimp only at hSw); go_simp; try with_reducible rfl)
    try simp only [Act.put, List.setIfInBounds_toArray, List.set_cons_zero, List.set_cons_succ]
    refine wpAnyH_take (i := 13) (oi := { dst := Option.some 30, op := Go.Op.load 81 (Go.Operand.tmp 29), type := 81, pos := "mem.go:56", after := #[{ on := 12, ground := Go.Ground.data }, { on := 9, ground := Go.Ground.guard }], guard := Option.some (9, Bool.true) }) (v := .agg A1) rfl (by kernel_rfl) (by kernel_rfl) (by kernel_rfl) (fun _ _ _ h => h) (yieldsIf_load_mid (by rfl) 81 _ rfl g1 2 (by rfl) A1.toList _ (fun _ h => h.2.2.1) Try.underlying81 rfl HI1.out) (by assumption) ?_
    try simp only [Act.put, List.setIfInBounds_toArray, List.set_cons_zero, List.set_cons_succ]
    refine wpAnyH_take (i := 14) (oi := { dst := Option.some 31, op := Go.Op.move (Go.Operand.tmp 1), type := 29, pos := "mem.go:56", after := #[{ on := 9, ground := Go.Ground.guard }], guard := Option.some (9, Bool.true) }) (v := ?_) rfl (by kernel_rfl) (by kernel_rfl) (by kernel_rfl) (fun _ _ _ h => h) (Or.inl ⟨by rfl, ?_⟩) (by assumption) ?_
    rotate_left
    · (intro w hSw; (try dsimp only at hSw); go_simp; try with_reducible rfl)
    try simp only [Act.put, List.setIfInBounds_toArray, List.set_cons_zero, List.set_cons_succ]
    refine wpAnyH_take (i := 15) (oi := { dst := Option.some 32, op := Go.Op.nilCheck (Go.Operand.tmp 31), type := 0, pos := "mem.go:56", after := #[{ on := 14, ground := Go.Ground.data }, { on := 9, ground := Go.Ground.guard }], guard := Option.some (9, Bool.true) }) (v := ?_) rfl (by kernel_rfl) (by kernel_rfl) (by kernel_rfl) (fun _ _ _ h => h) (Or.inl ⟨by rfl, ?_⟩) (by assumption) ?_
    rotate_left
    · (intro w hSw; (try dsimp only at hSw); go_simp; try with_reducible rfl)
    try simp only [Act.put, List.setIfInBounds_toArray, List.set_cons_zero, List.set_cons_succ]
    refine wpAnyH_take (i := 16) (oi := { dst := Option.some 33, op := Go.Op.fieldAddr 83 (Go.Operand.tmp 32) 2, type := 0, pos := "mem.go:56", after := #[{ on := 15, ground := Go.Ground.data }, { on := 9, ground := Go.Ground.guard }], guard := Option.some (9, Bool.true) }) (v := ?_) rfl (by kernel_rfl) (by kernel_rfl) (by kernel_rfl) (fun _ _ _ h => h) (Or.inl ⟨by rfl, ?_⟩) (by assumption) ?_
    rotate_left
    · (intro w hSw; (try dsimp only at hSw); go_simp; try with_reducible rfl)
    try simp only [Act.put, List.setIfInBounds_toArray, List.set_cons_zero, List.set_cons_succ]
    refine wpAnyH_take (i := 17) (oi := { dst := Option.some 34, op := Go.Op.load 81 (Go.Operand.tmp 33), type := 81, pos := "mem.go:56", after := #[{ on := 16, ground := Go.Ground.data }, { on := 9, ground := Go.Ground.guard }], guard := Option.some (9, Bool.true) }) (v := .agg A2) rfl (by kernel_rfl) (by kernel_rfl) (by kernel_rfl) (fun _ _ _ h => h) (yieldsIf_load_mid (by rfl) 81 _ rfl g2 2 (by rfl) A2.toList _ (fun _ h => h.2.2.2) Try.underlying81 rfl HI2.out) (by assumption) ?_
    try simp only [Act.put, List.setIfInBounds_toArray, List.set_cons_zero, List.set_cons_succ]
    refine wpAnyH_take (i := 18) (oi := { dst := Option.some 35, op := Go.Op.binOp Go.BinOp.eql 81 (Go.Operand.tmp 30) (Go.Operand.tmp 34) 81, type := 4, pos := "mem.go:56", after := #[{ on := 13, ground := Go.Ground.data }, { on := 17, ground := Go.Ground.data }, { on := 9, ground := Go.Ground.guard }], guard := Option.some (9, Bool.true) }) (v := .bool v2) rfl (by kernel_rfl) (by kernel_rfl) (by kernel_rfl) (fun _ _ _ h => h) (Or.inl ⟨by rfl, ?_⟩) (by assumption) ?_
    · (intro w hSw; clear hSw; go_simp; try rw [heq])
    try simp only [Act.put, List.setIfInBounds_toArray, List.set_cons_zero, List.set_cons_succ]
    refine wpAnyH_take (i := 19) (oi := { dst := Option.some 36, op := Go.Op.pick (Go.Operand.tmp 26) (Go.Operand.tmp 35) (Go.Operand.const (Go.Value.bool Bool.false)), type := 4, pos := "mem.go:56", after := #[{ on := 9, ground := Go.Ground.data }, { on := 18, ground := Go.Ground.data }], guard := Option.none }) (v := ?_) rfl (by kernel_rfl) (by kernel_rfl) (by kernel_rfl) (fun _ _ _ h => h) (Or.inl ⟨by rfl, ?_⟩) (by assumption) ?_
    rotate_left
    · (intro w hSw; (try dsimp only at hSw); go_simp; try with_reducible rfl)
    try simp only [Act.put, List.setIfInBounds_toArray, List.set_cons_zero, List.set_cons_succ]
    refine wpAnyH_take (i := 20) (oi := { dst := Option.some 4, op := Go.Op.assign (Go.Operand.tmp 36), type := 4, pos := "mem.go:56", after := #[{ on := 19, ground := Go.Ground.data }, { on := 9, ground := Go.Ground.chain }, { on := 0, ground := Go.Ground.phase }, { on := 1, ground := Go.Ground.phase }, { on := 2, ground := Go.Ground.phase }, { on := 3, ground := Go.Ground.phase }, { on := 4, ground := Go.Ground.phase }, { on := 5, ground := Go.Ground.phase }, { on := 6, ground := Go.Ground.phase }, { on := 7, ground := Go.Ground.phase }, { on := 8, ground := Go.Ground.phase }, { on := 9, ground := Go.Ground.phase }, { on := 10, ground := Go.Ground.phase }, { on := 11, ground := Go.Ground.phase }, { on := 12, ground := Go.Ground.phase }, { on := 13, ground := Go.Ground.phase }, { on := 14, ground := Go.Ground.phase }, { on := 15, ground := Go.Ground.phase }, { on := 16, ground := Go.Ground.phase }, { on := 17, ground := Go.Ground.phase }, { on := 18, ground := Go.Ground.phase }, { on := 19, ground := Go.Ground.phase }], guard := Option.none }) (v := ?_) rfl (by kernel_rfl) (by kernel_rfl) (by kernel_rfl) (fun _ _ _ h => h) (Or.inl ⟨by rfl, ?_⟩) (by assumption) ?_
    rotate_left
    · (intro w hSw; (try dsimp only at hSw); go_simp; try with_reducible rfl)
    try simp only [Act.put, List.setIfInBounds_toArray, List.set_cons_zero, List.set_cons_succ]
    refine wpAnyH_done (by kernel_rfl) ?_ _
    go_wp2_with fail
    go_ret
    exact ⟨ret_bool HV.out, HB.out⟩
  | false =>
    have HV := Lib.hid (show false = (false && v2) from rfl)
    rw [hv] at HE
    clear hv
    go_enter Try.func24, Try.ntmps24
    go_wp2_with (first | (go_at_call 43; (with_reducible refine HN1.out.mono ?_); rintro e w' ⟨rfl, rfl⟩) | (go_at_call 43; (with_reducible refine HN2.out.mono ?_); rintro e w' ⟨rfl, rfl⟩))
    refine wp_region_held_drew (S := fun W => W.cell? ⟨g1, 0, none⟩ = some (.slice p1 l.length c1) ∧ W.cell? ⟨g2, 0, none⟩ = some (.slice p2 k.length c2) ∧ W.rangeAt g1 2 A1.toList ∧ W.rangeAt g2 2 A2.toList) (by kernel_rfl) ?_ (fun hHeld => ?_)
    · exact HS.out _ (Below.refl _ _).drew
    refine wpAnyH_take (i := 0) (oi := { dst := Option.some 17, op := Go.Op.move (Go.Operand.tmp 0), type := 29, pos := "mem.go:56", after := #[], guard := Option.none }) (v := ?_) rfl (by kernel_rfl) (by kernel_rfl) (by kernel_rfl) (fun _ _ _ h => h) (Or.inl ⟨by rfl, ?_⟩) (by assumption) ?_
    rotate_left
    · (intro w hSw; (try dsimp only at hSw); go_simp; try with_reducible rfl)
    try simp only [Act.put, List.setIfInBounds_toArray, List.set_cons_zero, List.set_cons_succ]
    refine wpAnyH_take (i := 1) (oi := { dst := Option.some 18, op := Go.Op.nilCheck (Go.Operand.tmp 17), type := 0, pos := "mem.go:56", after := #[{ on := 0, ground := Go.Ground.data }], guard := Option.none }) (v := ?_) rfl (by kernel_rfl) (by kernel_rfl) (by kernel_rfl) (fun _ _ _ h => h) (Or.inl ⟨by rfl, ?_⟩) (by assumption) ?_
    rotate_left
    · (intro w hSw; (try dsimp only at hSw); go_simp; try with_reducible rfl)
    try simp only [Act.put, List.setIfInBounds_toArray, List.set_cons_zero, List.set_cons_succ]
    refine wpAnyH_take (i := 2) (oi := { dst := Option.some 19, op := Go.Op.fieldAddr 83 (Go.Operand.tmp 18) 0, type := 0, pos := "mem.go:56", after := #[{ on := 1, ground := Go.Ground.data }], guard := Option.none }) (v := ?_) rfl (by kernel_rfl) (by kernel_rfl) (by kernel_rfl) (fun _ _ _ h => h) (Or.inl ⟨by rfl, ?_⟩) (by assumption) ?_
    rotate_left
    · (intro w hSw; (try dsimp only at hSw); go_simp; try with_reducible rfl)
    try simp only [Act.put, List.setIfInBounds_toArray, List.set_cons_zero, List.set_cons_succ]
    refine wpAnyH_take (i := 3) (oi := { dst := Option.some 20, op := Go.Op.load 22 (Go.Operand.tmp 19), type := 22, pos := "mem.go:56", after := #[{ on := 2, ground := Go.Ground.data }], guard := Option.none }) (v := ?_) rfl (by kernel_rfl) (by kernel_rfl) (by kernel_rfl) (fun _ _ _ h => h) (Or.inl ⟨by rfl, ?_⟩) (by assumption) ?_
    rotate_left
    · (intro w hSw; (try dsimp only at hSw); go_simp; try with_reducible rfl)
    try simp only [Act.put, List.setIfInBounds_toArray, List.set_cons_zero, List.set_cons_succ]
    refine wpAnyH_take (i := 4) (oi := { dst := Option.some 21, op := Go.Op.move (Go.Operand.tmp 1), type := 29, pos := "mem.go:56", after := #[], guard := Option.none }) (v := ?_) rfl (by kernel_rfl) (by kernel_rfl) (by kernel_rfl) (fun _ _ _ h => h) (Or.inl ⟨by rfl, ?_⟩) (by assumption) ?_
    rotate_left
    · (intro w hSw; (try dsimp only at hSw); go_simp; try with_reducible rfl)
    try simp only [Act.put, List.setIfInBounds_toArray, List.set_cons_zero, List.set_cons_succ]
    refine wpAnyH_take (i := 5) (oi := { dst := Option.some 22, op := Go.Op.nilCheck (Go.Operand.tmp 21), type := 0, pos := "mem.go:56", after := #[{ on := 4, ground := Go.Ground.data }], guard := Option.none }) (v := ?_) rfl (by kernel_rfl) (by kernel_rfl) (by kernel_rfl) (fun _ _ _ h => h) (Or.inl ⟨by rfl, ?_⟩) (by assumption) ?_
    rotate_left
    · (intro w hSw; (try dsimp only at hSw); go_simp; try with_reducible rfl)
    try simp only [Act.put, List.setIfInBounds_toArray, List.set_cons_zero, List.set_cons_succ]
    refine wpAnyH_take (i := 6) (oi := { dst := Option.some 23, op := Go.Op.fieldAddr 83 (Go.Operand.tmp 22) 0, type := 0, pos := "mem.go:56", after := #[{ on := 5, ground := Go.Ground.data }], guard := Option.none }) (v := ?_) rfl (by kernel_rfl) (by kernel_rfl) (by kernel_rfl) (fun _ _ _ h => h) (Or.inl ⟨by rfl, ?_⟩) (by assumption) ?_
    rotate_left
    · (intro w hSw; (try dsimp only at hSw); go_simp; try with_reducible rfl)
    try simp only [Act.put, List.setIfInBounds_toArray, List.set_cons_zero, List.set_cons_succ]
    refine wpAnyH_take (i := 7) (oi := { dst := Option.some 24, op := Go.Op.load 22 (Go.Operand.tmp 23), type := 22, pos := "mem.go:56", after := #[{ on := 6, ground := Go.Ground.data }], guard := Option.none }) (v := ?_) rfl (by kernel_rfl) (by kernel_rfl) (by kernel_rfl) (fun _ _ _ h => h) (Or.inl ⟨by rfl, ?_⟩) (by assumption) ?_
    rotate_left
    · (intro w hSw; (try dsimp only at hSw); go_simp; try with_reducible rfl)
    try simp only [Act.put, List.setIfInBounds_toArray, List.set_cons_zero, List.set_cons_succ]
    refine wpAnyH_ready (rs := [8]) (by kernel_rfl) (by simp) ?_
    refine AllReadyH.cons (o := { dst := Option.some 25, op := Go.Op.call { callee := Go.Callee.value (Go.Operand.func 46), args := #[Go.Operand.tmp 20, Go.Operand.tmp 24], argTypes := #[22, 22] }, type := 4, pos := "mem.go:56", after := #[{ on := 3, ground := Go.Ground.data }, { on := 7, ground := Go.Ground.data }], guard := Option.none }) rfl (fun K hK => ?_) AllReadyH.nil
    go_simp
    refine (HE.out _ (Below.refl _ _).drew).mono ?_
    rintro z wa ⟨rfl, hB'⟩
    have HB := Lib.hid ((Below.refl w.heap.size w).drew.trans hB')
    clear hB'
    refine hK.out _ _ ?_ (fun hHeld => ?_)
    · exact HS.out _ HB.out
    clear hK K
    try simp only [Act.put, List.setIfInBounds_toArray, List.set_cons_zero, List.set_cons_succ]
    refine wpAnyH_take (i := 9) (oi := { dst := Option.some 26, op := Go.Op.move (Go.Operand.tmp 25), type := 4, pos := "mem.go:56", after := #[{ on := 8, ground := Go.Ground.data }, { on := 8, ground := Go.Ground.chain }], guard := Option.none }) (v := ?_) rfl (by kernel_rfl) (by kernel_rfl) (by kernel_rfl) (fun _ _ _ h => h) (Or.inl ⟨by rfl, ?_⟩) (by assumption) ?_
    rotate_left
    · (intro w hSw; (try dsimp only at hSw); go_simp; try with_reducible rfl)
    try simp only [Act.put, List.setIfInBounds_toArray, List.set_cons_zero, List.set_cons_succ]
    refine wpAnyH_take (i := 10) (oi := { dst := Option.some 27, op := Go.Op.move (Go.Operand.tmp 0), type := 29, pos := "mem.go:56", after := #[{ on := 9, ground := Go.Ground.guard }], guard := Option.some (9, Bool.true) }) (v := undef) rfl (by kernel_rfl) (by kernel_rfl) (by kernel_rfl) (fun _ _ _ h => h) (Or.inr ⟨by rfl, rfl⟩) (by assumption) ?_
    try simp only [Act.put, List.setIfInBounds_toArray, List.set_cons_zero, List.set_cons_succ]
    refine wpAnyH_take (i := 11) (oi := { dst := Option.some 28, op := Go.Op.nilCheck (Go.Operand.tmp 27), type := 0, pos := "mem.go:56", after := #[{ on := 10, ground := Go.Ground.data }, { on := 9, ground := Go.Ground.guard }], guard := Option.some (9, Bool.true) }) (v := undef) rfl (by kernel_rfl) (by kernel_rfl) (by kernel_rfl) (fun _ _ _ h => h) (Or.inr ⟨by rfl, rfl⟩) (by assumption) ?_
    try simp only [Act.put, List.setIfInBounds_toArray, List.set_cons_zero, List.set_cons_succ]
    refine wpAnyH_take (i := 12) (oi := { dst := Option.some 29, op := Go.Op.fieldAddr 83 (Go.Operand.tmp 28) 2, type := 0, pos := "mem.go:56", after := #[{ on := 11, ground := Go.Ground.data }, { on := 9, ground := Go.Ground.guard }], guard := Option.some (9, Bool.true) }) (v := undef) rfl (by kernel_rfl) (by kernel_rfl) (by kernel_rfl) (fun _ _ _ h => h) (Or.inr ⟨by rfl, rfl⟩) (by assumption) ?_
    try simp only [Act.put, List.setIfInBounds_toArray, List.set_cons_zero, List.set_cons_succ]
    refine wpAnyH_take (i := 13) (oi := { dst := Option.some 30, op := Go.Op.load 81 (Go.Operand.tmp 29), type := 81, pos := "mem.go:56", after := #[{ on := 12, ground := Go.Ground.data }, { on := 9, ground := Go.Ground.guard }], guard := Option.some (9, Bool.true) }) (v := undef) rfl (by kernel_rfl) (by kernel_rfl) (by kernel_rfl) (fun _ _ _ h => h) (Or.inr ⟨by rfl, rfl⟩) (by assumption) ?_
    try simp only [Act.put, List.setIfInBounds_toArray, List.set_cons_zero, List.set_cons_succ]
    refine wpAnyH_take (i := 14) (oi := { dst := Option.some 31, op := Go.Op.move (Go.Operand.tmp 1), type := 29, pos := "mem.go:56", after := #[{ on := 9, ground := Go.Ground.guard }], guard := Option.some (9, Bool.true) }) (v := undef) rfl (by kernel_rfl) (by kernel_rfl) (by kernel_rfl) (fun _ _ _ h => h) (Or.inr ⟨by rfl, rfl⟩) (by assumption) ?_
    try simp only [Act.put, List.setIfInBounds_toArray, List.set_cons_zero, List.set_cons_succ]
    refine wpAnyH_take (i := 15) (oi := { dst := Option.some 32, op := Go.Op.nilCheck (Go.Operand.tmp 31), type := 0, pos := "mem.go:56", after := #[{ on := 14, ground := Go.Ground.data }, { on := 9, ground := Go.Ground.guard }], guard := Option.some (9, Bool.true) }) (v := undef) rfl (by kernel_rfl) (by kernel_rfl) (by kernel_rfl) (fun _ _ _ h => h) (Or.inr ⟨by rfl, rfl⟩) (by assumption) ?_
    try simp only [Act.put, List.setIfInBounds_toArray, List.set_cons_zero, List.set_cons_succ]
    refine wpAnyH_take (i := 16) (oi := { dst := Option.some 33, op := Go.Op.fieldAddr 83 (Go.Operand.tmp 32) 2, type := 0, pos := "mem.go:56", after := #[{ on := 15, ground := Go.Ground.data }, { on := 9, ground := Go.Ground.guard }], guard := Option.some (9, Bool.true) }) (v := undef) rfl (by kernel_rfl) (by kernel_rfl) (by kernel_rfl) (fun _ _ _ h => h) (Or.inr ⟨by rfl, rfl⟩) (by assumption) ?_
    try simp only [Act.put, List.setIfInBounds_toArray, List.set_cons_zero, List.set_cons_succ]
    refine wpAnyH_take (i := 17) (oi := { dst := Option.some 34, op := Go.Op.load 81 (Go.Operand.tmp 33), type := 81, pos := "mem.go:56", after := #[{ on := 16, ground := Go.Ground.data }, { on := 9, ground := Go.Ground.guard }], guard := Option.some (9, Bool.true) }) (v := undef) rfl (by kernel_rfl) (by kernel_rfl) (by kernel_rfl) (fun _ _ _ h => h) (Or.inr ⟨by rfl, rfl⟩) (by assumption) ?_
    try simp only [Act.put, List.setIfInBounds_toArray, List.set_cons_zero, List.set_cons_succ]
    refine wpAnyH_take (i := 18) (oi := { dst := Option.some 35, op := Go.Op.binOp Go.BinOp.eql 81 (Go.Operand.tmp 30) (Go.Operand.tmp 34) 81, type := 4, pos := "mem.go:56", after := #[{ on := 13, ground := Go.Ground.data }, { on := 17, ground := Go.Ground.data }, { on := 9, ground := Go.Ground.guard }], guard := Option.some (9, Bool.true) }) (v := undef) rfl (by kernel_rfl) (by kernel_rfl) (by kernel_rfl) (fun _ _ _ h => h) (Or.inr ⟨by rfl, rfl⟩) (by assumption) ?_
    try simp only [Act.put, List.setIfInBounds_toArray, List.set_cons_zero, List.set_cons_succ]
    refine wpAnyH_take (i := 19) (oi := { dst := Option.some 36, op := Go.Op.pick (Go.Operand.tmp 26) (Go.Operand.tmp 35) (Go.Operand.const (Go.Value.bool Bool.false)), type := 4, pos := "mem.go:56", after := #[{ on := 9, ground := Go.Ground.data }, { on := 18, ground := Go.Ground.data }], guard := Option.none }) (v := ?_) rfl (by kernel_rfl) (by kernel_rfl) (by kernel_rfl) (fun _ _ _ h => h) (Or.inl ⟨by rfl, ?_⟩) (by assumption) ?_
    rotate_left
    · (intro w hSw; (try dsimp only at hSw); go_simp; try with_reducible rfl)
    try simp only [Act.put, List.setIfInBounds_toArray, List.set_cons_zero, List.set_cons_succ]
    refine wpAnyH_take (i := 20) (oi := { dst := Option.some 4, op := Go.Op.assign (Go.Operand.tmp 36), type := 4, pos := "mem.go:56", after := #[{ on := 19, ground := Go.Ground.data }, { on := 9, ground := Go.Ground.chain }, { on := 0, ground := Go.Ground.phase }, { on := 1, ground := Go.Ground.phase }, { on := 2, ground := Go.Ground.phase }, { on := 3, ground := Go.Ground.phase }, { on := 4, ground := Go.Ground.phase }, { on := 5, ground := Go.Ground.phase }, { on := 6, ground := Go.Ground.phase }, { on := 7, ground := Go.Ground.phase }, { on := 8, ground := Go.Ground.phase }, { on := 9, ground := Go.Ground.phase }, { on := 10, ground := Go.Ground.phase }, { on := 11, ground := Go.Ground.phase }, { on := 12, ground := Go.Ground.phase }, { on := 13, ground := Go.Ground.phase }, { on := 14, ground := Go.Ground.phase }, { on := 15, ground := Go.Ground.phase }, { on := 16, ground := Go.Ground.phase }, { on := 17, ground := Go.Ground.phase }, { on := 18, ground := Go.Ground.phase }, { on := 19, ground := Go.Ground.phase }], guard := Option.none }) (v := ?_) rfl (by kernel_rfl) (by kernel_rfl) (by kernel_rfl) (fun _ _ _ h => h) (Or.inl ⟨by rfl, ?_⟩) (by assumption) ?_
    rotate_left
    · (intro w hSw; (try dsimp only at hSw); go_simp; try with_reducible rfl)
    try simp only [Act.put, List.setIfInBounds_toArray, List.set_cons_zero, List.set_cons_succ]
    refine wpAnyH_done (by kernel_rfl) ?_ _
    go_wp2_with fail
    go_ret
    exact ⟨ret_bool HV.out, HB.out⟩
end Go.Proofs.Ytajjpaabkdgjbaa
