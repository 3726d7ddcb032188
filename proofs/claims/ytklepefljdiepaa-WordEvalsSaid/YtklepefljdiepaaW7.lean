import Derived.Test.YtklepefljdiepaaW6
import Derived.Test.YtklepefljdiepaaM3
import Derived.Laws.DeepNot64
namespace Go.Proofs.Ytklepefljdiepaa
open Go.RowKit

set_option maxHeartbeats 400000 in
theorem lowE_any (k a : Int) (w : World) (a0 : 0 ≤ a) :
    Calls Try.prog 18 #[.int .i64 k, .int .u64 a] w fun e w' => e = .returned (.tuple #[.int .u64 (if isW k = true then ((WM.low k.toNat a.toNat : Nat) : Int) else 0), .int .i64 (if isW k = true then 0 else 2)]) ∧ w = w' := by
  cases hk : isW k
  · go_enter Try.func18, Try.ntmps18
    go_wp2_with (go_at_call 39; refine (isWidth_any _ _).mono ?_; rintro e w' ⟨rfl, rfl⟩)
    go_ret2
    exact ⟨rfl, rfl⟩
  · have hw := isW_le hk
    go_enter Try.func18, Try.ntmps18
    go_wp2_with (first | (go_at_call 39; refine (isWidth_any _ _).mono ?_; rintro e w' ⟨rfl, rfl⟩) | (go_at_call 40; refine (low_any _ _ _ (by omega) (by omega) (by omega)).mono ?_; rintro e w' ⟨rfl, rfl⟩))
    go_ret2
    exact ⟨rfl, rfl⟩
set_option maxHeartbeats 400000 in
theorem sigE_any (k a : Int) (w : World) (a0 : 0 ≤ a) :
    Calls Try.prog 19 #[.int .i64 k, .int .u64 a] w fun e w' => e = .returned (.tuple #[.int .u64 (if isW k = true then ((WM.sig k.toNat a.toNat : Nat) : Int) else 0), .int .i64 (if isW k = true then 0 else 2)]) ∧ w = w' := by
  cases hk : isW k
  · go_enter Try.func19, Try.ntmps19
    go_wp2_with (go_at_call 39; refine (isWidth_any _ _).mono ?_; rintro e w' ⟨rfl, rfl⟩)
    go_ret2
    exact ⟨rfl, rfl⟩
  · have hw := isW_le hk
    go_enter Try.func19, Try.ntmps19
    go_wp2_with (first | (go_at_call 39; refine (isWidth_any _ _).mono ?_; rintro e w' ⟨rfl, rfl⟩) | (go_at_call 41; refine (sig_any _ _ _ (by omega) (by omega) (by omega)).mono ?_; rintro e w' ⟨rfl, rfl⟩))
    go_ret2
    exact ⟨rfl, rfl⟩
set_option maxRecDepth 100000 in
set_option maxHeartbeats 400000 in
theorem notE_any (k a : Int) (w : World) (a0 : 0 ≤ a) (a1 : a < 18446744073709551616) :
    Calls Try.prog 20 #[.int .i64 k, .int .u64 a] w fun e w' => e = .returned (.tuple #[.int .u64 (if isW k = true then ((WM.low k.toNat (WM.comp a.toNat) : Nat) : Int) else 0), .int .i64 (if isW k = true then 0 else 2)]) ∧ w = w' := by
  cases hk : isW k
  · go_enter Try.func20, Try.ntmps20
    go_wp2_with (go_at_call 39; refine (isWidth_any _ _).mono ?_; rintro e w' ⟨rfl, rfl⟩)
    go_ret2
    exact ⟨rfl, rfl⟩
  · have hw := isW_le hk
    obtain ⟨a, rfl⟩ := Int.eq_ofNat_of_zero_le a0
    have hx := WM.run_comp a (by omega)
    go_enter Try.func20, Try.ntmps20
    go_wp2_with (first | (go_at_call 39; refine (isWidth_any _ _).mono ?_; rintro e w' ⟨rfl, rfl⟩))
    refine (low_any _ _ _ (by omega) (by omega) (by omega)).mono ?_
    rintro e w' ⟨rfl, rfl⟩
    clear hx a1
    go_wp2
    go_ret2
    exact ⟨rfl, rfl⟩
set_option maxHeartbeats 800000 in
theorem negE_any (k a : Int) (w : World) (hk : isW k = true) (a0 : 0 ≤ a) (X : Nat) (F : WM.Fl) (hX : WM.doX 3 k.toNat 0 a.toNat false = X) (hF : WM.doF 3 k.toNat 0 a.toNat false = F) :
    Calls Try.prog 21 #[.int .i64 k, .int .u64 a] w fun e w' => e = .returned (.tuple #[.int .u64 (X : Int), .agg #[.bool F.c, .bool F.z, .bool F.s, .bool F.o, .bool F.p], .int .i64 0]) ∧ Below w.heap.size w w' := by
  have HD := Lib.hid (fun wx => do_any 3 k 0 a false false false false false wx hk (by decide) (by decide) (by decide) a0)
  rw [show Int.toNat 3 = 3 from rfl, show Int.toNat 0 = 0 from rfl, hX, hF] at HD
  clear hX hF
  go_enter Try.func21, Try.ntmps21
  go_wp2_with fail
  refine (HD.out _).mono ?_
  rintro e w1 ⟨rfl, hb1⟩
  have hs : w.heap.size < w1.heap.size := by have := hb1.size; simp at this; omega
  have hcw : ∀ o' v, (w.alloc (Obj.cells #[Value.bool false, Value.bool false, Value.bool false, Value.bool false, Value.bool false] 36)).cell? ⟨w.heap.size, o', none⟩ = some v → w1.cell? ⟨w.heap.size, o', none⟩ = some v := fun o' v h => by rw [hb1.cell (by simp)]; exact h
  have hfw : ∀ o', w1.frozen? ⟨w.heap.size, o', none⟩ = false := fun o' => by rw [hb1.frozen (by simp)]; go_simp
  have r0 := hcw 0 (.bool false) (by go_simp)
  have r1 := hcw 1 (.bool false) (by go_simp)
  have r2 := hcw 2 (.bool false) (by go_simp)
  have r3 := hcw 3 (.bool false) (by go_simp)
  have r4 := hcw 4 (.bool false) (by go_simp)
  clear hcw
  go_wp2_with fail
  refine bodyPost_ret (v := .tuple #[.int .u64 (X : Int), .agg #[.bool F.c, .bool F.z, .bool F.s, .bool F.o, .bool F.p], .int .i64 0]) (by simp [results, Try.results21, go_sem, r0, r1, r2, r3, r4]) rfl ⟨rfl, ?_⟩
  have hb0 : Below w.heap.size w w1 := ((Below.refl w.heap.size w).alloc (Nat.le_refl _) _).trans (hb1.mono (by simp))
  exact ((((hb0.setCell (by simp) _).setCell (by simp) _).setCell (by simp) _).setCell (by simp) _).setCell (by simp) _
set_option maxHeartbeats 800000 in
theorem negE_bad (k a : Int) (w : World) (hk : isW k = false) :
    Calls Try.prog 21 #[.int .i64 k, .int .u64 a] w fun e w' => e = .returned (.tuple #[.int .u64 0, .agg #[.bool false, .bool false, .bool false, .bool false, .bool false], .int .i64 2]) ∧ Below w.heap.size w w' := by
  go_enter Try.func21, Try.ntmps21
  go_wp2_with fail
  refine (do_bad _ _ _ _ _ _ _ _ _ _ (Or.inl hk)).mono ?_
  rintro e w1 ⟨rfl, hb1⟩
  have hs : w.heap.size < w1.heap.size := by have := hb1.size; simp at this; omega
  have hcw : ∀ o' v, (w.alloc (Obj.cells #[Value.bool false, Value.bool false, Value.bool false, Value.bool false, Value.bool false] 36)).cell? ⟨w.heap.size, o', none⟩ = some v → w1.cell? ⟨w.heap.size, o', none⟩ = some v := fun o' v h => by rw [hb1.cell (by simp)]; exact h
  have hfw : ∀ o', w1.frozen? ⟨w.heap.size, o', none⟩ = false := fun o' => by rw [hb1.frozen (by simp)]; go_simp
  have r0 := hcw 0 (.bool false) (by go_simp)
  have r1 := hcw 1 (.bool false) (by go_simp)
  have r2 := hcw 2 (.bool false) (by go_simp)
  have r3 := hcw 3 (.bool false) (by go_simp)
  have r4 := hcw 4 (.bool false) (by go_simp)
  clear hcw
  go_wp2_with fail
  refine bodyPost_ret (v := .tuple #[.int .u64 0, .agg #[.bool false, .bool false, .bool false, .bool false, .bool false], .int .i64 2]) (by simp [results, Try.results21, go_sem, r0, r1, r2, r3, r4]) rfl ⟨rfl, ?_⟩
  have hb0 : Below w.heap.size w w1 := ((Below.refl w.heap.size w).alloc (Nat.le_refl _) _).trans (hb1.mono (by simp))
  exact ((((hb0.setCell (by simp) _).setCell (by simp) _).setCell (by simp) _).setCell (by simp) _).setCell (by simp) _
def isC (c : Int) : Bool := decide (0 ≤ c) && decide (c ≤ 15)
set_option maxHeartbeats 400000 in
theorem isCond_any (c : Int) (w : World) :
    Calls Try.prog 53 #[.int .i64 c] w fun e w' => e = .returned (.bool (isC c)) ∧ w = w' := by
  by_cases h : 0 ≤ c
  · go_enter Try.func53, Try.ntmps53
    go_wp2
    go_ret
    exact ⟨ret_bool (by simp [isC, h]), rfl⟩
  · go_enter Try.func53, Try.ntmps53
    go_wp2
    go_ret
    exact ⟨ret_bool (by unfold isC; rw [show decide (0 ≤ c) = false from decide_eq_false (by omega)]; rfl), rfl⟩
set_option maxHeartbeats 800000 in
theorem holdsE_any (c : Int) (f1 f2 f3 f4 f5 : Bool) (w : World) (h : c = 0 ∨ c = 2 ∨ c = 4 ∨ c = 6 ∨ c = 8 ∨ c = 10 ∨ c = 12 ∨ c = 14) :
    Calls Try.prog 54 #[.int .i64 c, .agg #[.bool f1, .bool f2, .bool f3, .bool f4, .bool f5]] w fun e w' => e = .returned (.bool (WM.holdsE c.toNat ⟨f1, f2, f3, f4, f5⟩)) ∧ Below w.heap.size w w' := by
  rcases h with rfl | rfl | rfl | rfl | rfl | rfl | rfl | rfl
  all_goals
    cases f2
    all_goals
      go_enter Try.func54, Try.ntmps54
      go_wp2
      go_ret
      exact ⟨ret_bool rfl, (Below.refl _ _).alloc (Nat.le_refl _) _⟩
set_option maxHeartbeats 800000 in
theorem holds_any (c : Int) (f1 f2 f3 f4 f5 : Bool) (w : World) (c0 : 0 ≤ c) (c1 : c ≤ 15) :
    Calls Try.prog 31 #[.int .i64 c, .agg #[.bool f1, .bool f2, .bool f3, .bool f4, .bool f5]] w fun e w' => e = .returned (.tuple #[.bool (WM.holds c.toNat ⟨f1, f2, f3, f4, f5⟩), .int .i64 0]) ∧ Below w.heap.size w w' := by
  have hc : isC c = true := by simp [isC, c0, c1]
  obtain ⟨c, rfl⟩ := Int.eq_ofNat_of_zero_le c0
  go_enter Try.func31, Try.ntmps31
  go_wp2_with (go_at_call 53; refine (isCond_any _ _).mono ?_; rintro e w' ⟨rfl, rfl⟩)
  rw [show ((c : Int) - (c : Int) % 2) = ((c - c % 2 : Nat) : Int) from by omega]
  refine (holdsE_any _ _ _ _ _ _ _ (by omega)).mono ?_
  rintro e w1 ⟨rfl, hb1⟩
  rw [Int.toNat_natCast]
  go_wp2
  go_ret2
  refine ⟨?_, ((Below.refl _ _).alloc (Nat.le_refl _) _).trans (hb1.mono (by simp))⟩
  have e1 : ((c : Int) % 2 == 1) = (c % 2 == 1) := by rw [Bool.eq_iff_iff]; simp only [beq_iff_eq]; omega
  show Ending.returned (.tuple #[.bool (WM.holdsE (c - c % 2) ⟨f1, f2, f3, f4, f5⟩ != ((c : Int) % 2 == 1)), .int .i64 0]) = _
  rw [e1]
  rfl
set_option maxHeartbeats 800000 in
theorem holds_bad (c : Int) (f1 f2 f3 f4 f5 : Bool) (w : World) (hc : isC c = false) :
    Calls Try.prog 31 #[.int .i64 c, .agg #[.bool f1, .bool f2, .bool f3, .bool f4, .bool f5]] w fun e w' => e = .returned (.tuple #[.bool false, .int .i64 2]) ∧ Below w.heap.size w w' := by
  go_enter Try.func31, Try.ntmps31
  go_wp2_with (go_at_call 53; refine (isCond_any _ _).mono ?_; rintro e w' ⟨rfl, rfl⟩)
  go_ret2
  exact ⟨rfl, (Below.refl _ _).alloc (Nat.le_refl _) _⟩
set_option maxHeartbeats 800000 in
theorem turned_any (c : Int) (w : World) :
    Calls Try.prog 32 #[.int .i64 c] w fun e w' => e = .returned (.tuple #[.int .i64 (if isC c = true then c + 1 - 2 * (c % 2) else 0), .int .i64 (if isC c = true then 0 else 2)]) ∧ w = w' := by
  cases hc : isC c
  · go_enter Try.func32, Try.ntmps32
    go_wp2_with (go_at_call 53; refine (isCond_any _ _).mono ?_; rintro e w' ⟨rfl, rfl⟩)
    go_ret2
    exact ⟨rfl, rfl⟩
  · have hb : bits .xor .i64 c 1 = c + 1 - 2 * (c % 2) := by
      have h : 0 ≤ c ∧ c ≤ 15 := by simpa [isC] using hc
      have : c = 0 ∨ c = 1 ∨ c = 2 ∨ c = 3 ∨ c = 4 ∨ c = 5 ∨ c = 6 ∨ c = 7 ∨ c = 8 ∨ c = 9 ∨ c = 10 ∨ c = 11 ∨ c = 12 ∨ c = 13 ∨ c = 14 ∨ c = 15 := by omega
      clear hc h
      rcases this with rfl | rfl | rfl | rfl | rfl | rfl | rfl | rfl | rfl | rfl | rfl | rfl | rfl | rfl | rfl | rfl
      all_goals decide
    have HB := Lib.hid hb
    clear hb
    go_enter Try.func32, Try.ntmps32
    go_wp2_with (go_at_call 53; refine (isCond_any _ _).mono ?_; rintro e w' ⟨rfl, rfl⟩)
    go_ret2
    exact ⟨by rw [← HB.out]; rfl, rfl⟩
end Go.Proofs.Ytklepefljdiepaa
