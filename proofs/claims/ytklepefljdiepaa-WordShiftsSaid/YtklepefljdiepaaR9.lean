/- The document's shift by one bit. -/
import Derived.Test.YtklepefljdiepaaR2
import Derived.Test.YtklepefljdiepaaM8
namespace Go.Proofs.Ytklepefljdiepaa
open Go.RowKit
theorem mod_one (a : Nat) : ((a : Int) % 2 == 1) = (a % 2 == 1) := by rw [Bool.eq_iff_iff]; simp only [beq_iff_eq]; omega
set_option maxHeartbeats 800000 in
theorem step1 (k a L : Nat) (t : Bool) (w : World)
    (CT : ∀ w, Calls Try.prog 43 #[.int .i64 k, .int .u64 a] w fun e w' => e = .returned (.bool t) ∧ w = w')
    (CL : ∀ w, Calls Try.prog 24 #[.int .i64 k, .int .u64 ((a * 2 % 18446744073709551616 : Nat) : Int)] w fun e w' => e = .returned (.int .u64 (L : Int)) ∧ w = w') :
    Calls Try.prog 52 #[.int .i64 1, .int .i64 k, .int .u64 a] w fun e w' => e = .returned (.tuple #[.int .u64 ((L : Int)), .bool t]) ∧ w = w' := by
  have hw : IntKind.u64.wrap ((a : Int) * 2) = ((a * 2 % 18446744073709551616 : Nat) : Int) := by rw [IntKind.wrap_u64]; omega
  have CT' := Lib.hid CT
  have CL' := Lib.hid CL
  clear CT CL
  go_enter Try.func52, Try.ntmps52
  go_wp2_with fail
  refine (CT'.out _).mono ?_
  rintro e w' ⟨rfl, rfl⟩
  go_wp2_with fail
  refine (CL'.out _).mono ?_
  rintro e w' ⟨rfl, rfl⟩
  go_wp2_with fail
  go_ret2
  exact ⟨rfl, rfl⟩
set_option maxHeartbeats 800000 in
theorem step2 (k a : Nat) (q t : Bool) (w : World) (ha : a < 18446744073709551616) (hq : ((a : Int) % 2 == 1) = q)
    (CT : ∀ w, Calls Try.prog 43 #[.int .i64 k, .int .u64 a] w fun e w' => e = .returned (.bool t) ∧ w = w') :
    Calls Try.prog 52 #[.int .i64 2, .int .i64 k, .int .u64 a] w fun e w' => e = .returned (.tuple #[.int .u64 ((a : Int) / 2), .bool q]) ∧ w = w' := by
  have hd : IntKind.u64.wrap ((a : Int) / 2) = (a : Int) / 2 := by rw [IntKind.wrap_u64]; omega
  have CT' := Lib.hid CT
  clear ha
  clear CT
  go_enter Try.func52, Try.ntmps52
  go_wp2_with fail
  refine (CT'.out _).mono ?_
  rintro e w' ⟨rfl, rfl⟩
  go_wp2_with fail
  go_ret2
  exact ⟨rfl, rfl⟩
set_option maxHeartbeats 800000 in
theorem step3 (k a H : Nat) (q t : Bool) (w : World) (ha : a < 18446744073709551616) (hq : ((a : Int) % 2 == 1) = q) (hH : IntKind.u64.wrap ((2 : Int) ^ (k - 1)) = (H : Int)) (hs : a / 2 + H < 18446744073709551616) (h1 : 1 ≤ k) (hk : k ≤ 64)
    (CT : ∀ w, Calls Try.prog 43 #[.int .i64 k, .int .u64 a] w fun e w' => e = .returned (.bool t) ∧ w = w') :
    Calls Try.prog 52 #[.int .i64 3, .int .i64 k, .int .u64 a] w fun e w' => e = .returned (.tuple #[.int .u64 (if t = true then (a : Int) / 2 + (H : Int) else (a : Int) / 2), .bool q]) ∧ w = w' := by
  have hd : IntKind.u64.wrap ((a : Int) / 2) = (a : Int) / 2 := by rw [IntKind.wrap_u64]; omega
  have hw : IntKind.u64.wrap ((k : Int) - 1) = (k : Int) - 1 := by rw [IntKind.wrap_u64]; omega
  have hw2 : IntKind.u64.wrap ((a : Int) / 2 + (H : Int)) = (a : Int) / 2 + (H : Int) := by rw [IntKind.wrap_u64]; omega
  have CT' := Lib.hid CT
  clear ha
  clear CT hs
  cases t <;> cases q
  all_goals
    go_enter Try.func52, Try.ntmps52
    go_wp2_with fail
    refine (CT'.out _).mono ?_
    rintro e w' ⟨rfl, rfl⟩
    go_wp2_with fail
    go_ret2
    exact ⟨rfl, rfl⟩
set_option maxHeartbeats 800000 in
theorem step4 (k a L : Nat) (t : Bool) (w : World) (hs : L + 1 < 18446744073709551616)
    (CT : ∀ w, Calls Try.prog 43 #[.int .i64 k, .int .u64 a] w fun e w' => e = .returned (.bool t) ∧ w = w')
    (CL : ∀ w, Calls Try.prog 24 #[.int .i64 k, .int .u64 ((a * 2 % 18446744073709551616 : Nat) : Int)] w fun e w' => e = .returned (.int .u64 (L : Int)) ∧ w = w') :
    Calls Try.prog 52 #[.int .i64 4, .int .i64 k, .int .u64 a] w fun e w' => e = .returned (.tuple #[.int .u64 (if t = true then (L : Int) + 1 else (L : Int)), .bool t]) ∧ w = w' := by
  have hw : IntKind.u64.wrap ((a : Int) * 2) = ((a * 2 % 18446744073709551616 : Nat) : Int) := by rw [IntKind.wrap_u64]; omega
  have hw2 : IntKind.u64.wrap ((L : Int) + 1) = (L : Int) + 1 := by rw [IntKind.wrap_u64]; omega
  have CT' := Lib.hid CT
  have CL' := Lib.hid CL
  clear CT CL hs
  cases t
  all_goals
    go_enter Try.func52, Try.ntmps52
    go_wp2_with fail
    refine (CT'.out _).mono ?_
    rintro e w' ⟨rfl, rfl⟩
    go_wp2_with fail
    refine (CL'.out _).mono ?_
    rintro e w' ⟨rfl, rfl⟩
    go_wp2_with fail
    go_ret2
    exact ⟨rfl, rfl⟩
set_option maxHeartbeats 800000 in
theorem step5 (k a H : Nat) (q t : Bool) (w : World) (ha : a < 18446744073709551616) (hq : ((a : Int) % 2 == 1) = q) (hH : IntKind.u64.wrap ((2 : Int) ^ (k - 1)) = (H : Int)) (hs : a / 2 + H < 18446744073709551616) (h1 : 1 ≤ k) (hk : k ≤ 64)
    (CT : ∀ w, Calls Try.prog 43 #[.int .i64 k, .int .u64 a] w fun e w' => e = .returned (.bool t) ∧ w = w') :
    Calls Try.prog 52 #[.int .i64 5, .int .i64 k, .int .u64 a] w fun e w' => e = .returned (.tuple #[.int .u64 (if q = true then (a : Int) / 2 + (H : Int) else (a : Int) / 2), .bool q]) ∧ w = w' := by
  have hd : IntKind.u64.wrap ((a : Int) / 2) = (a : Int) / 2 := by rw [IntKind.wrap_u64]; omega
  have hw : IntKind.u64.wrap ((k : Int) - 1) = (k : Int) - 1 := by rw [IntKind.wrap_u64]; omega
  have hw2 : IntKind.u64.wrap ((a : Int) / 2 + (H : Int)) = (a : Int) / 2 + (H : Int) := by rw [IntKind.wrap_u64]; omega
  have CT' := Lib.hid CT
  clear ha
  clear CT hs
  cases q
  all_goals
    go_enter Try.func52, Try.ntmps52
    go_wp2_with fail
    refine (CT'.out _).mono ?_
    rintro e w' ⟨rfl, rfl⟩
    go_wp2_with fail
    go_ret2
    exact ⟨rfl, rfl⟩
theorem refStep_any (op k a : Nat) (w : World) (h1 : 1 ≤ op) (h5 : op ≤ 5) (hk : k = 8 ∨ k = 16 ∨ k = 32 ∨ k = 64) (ha : a < 2 ^ k) :
    Calls Try.prog 52 #[.int .i64 op, .int .i64 k, .int .u64 a] w fun e w' => e = .returned (.tuple #[.int .u64 ((WM.stX op k a : Nat) : Int), .bool (WM.stB op k a)]) ∧ w = w' := by
  have k1 : 1 ≤ k := by omega
  have k64 : k ≤ 64 := by omega
  have hle := WM.pow_le64 k64
  have ha64 : a < 18446744073709551616 := by omega
  have hx := WM.stX_lt h1 h5 k1 k64 ha
  have hH : 2 ^ (k - 1) < 18446744073709551616 := by
    have := WM.pow_half k1; have := Nat.two_pow_pos (k - 1); omega
  have hHw : IntKind.u64.wrap ((2 : Int) ^ (k - 1)) = ((2 ^ (k - 1) : Nat) : Int) := by
    rw [IntKind.wrap_u64, show ((2 : Int) ^ (k - 1)) = ((2 ^ (k - 1) : Nat) : Int) by rw [Int.natCast_pow]; rfl]; clear hle hx ha; generalize 2 ^ (k - 1) = H at *; omega
  have hs : a / 2 + 2 ^ (k - 1) < 18446744073709551616 := by
    have := WM.pow_half k1; omega
  have CT := fun w => refTop_any k a w k1 k64
  have CL := fun w => refLow_any k (a * 2 % 18446744073709551616) w hk (Nat.mod_lt _ (by decide))
  have : op = 1 ∨ op = 2 ∨ op = 3 ∨ op = 4 ∨ op = 5 := by omega
  rcases this with rfl | rfl | rfl | rfl | rfl
  · exact step1 k a _ _ w CT CL
  · exact step2 k a _ _ w ha64 (mod_one a) CT
  · refine (step3 k a _ _ _ w ha64 (mod_one a) hHw hs k1 k64 CT).mono ?_
    rintro e w' ⟨rfl, rfl⟩
    refine ⟨?_, rfl⟩
    show Ending.returned (.tuple #[.int .u64 _, .bool _]) = Ending.returned (.tuple #[.int .u64 ((a / 2 + (if WM.top k a = true then 2 ^ (k - 1) else 0) : Nat) : Int), .bool (a % 2 == 1)])
    cases WM.top k a <;> simp
  · refine (step4 k a _ _ w ?_ CT CL).mono ?_
    · have := WM.low_lt k (a * 2 % 18446744073709551616)
      rw [WM.low_dbl _ k64, WM.pow_half k1, Nat.mul_comm a 2, Nat.mul_mod_mul_left]
      have := Nat.mod_lt a (Nat.two_pow_pos (k - 1))
      have := WM.pow_half k1
      omega
    rintro e w' ⟨rfl, rfl⟩
    refine ⟨?_, rfl⟩
    show Ending.returned (.tuple #[.int .u64 _, .bool _]) = Ending.returned (.tuple #[.int .u64 ((WM.low k (a * 2 % 18446744073709551616) + WM.one (WM.top k a) : Nat) : Int), .bool (WM.top k a)])
    cases WM.top k a <;> simp [WM.one]
  · refine (step5 k a _ _ _ w ha64 (mod_one a) hHw hs k1 k64 CT).mono ?_
    rintro e w' ⟨rfl, rfl⟩
    refine ⟨?_, rfl⟩
    show Ending.returned (.tuple #[.int .u64 _, .bool _]) = Ending.returned (.tuple #[.int .u64 ((a / 2 + (if a % 2 = 1 then 2 ^ (k - 1) else 0) : Nat) : Int), .bool (a % 2 == 1)])
    by_cases c : a % 2 = 1 <;> simp [c]
end Go.Proofs.Ytklepefljdiepaa
