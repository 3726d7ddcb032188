import Derived.Test.YtklepefljdiepaaW8
import Derived.Test.YtklepefljdiepaaM6
namespace Go.Proofs.Ytklepefljdiepaa
open Go.RowKit
theorem w_tmod (a n : Nat) : ((a : Int) / 2 ^ n).tmod 2 = ((a / 2 ^ n % 2 : Nat) : Int) := by
  rw [WM.w_div]; generalize a / 2 ^ n = q; rw [Int.tmod_eq_emod_of_nonneg (by omega)]; omega
theorem w_top' (k a : Nat) : (((a : Int) / 2 ^ (k - 1)).tmod 2 == 1) = WM.top k a := by
  rw [w_tmod]; unfold WM.top; rw [Bool.eq_iff_iff]; simp only [beq_iff_eq]; omega
theorem w_bits (o n j : Nat) (h : o + n % 2 * 2 ^ j < 18446744073709551616) : IntKind.u64.wrap ((o : Int) + IntKind.u64.wrap ((n : Int) % 2 * 2 ^ j)) = ((o + n % 2 * 2 ^ j : Nat) : Int) := by
  have e : ((n : Int) % 2 * 2 ^ j) = ((n % 2 * 2 ^ j : Nat) : Int) := by
    rw [Int.natCast_mul, Int.natCast_pow, Int.natCast_emod]; rfl
  rw [e, IntKind.wrap_u64, IntKind.wrap_u64]
  generalize n % 2 * 2 ^ j = q at *
  omega
set_option maxHeartbeats 400000 in
theorem mayW_any (k : Int) (w : World) : Calls Try.prog 22 #[.int .i64 k] w fun e w' => e = .returned (.bool (isW k)) ∧ w = w' := by
  by_cases h8 : k = 8
  · subst h8; go_enter Try.func22, Try.ntmps22; go_wp2; go_ret; exact ⟨rfl, rfl⟩
  by_cases h16 : k = 16
  · subst h16; go_enter Try.func22, Try.ntmps22; go_wp2; go_ret; exact ⟨rfl, rfl⟩
  by_cases h32 : k = 32
  · subst h32; go_enter Try.func22, Try.ntmps22; go_wp2; go_ret; exact ⟨rfl, rfl⟩
  by_cases h64 : k = 64
  · subst h64; go_enter Try.func22, Try.ntmps22; go_wp2; go_ret; exact ⟨rfl, rfl⟩
  have e8 : (k == 8) = false := beq_eq_false_iff_ne.2 h8
  have e16 : (k == 16) = false := beq_eq_false_iff_ne.2 h16
  have e32 : (k == 32) = false := beq_eq_false_iff_ne.2 h32
  have e64 : (k == 64) = false := beq_eq_false_iff_ne.2 h64
  have E := Lib.hid (show isW k = false by simp [isW, h8, h16, h32, h64])
  clear h8 h16 h32 h64
  go_enter Try.func22, Try.ntmps22; go_wp2; go_ret; exact ⟨ret_bool E.out.symm, rfl⟩
set_option maxHeartbeats 400000 in
theorem refLow_any (k a : Nat) (w : World) (hk : k = 8 ∨ k = 16 ∨ k = 32 ∨ k = 64) (ha : a < 18446744073709551616) :
    Calls Try.prog 24 #[.int .i64 k, .int .u64 a] w fun e w' => e = .returned (.int .u64 ((WM.low k a : Nat) : Int)) ∧ w = w' := by
  rcases hk with rfl | rfl | rfl | rfl
  all_goals
    go_enter Try.func24, Try.ntmps24
    go_wp2
    go_ret
    exact ⟨ret_int (by unfold WM.low; omega), rfl⟩
set_option maxHeartbeats 400000 in
theorem refTop_any (k a : Nat) (w : World) (h1 : 1 ≤ k) (hk : k ≤ 64) :
    Calls Try.prog 43 #[.int .i64 k, .int .u64 a] w fun e w' => e = .returned (.bool (WM.top k a)) ∧ w = w' := by
  have hw : IntKind.u64.wrap ((k : Int) - 1) = (k : Int) - 1 := by rw [IntKind.wrap_u64]; omega
  go_enter Try.func43, Try.ntmps43
  go_wp2
  go_ret
  exact ⟨ret_bool (w_top' k a), rfl⟩
set_option maxHeartbeats 800000 in
theorem refAdd_any (k a b : Nat) (c : Bool) (w : World) (hk : k ≤ 64) (_ha : a < 18446744073709551616) (_hb : b < 18446744073709551616) :
    Calls Try.prog 42 #[.int .i64 k, .int .u64 a, .int .u64 b, .bool c] w fun e w' => e = .returned (.tuple #[.int .u64 ((WM.aO a b (WM.one c) k : Nat) : Int), .bool (WM.aQ a b (WM.one c) k == 1)]) ∧ w = w' := by
  go_enter Try.func42, Try.ntmps42
  go_wp2
  go_loop [3, 10, 11] (fun q o i => ∃ j : Nat, j ≤ k ∧ i = .int .i64 j ∧ o = .int .u64 ((WM.aO a b (WM.one c) j : Nat) : Int) ∧ q = .bool (WM.aQ a b (WM.one c) j == 1)) (fun _ _ i => k - (intOf i).toNat)
  case atStart => exact ⟨0, Nat.zero_le _, rfl, by rw [(WM.aO_zero a b _).1]; rfl, by rw [(WM.aO_zero a b _).2]; cases c <;> rfl⟩
  case round =>
    obtain ⟨j, hj, rfl, rfl, rfl⟩ := hrel
    by_cases hlt : j < k
    · have hq := WM.aQ_le a b (WM.one c) j (WM.one_le c)
      obtain ⟨x, hx⟩ : ∃ x, x = a / 2 ^ j % 2 := ⟨_, rfl⟩
      obtain ⟨y, hy⟩ : ∃ y, y = b / 2 ^ j % 2 := ⟨_, rfl⟩
      have hx1 : x ≤ 1 := by omega
      have hy1 : y ≤ 1 := by omega
      have ex : ((a : Int) / 2 ^ j).tmod 2 = (x : Int) := by rw [w_tmod, ← hx]
      have ey : ((b : Int) / 2 ^ j).tmod 2 = (y : Int) := by rw [w_tmod, ← hy]
      have hs := WM.aO_succ a b (WM.one c) j
      rw [← hx, ← hy] at hs
      have HS := Lib.hid hs
      clear hs hx hy
      have hw : IntKind.u64.wrap (j : Int) = (j : Int) := by rw [IntKind.wrap_u64]; omega
      have hj64 : j < 64 := by omega
      by_cases hc : WM.aQ a b (WM.one c) j = 1
      · rw [show (WM.aQ a b (WM.one c) j == 1) = true from by simp [hc]]
        have HC := Lib.hid hc
        clear hc hq
        go_wp2
        have he := HS.out
        rw [HC.out] at he
        have hlt' := Nat.lt_of_lt_of_le (WM.aO_lt a b (WM.one c) (j + 1)) (WM.pow_le64 (show j + 1 ≤ 64 by omega))
        refine ⟨⟨j + 1, hlt, by go_num, ?_, ?_⟩, by simp [intOf]; omega⟩
        · rw [he.1] at hlt' ⊢
          exact congrArg _ (by rw [← w_bits _ _ _ hlt']; rfl)
        · rw [he.2]
          exact congrArg Value.bool (by rw [Bool.eq_iff_iff]; simp only [decide_eq_true_eq, beq_iff_eq]; omega)
      · have h0 : WM.aQ a b (WM.one c) j = 0 := by omega
        rw [show (WM.aQ a b (WM.one c) j == 1) = false from by simp [h0]]
        have HC := Lib.hid h0
        clear hc hq h0
        go_wp2
        have he := HS.out
        rw [HC.out] at he
        have hlt' := Nat.lt_of_lt_of_le (WM.aO_lt a b (WM.one c) (j + 1)) (WM.pow_le64 (show j + 1 ≤ 64 by omega))
        refine ⟨⟨j + 1, hlt, by go_num, ?_, ?_⟩, by simp [intOf]; omega⟩
        · rw [he.1] at hlt' ⊢
          exact congrArg _ (by rw [← w_bits _ _ _ hlt']; rfl)
        · rw [he.2]
          exact congrArg Value.bool (by rw [Bool.eq_iff_iff]; simp only [decide_eq_true_eq, beq_iff_eq]; omega)
    · obtain rfl : j = k := by omega
      clear hlt
      go_wp2
      go_ret2
      exact ⟨rfl, rfl⟩
end Go.Proofs.Ytklepefljdiepaa
