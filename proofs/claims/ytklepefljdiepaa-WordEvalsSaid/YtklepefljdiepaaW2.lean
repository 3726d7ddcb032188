import Derived.Test.YtklepefljdiepaaW1
namespace Go.Proofs.Ytklepefljdiepaa
open Go.RowKit

theorem add64_any (a b c : Int) (w : World) (a0 : 0 ≤ a) (b0 : 0 ≤ b) (c0 : 0 ≤ c) (c1 : c ≤ 1) :
    (callFunc 95 #[.int .u64 a, .int .u64 b, .int .u64 c]).run Try.prog w =
      .ok (.value (.tuple #[.int .u64 ((WM.addLo a.toNat b.toNat c.toNat : Nat) : Int), .int .u64 ((WM.addHi a.toNat b.toNat c.toNat : Nat) : Int)])) w := by
  rw [run_callFunc_extern Try.func95 (by kernel_rfl) (by kernel_rfl) (by kernel_rfl) (e := add64Entry) (by kernel_rfl), run_add64 a b c a0 b0 c0 c1 w]
  obtain ⟨a, rfl⟩ := Int.eq_ofNat_of_zero_le a0
  obtain ⟨b, rfl⟩ := Int.eq_ofNat_of_zero_le b0
  obtain ⟨c, rfl⟩ := Int.eq_ofNat_of_zero_le c0
  simp only [Result.andThen]
  rfl
theorem sub64_any (a b c : Int) (w : World) (a0 : 0 ≤ a) (b0 : 0 ≤ b) (b1 : b < 18446744073709551616) (c0 : 0 ≤ c) (c1 : c ≤ 1) :
    (callFunc 96 #[.int .u64 a, .int .u64 b, .int .u64 c]).run Try.prog w =
      .ok (.value (.tuple #[.int .u64 ((WM.subLo a.toNat b.toNat c.toNat : Nat) : Int), .int .u64 ((WM.subHi a.toNat b.toNat c.toNat : Nat) : Int)])) w := by
  obtain ⟨a, rfl⟩ := Int.eq_ofNat_of_zero_le a0
  obtain ⟨b, rfl⟩ := Int.eq_ofNat_of_zero_le b0
  obtain ⟨c, rfl⟩ := Int.eq_ofNat_of_zero_le c0
  rw [run_callFunc_extern Try.func96 (by kernel_rfl) (by kernel_rfl) (by kernel_rfl) (e := sub64Entry) (by kernel_rfl), run_sub64 a b c (by omega) w, WM.subLo_eq (by omega) (by omega)]
  rfl
set_option maxHeartbeats 400000 in
theorem add_any (k a b c : Int) (w : World) (k0 : 1 ≤ k) (k1 : k ≤ 64) (a0 : 0 ≤ a) (a1 : a < 18446744073709551616) (b0 : 0 ≤ b) (b1 : b < 18446744073709551616) (c0 : 0 ≤ c) (c1 : c ≤ 1) :
    Calls Try.prog 59 #[.int .i64 k, .int .u64 a, .int .u64 b, .int .u64 c] w fun e w' => e = .returned (.tuple #[.int .u64 ((WM.addX k.toNat a.toNat b.toNat c.toNat : Nat) : Int), .bool (WM.addC k.toNat a.toNat b.toNat c.toNat), .bool (WM.addO k.toNat a.toNat b.toNat c.toNat)]) ∧ w = w' := by
  have h95 := fun wx => add64_any a b c wx a0 b0 c0 c1
  have hl := WM.low_lt64 (k := k.toNat) (WM.addLo a.toNat b.toNat c.toNat) (by omega)
  go_enter Try.func59, Try.ntmps59
  go_wp2_with (first | (go_at_call 40; refine (low_any _ _ _ (by omega) (by omega) (by omega)).mono ?_; rintro e w' ⟨rfl, rfl⟩) | (go_at_call 67; refine (top_any _ _ _ (by omega) (by omega) (by omega) (by omega)).mono ?_; rintro e w' ⟨rfl, rfl⟩))
  all_goals
    go_ret3
    exact ⟨ret_ibb (WM.addX_eq _ _ _ _) (by unfold WM.addC WM.addX; rw [Bool.eq_iff_iff]; simp [*] <;> omega) (by unfold WM.addO WM.addX; rw [Bool.eq_iff_iff]; simp [*]), rfl⟩
set_option maxHeartbeats 400000 in
theorem sub_any (k a b c : Int) (w : World) (k0 : 1 ≤ k) (k1 : k ≤ 64) (a0 : 0 ≤ a) (a1 : a < 18446744073709551616) (b0 : 0 ≤ b) (b1 : b < 18446744073709551616) (c0 : 0 ≤ c) (c1 : c ≤ 1) :
    Calls Try.prog 61 #[.int .i64 k, .int .u64 a, .int .u64 b, .int .u64 c] w fun e w' => e = .returned (.tuple #[.int .u64 ((WM.subX k.toNat a.toNat b.toNat c.toNat : Nat) : Int), .bool (WM.subC a.toNat b.toNat c.toNat), .bool (WM.subO k.toNat a.toNat b.toNat c.toNat)]) ∧ w = w' := by
  have h95 := fun wx => sub64_any a b c wx a0 b0 b1 c0 c1
  have hl := WM.low_lt64 (k := k.toNat) (WM.subLo a.toNat b.toNat c.toNat) (by omega)
  go_enter Try.func61, Try.ntmps61
  go_wp2_with (first | (go_at_call 40; refine (low_any _ _ _ (by omega) (by omega) (by omega)).mono ?_; rintro e w' ⟨rfl, rfl⟩) | (go_at_call 67; refine (top_any _ _ _ (by omega) (by omega) (by omega) (by omega)).mono ?_; rintro e w' ⟨rfl, rfl⟩))
  all_goals
    go_ret3
    exact ⟨ret_ibb (WM.subX_eq _ _ _ _) (WM.subC_eq _ _ _) (by unfold WM.subO WM.subX; rw [Bool.eq_iff_iff]; simp [*]), rfl⟩
end Go.Proofs.Ytklepefljdiepaa
