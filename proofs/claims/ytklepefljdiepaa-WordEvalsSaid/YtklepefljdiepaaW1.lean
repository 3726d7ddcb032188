import Derived.Test.YtklepefljdiepaaShelf
import Derived.Test.YtklepefljdiepaaChecked
import Derived.Shelf.Spec.BitsCarry
import Derived.WalkSpells
import Derived.WalkLawsBesides
import Derived.Test.YtklepefljdiepaaM1
namespace Go.Proofs.Ytklepefljdiepaa
open Go.RowKit

set_option maxHeartbeats 400000 in
theorem low_any (k a : Int) (w : World) (k0 : 0 ≤ k) (k1 : k ≤ 64) (h0 : 0 ≤ a) :
    Calls Try.prog 40 #[.int .i64 k, .int .u64 a] w fun e w' => e = .returned (.int .u64 ((WM.low k.toNat a.toNat : Nat) : Int)) ∧ w = w' := by
  obtain ⟨k, rfl⟩ := Int.eq_ofNat_of_zero_le k0
  obtain ⟨a, rfl⟩ := Int.eq_ofNat_of_zero_le h0
  go_enter Try.func40, Try.ntmps40
  go_wp2
  go_ret
  exact ⟨ret_int (WM.w_low a (by omega)), rfl⟩
set_option maxHeartbeats 400000 in
theorem top_any (k a : Int) (w : World) (k0 : 1 ≤ k) (k1 : k ≤ 64) (h0 : 0 ≤ a) (h1 : a < 18446744073709551616) :
    Calls Try.prog 67 #[.int .i64 k, .int .u64 a] w fun e w' => e = .returned (.bool (WM.top k.toNat a.toNat)) ∧ w = w' := by
  obtain ⟨k, rfl⟩ := Int.eq_ofNat_of_zero_le (show 0 ≤ k by omega)
  obtain ⟨a, rfl⟩ := Int.eq_ofNat_of_zero_le h0
  go_enter Try.func67, Try.ntmps67
  go_wp2
  go_ret
  exact ⟨ret_bool (WM.w_top a (by omega)), rfl⟩
set_option maxHeartbeats 400000 in
theorem sig_any (k a : Int) (w : World) (k0 : 1 ≤ k) (k1 : k ≤ 64) (h0 : 0 ≤ a) :
    Calls Try.prog 41 #[.int .i64 k, .int .u64 a] w fun e w' => e = .returned (.int .u64 ((WM.sig k.toNat a.toNat : Nat) : Int)) ∧ w = w' := by
  obtain ⟨k, rfl⟩ := Int.eq_ofNat_of_zero_le (show 0 ≤ k by omega)
  obtain ⟨a, rfl⟩ := Int.eq_ofNat_of_zero_le h0
  go_enter Try.func41, Try.ntmps41
  go_wp2
  go_ret
  exact ⟨ret_int (WM.w_sig a (by omega) (by omega)), rfl⟩
set_option maxHeartbeats 400000 in
theorem signs_any (a : Int) (w : World) (h0 : 0 ≤ a) (h1 : a < 18446744073709551616) :
    Calls Try.prog 98 #[.int .u64 a] w fun e w' => e = .returned (.int .u64 ((WM.sgn a.toNat : Nat) : Int)) ∧ w = w' := by
  obtain ⟨a, rfl⟩ := Int.eq_ofNat_of_zero_le h0
  go_enter Try.func98, Try.ntmps98
  go_wp2
  go_ret
  exact ⟨ret_int (WM.w_signs a (by omega)), rfl⟩
def isW (k : Int) : Bool := k == 8 || k == 16 || k == 32 || k == 64
set_option maxHeartbeats 400000 in
theorem isWidth_any (k : Int) (w : World) :
    Calls Try.prog 39 #[.int .i64 k] w fun e w' => e = .returned (.bool (isW k)) ∧ w = w' := by
  go_enter Try.func39, Try.ntmps39
  go_wp2
  all_goals
    go_ret
    exact ⟨ret_bool (by unfold isW; simp [*]), rfl⟩
set_option maxHeartbeats 400000 in
theorem oneIf_any (b : Bool) (w : World) :
    Calls Try.prog 48 #[.bool b] w fun e w' => e = .returned (.int .u64 ((WM.one b : Nat) : Int)) ∧ w = w' := by
  cases b
  all_goals
    go_enter Try.func48, Try.ntmps48
    go_wp2
    go_ret
    exact ⟨rfl, rfl⟩
set_option maxHeartbeats 400000 in
theorem wide_any (a b : Int) (w : World) (a0 : 0 ≤ a) (a1 : a < 18446744073709551616) (b0 : 0 ≤ b) (b1 : b < 18446744073709551616) :
    Calls Try.prog 26 #[.int .u64 a, .int .u64 b] w fun e w' => e = .returned (.tuple #[.int .u64 ((WM.wideHi a.toNat b.toNat : Nat) : Int), .int .u64 ((WM.wideLo a.toNat b.toNat : Nat) : Int)]) ∧ w = w' := by
  obtain ⟨a, rfl⟩ := Int.eq_ofNat_of_zero_le a0
  obtain ⟨b, rfl⟩ := Int.eq_ofNat_of_zero_le b0
  have h46 : ∀ w, Calls Try.prog 46 #[.int .u64 a, .int .u64 b] w fun e w' => e = .returned (.tuple #[.int .u64 ((WM.wideHi a b : Nat) : Int), .int .u64 ((WM.wideLo a b : Nat) : Int)]) ∧ w' = w := fun w => Try.bits_Mul64 a b (by omega) (by omega) w
  go_enter Try.func26, Try.ntmps26
  go_wp2_with (go_at_call 46; refine (h46 _).mono ?_; rintro e w' ⟨rfl, rfl⟩)
  go_ret2
  exact ⟨rfl, rfl⟩
set_option maxHeartbeats 400000 in
theorem wideSigned_any (a b : Int) (w : World) (a0 : 0 ≤ a) (a1 : a < 18446744073709551616) (b0 : 0 ≤ b) (b1 : b < 18446744073709551616) :
    Calls Try.prog 97 #[.int .u64 a, .int .u64 b] w fun e w' => e = .returned (.tuple #[.int .u64 ((WM.wsHi a.toNat b.toNat : Nat) : Int), .int .u64 ((WM.wideLo a.toNat b.toNat : Nat) : Int)]) ∧ w = w' := by
  obtain ⟨a, rfl⟩ := Int.eq_ofNat_of_zero_le a0
  obtain ⟨b, rfl⟩ := Int.eq_ofNat_of_zero_le b0
  go_enter Try.func97, Try.ntmps97
  go_wp2_with (first | (go_at_call 26; refine (wide_any _ _ _ a0 a1 b0 b1).mono ?_; rintro e w' ⟨rfl, rfl⟩) | (go_at_call 98; refine (signs_any _ _ (by omega) (by omega)).mono ?_; rintro e w' ⟨rfl, rfl⟩))
  go_ret2
  exact ⟨ret_ii (WM.w_ws a b (by omega) (by omega)) rfl, rfl⟩
set_option maxHeartbeats 400000 in
theorem mul_any (k a b : Int) (w : World) (k0 : 1 ≤ k) (k1 : k ≤ 64) (a0 : 0 ≤ a) (b0 : 0 ≤ b) :
    Calls Try.prog 66 #[.int .i64 k, .int .u64 a, .int .u64 b] w fun e w' => e = .returned (.tuple #[.int .u64 ((WM.mulX k.toNat a.toNat b.toNat : Nat) : Int), .bool (WM.mulC k.toNat a.toNat b.toNat), .bool (WM.mulC k.toNat a.toNat b.toNat)]) ∧ w = w' := by
  have hk : k.toNat ≤ 64 := by omega
  have s1 := WM.sig_lt a.toNat hk
  have s2 := WM.sig_lt b.toNat hk
  have s3 := WM.sig_lt (WM.low k.toNat (WM.wideLo (WM.sig k.toNat a.toNat) (WM.sig k.toNat b.toNat))) hk
  go_enter Try.func66, Try.ntmps66
  go_wp2_with (first | (go_at_call 41; refine (sig_any _ _ _ (by omega) (by omega) (by omega)).mono ?_; rintro e w' ⟨rfl, rfl⟩) | (go_at_call 40; refine (low_any _ _ _ (by omega) (by omega) (by omega)).mono ?_; rintro e w' ⟨rfl, rfl⟩) | (go_at_call 97; refine (wideSigned_any _ _ _ (by omega) (by omega) (by omega) (by omega)).mono ?_; rintro e w' ⟨rfl, rfl⟩) | (go_at_call 98; refine (signs_any _ _ (by omega) (by omega)).mono ?_; rintro e w' ⟨rfl, rfl⟩))
  all_goals
    go_ret3
    exact ⟨ret_ibb rfl (by unfold WM.mulC WM.mulX; rw [Bool.eq_iff_iff]; simp [*] <;> omega) (by unfold WM.mulC WM.mulX; rw [Bool.eq_iff_iff]; simp [*] <;> omega), rfl⟩
end Go.Proofs.Ytklepefljdiepaa
