/- A word's bytes. No program in sight. -/
import Derived.WalkKit
import Derived.Laws.BitsAllLaws
namespace Go.Proofs.Ytajjpaabkdgjbaa
open Go.RowKit

def byteOf (v i : Nat) : Nat := v / 2 ^ (i * 8) % 256
def setByte (v i x : Nat) : Nat := (v &&& (18446744073709551615 - 255 * 2 ^ (i * 8))) ||| x * 2 ^ (i * 8)

theorem byte_bit (v i t : Nat) : (byteOf v i).testBit t = (decide (t < 8) && v.testBit (i * 8 + t)) := by
  unfold byteOf
  rw [show (256 : Nat) = 2 ^ 8 by decide, Nat.testBit_mod_two_pow, Nat.testBit_div_two_pow, Nat.add_comm t]
theorem full_bit (i n : Nat) (hi : i < 8) : (18446744073709551615 - 255 * 2 ^ (i * 8)).testBit n = (decide (n < 64) && !(decide (i * 8 ≤ n) && decide (n < i * 8 + 8))) := by
  have h1 : 255 * 2 ^ (i * 8) < 2 ^ 64 := by
    have : i = 0 ∨ i = 1 ∨ i = 2 ∨ i = 3 ∨ i = 4 ∨ i = 5 ∨ i = 6 ∨ i = 7 := by omega
    rcases this with rfl | rfl | rfl | rfl | rfl | rfl | rfl | rfl <;> decide
  rw [show 18446744073709551615 - 255 * 2 ^ (i * 8) = 2 ^ 64 - (255 * 2 ^ (i * 8) + 1) by omega, Nat.testBit_two_pow_sub_succ h1]
  congr 1
  rw [show (255 : Nat) * 2 ^ (i * 8) = 255 <<< (i * 8) by rw [Nat.shiftLeft_eq], Nat.testBit_shiftLeft]
  by_cases h : i * 8 ≤ n
  · simp only [ge_iff_le, h, decide_true, Bool.true_and]
    rw [show (255 : Nat) = 2 ^ 8 - 1 by decide, Nat.testBit_two_pow_sub_one]
    congr 1
    rw [Bool.eq_iff_iff]; simp; omega
  · simp [h]
theorem set_bit (v i x n : Nat) (hi : i < 8) (hx : x < 256) : (setByte v i x).testBit n = if i * 8 ≤ n ∧ n < i * 8 + 8 then x.testBit (n - i * 8) else (decide (n < 64) && v.testBit n) := by
  unfold setByte
  rw [Nat.testBit_or, Nat.testBit_and, full_bit i n hi, ← Nat.shiftLeft_eq, Nat.testBit_shiftLeft]
  split
  · rename_i h
    simp [h.1, h.2]
  · rename_i h
    by_cases h1 : i * 8 ≤ n
    · have h2 : ¬ n < i * 8 + 8 := fun h2 => h ⟨h1, h2⟩
      have hb : x.testBit (n - i * 8) = false := Nat.testBit_lt_two_pow (Nat.lt_of_lt_of_le hx (by rw [show (256 : Nat) = 2 ^ 8 by decide]; exact Nat.pow_le_pow_right (by decide) (by omega)))
      simp [h1, h2, hb, Bool.and_comm]
    · simp [h1, Bool.and_comm]
theorem set_lt (v i x : Nat) (hi : i < 8) (hx : x < 256) (_hv : v < 18446744073709551616) : setByte v i x < 18446744073709551616 := by
  refine Nat.lt_pow_two_of_testBit (n := 64) _ fun n hn => ?_
  rw [set_bit v i x n hi hx, if_neg (by omega)]
  simp; omega
theorem byte_set (v i x k : Nat) (hi : i < 8) (hk : k < 8) (hx : x < 256) : byteOf (setByte v i x) k = if k = i then x else byteOf v k := by
  refine Nat.eq_of_testBit_eq fun t => ?_
  rw [byte_bit]
  by_cases ht : t < 8
  · rw [set_bit v i x _ hi hx]
    by_cases e : k = i
    · subst e
      rw [if_pos (by omega), if_pos rfl]
      simp [ht]
    · rw [if_neg (by omega), if_neg e, byte_bit]
      have : k * 8 + t < 64 := by omega
      simp [ht, this]
  · have h0 : (if k = i then x else byteOf v k).testBit t = false := by
      refine Nat.testBit_lt_two_pow (Nat.lt_of_lt_of_le (m := 256) ?_ (by rw [show (256 : Nat) = 2 ^ 8 by decide]; exact Nat.pow_le_pow_right (by decide) (by omega)))
      split
      · exact hx
      · unfold byteOf; omega
    rw [h0]; simp [ht]
theorem bytes_eq {v w : Nat} (hv : v < 18446744073709551616) (hw : w < 18446744073709551616) (h : ∀ i, i < 8 → byteOf v i = byteOf w i) : v = w := by
  refine Nat.eq_of_testBit_eq fun n => ?_
  by_cases hn : n < 64
  · have h1 := congrArg (fun z => z.testBit (n % 8)) (h (n / 8) (by omega))
    simp only [byte_bit] at h1
    have h2 : n % 8 < 8 := by omega
    rw [show n / 8 * 8 + n % 8 = n by omega] at h1
    simpa [h2] using h1
  · rw [Nat.testBit_lt_two_pow (Nat.lt_of_lt_of_le hv (by rw [show (18446744073709551616 : Nat) = 2 ^ 64 by decide]; exact Nat.pow_le_pow_right (by decide) (by omega))), Nat.testBit_lt_two_pow (Nat.lt_of_lt_of_le hw (by rw [show (18446744073709551616 : Nat) = 2 ^ 64 by decide]; exact Nat.pow_le_pow_right (by decide) (by omega)))]
theorem byte_lt (v i : Nat) : byteOf v i < 256 := by unfold byteOf; omega

/-- the program's own way to set a byte -/
theorem set_is (v i x : Nat) (hi : i < 8) (hx : x < 256) (hv : v < 18446744073709551616) :
    bits .or .u64 (bits .andNot .u64 (v : Int) (IntKind.u64.wrap (255 * 2 ^ (i * 8)))) (IntKind.u64.wrap ((x : Int) * 2 ^ (i * 8))) = ((setByte v i x : Nat) : Int) := by
  have hp : 2 ^ (i * 8) ≤ 2 ^ 56 := Nat.pow_le_pow_right (by decide) (by omega)
  have e1 : IntKind.u64.wrap (255 * 2 ^ (i * 8)) = ((255 * 2 ^ (i * 8) : Nat) : Int) := by
    rw [IntKind.wrap_u64]; rw [show ((255 : Int) * 2 ^ (i * 8)) = ((255 * 2 ^ (i * 8) : Nat) : Int) by simp]; omega
  have e2 : IntKind.u64.wrap ((x : Int) * 2 ^ (i * 8)) = ((x * 2 ^ (i * 8) : Nat) : Int) := by
    have h1 : x * 2 ^ (i * 8) ≤ 255 * 2 ^ (i * 8) := Nat.mul_le_mul_right _ (by omega)
    rw [IntKind.wrap_u64, show ((x : Int) * 2 ^ (i * 8)) = ((x * 2 ^ (i * 8) : Nat) : Int) by simp]; omega
  have h1 : x * 2 ^ (i * 8) ≤ 255 * 2 ^ (i * 8) := Nat.mul_le_mul_right _ (by omega)
  have h2 : v &&& (18446744073709551615 - 255 * 2 ^ (i * 8)) ≤ v := Nat.and_le_left
  rw [e1, e2, u64_andNot_nat _ _ hv (by omega), u64_or_nat _ _ (by omega) (by omega)]
  rfl
end Go.Proofs.Ytajjpaabkdgjbaa
