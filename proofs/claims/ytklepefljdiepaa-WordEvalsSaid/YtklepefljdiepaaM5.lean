/- What is turned twice, or rotated there and back, is what it was; an answer at a width is the low part of that of 64 bits; what flags of a difference tell. No program in sight. -/
import Derived.Test.YtklepefljdiepaaM3
namespace Go.Proofs.Ytklepefljdiepaa
open Go.RowKit
namespace WM
theorem rot_eq {k m : Nat} (a : Nat) (hk : k ≤ 64) (hm : m ≤ k) (ha : a < 2 ^ k) : rot k a m = a % 2 ^ (k - m) * 2 ^ m + a / 2 ^ (k - m) := by
  have hp : 2 ^ k = 2 ^ (k - m) * 2 ^ m := by rw [← Nat.pow_add, show k - m + m = k by omega]
  have h1 : shl a m % 2 ^ k = 2 ^ m * (a % 2 ^ (k - m)) := by
    unfold shl
    rw [← pow_mul64 hk, Nat.mod_mul_right_mod, hp, Nat.mul_mod_mul_right, Nat.mul_comm]
  have h2 : a / 2 ^ (k - m) < 2 ^ m := by
    apply Nat.div_lt_of_lt_mul; rw [← hp]; exact ha
  have h3 : a / 2 ^ (k - m) % 2 ^ k = a / 2 ^ (k - m) := Nat.mod_eq_of_lt (Nat.lt_of_lt_of_le h2 (Nat.pow_le_pow_right (by decide) hm))
  unfold rot low
  rw [Nat.or_mod_two_pow, h1, h3, ← Nat.two_pow_add_eq_or_of_lt h2, Nat.mul_comm]
theorem rot_back {k m : Nat} (a : Nat) (hk : k ≤ 64) (hm : m ≤ k) (ha : a < 2 ^ k) : rot k (rot k a m) (k - m) = a := by
  have hp : 2 ^ k = 2 ^ (k - m) * 2 ^ m := by rw [← Nat.pow_add, show k - m + m = k by omega]
  have h2 : a / 2 ^ (k - m) < 2 ^ m := by
    apply Nat.div_lt_of_lt_mul; rw [← hp]; exact ha
  have hr := rot_lt k a m
  have e := rot_eq a hk hm ha
  rw [rot_eq (rot k a m) hk (Nat.sub_le _ _) hr, show k - (k - m) = m by omega, e]
  have e1 : (a % 2 ^ (k - m) * 2 ^ m + a / 2 ^ (k - m)) % 2 ^ m = a / 2 ^ (k - m) := by
    rw [Nat.add_comm, Nat.add_mul_mod_self_right, Nat.mod_eq_of_lt h2]
  have e2 : (a % 2 ^ (k - m) * 2 ^ m + a / 2 ^ (k - m)) / 2 ^ m = a % 2 ^ (k - m) := by
    rw [Nat.add_comm, Nat.add_mul_div_right _ _ (Nat.two_pow_pos _), Nat.div_eq_of_lt h2, Nat.zero_add]
  rw [e1, e2, Nat.mul_comm]
  exact Nat.div_add_mod _ _
theorem shift_back {k : Nat} (a n : Nat) (h1 : 8 ≤ k) (hk : k ≤ 64) : shiftX 5 k (shiftX 4 k a n) n = low k a := by
  unfold shiftX
  by_cases hz : counted k n = 0
  · simp [hz, low_low]
  · simp only [hz, if_false]
    have hm : counted k n % k ≤ k := Nat.le_of_lt (Nat.mod_lt _ (by omega))
    have e4 : shX 4 k (low k a) (counted k n) = rot k (low k a) (counted k n % k) := by simp [shX]
    have e5 : ∀ x, shX 5 k x (counted k n) = rot k x (k - counted k n % k) := fun x => by simp [shX]
    rw [e4, low_of_lt (rot_lt _ _ _), e5, rot_back _ hk hm (low_lt _ _)]
theorem rotl_rot {a m : Nat} (ha : a < 18446744073709551616) : rotl a m = rot 64 a m := by
  unfold rot
  have := rotl_lt a m ha
  unfold rotl at this
  rw [low_64 this]; rfl
theorem rotl_back {a b : Nat} (ha : a < 18446744073709551616) : rotl (rotl a (b % 64)) ((64 - b % 64) % 64) = a := by
  have hr := rotl_lt a (b % 64) ha
  rw [rotl_rot hr, rotl_rot ha]
  have ha' : a < 2 ^ 64 := by rw [two64]; exact ha
  by_cases hz : b % 64 = 0
  · rw [hz, show (64 - 0) % 64 = 0 by decide]
    have e : rot 64 a 0 = a := by
      rw [rot_eq a (by decide) (by decide) ha', show 64 - 0 = 64 by decide, Nat.mod_eq_of_lt ha', Nat.div_eq_of_lt ha']
      omega
    rw [e, e]
  · rw [show (64 - b % 64) % 64 = 64 - b % 64 by omega]
    exact rot_back a (by decide) (by omega) ha'
theorem not_not {k : Nat} (a : Nat) (hk : k = 8 ∨ k = 16 ∨ k = 32 ∨ k = 64) (ha : a < 18446744073709551616) : low k (comp (low k (comp a))) = low k a := by
  rcases hk with rfl | rfl | rfl | rfl <;> unfold low comp <;> omega
theorem neg_eq {k : Nat} (a : Nat) (hk : k = 8 ∨ k = 16 ∨ k = 32 ∨ k = 64) : doX 3 k 0 a false = low k (subLo 0 (low k a) 0) := by
  have : low k 0 = 0 := by rcases hk with rfl | rfl | rfl | rfl <;> rfl
  simp [doX, binX, subX, this]
theorem neg_neg {k : Nat} (a : Nat) (hk : k = 8 ∨ k = 16 ∨ k = 32 ∨ k = 64) : doX 3 k 0 (doX 3 k 0 a false) false = low k a := by
  rw [neg_eq _ hk, neg_eq a hk]
  rcases hk with rfl | rfl | rfl | rfl <;> unfold low subLo <;> omega
theorem low_sig {k : Nat} (a : Nat) (hk : k = 8 ∨ k = 16 ∨ k = 32 ∨ k = 64) : low k (sig k a) = low k a := by
  unfold sig
  rcases hk with rfl | rfl | rfl | rfl <;> split <;> unfold low <;> omega
theorem mulX_low {k : Nat} (a b : Nat) (hk : k = 8 ∨ k = 16 ∨ k = 32 ∨ k = 64) : mulX k a b = low k (a * b) := by
  have h64 : k ≤ 64 := by omega
  have h : ∀ a b, low k (a * b) = low k (low k a * low k b) := fun a b => Nat.mul_mod _ _ _
  unfold mulX wideLo
  rw [low_mod64 _ h64, h, low_sig a hk, low_sig b hk, ← h]
theorem width_of64 {k : Nat} (op a b : Nat) (c : Bool) (hk : k = 8 ∨ k = 16 ∨ k = 32 ∨ k = 64) : doX op k a b c = low k (doX op 64 a b c) := by
  have ho := one_le c
  have h64 : k ≤ 64 := by omega
  have hl : ∀ x, low k (low 64 x) = low k x := fun x => by
    unfold low; rw [Nat.mod_mod_of_dvd]; exact Nat.pow_dvd_pow 2 h64
  unfold doX binX
  repeat' split
  · unfold addX; rcases hk with rfl | rfl | rfl | rfl <;> unfold low addLo <;> omega
  · unfold addX; rcases hk with rfl | rfl | rfl | rfl <;> unfold low addLo <;> omega
  · unfold subX; rcases hk with rfl | rfl | rfl | rfl <;> unfold low subLo <;> omega
  · unfold subX; rcases hk with rfl | rfl | rfl | rfl <;> unfold low subLo <;> omega
  · have := @Nat.and_mod_two_pow (low 64 a) (low 64 b) k
    show _ = (low 64 a &&& low 64 b) % 2 ^ k
    rw [this]; exact (congr (congrArg _ (hl a).symm) (hl b).symm)
  · have := @Nat.or_mod_two_pow (low 64 a) (low 64 b) k
    show _ = (low 64 a ||| low 64 b) % 2 ^ k
    rw [this]; exact (congr (congrArg _ (hl a).symm) (hl b).symm)
  · have := @Nat.xor_mod_two_pow (low 64 a) (low 64 b) k
    show _ = (low 64 a ^^^ low 64 b) % 2 ^ k
    rw [this]; exact (congr (congrArg _ (hl a).symm) (hl b).symm)
  · have h : ∀ a b, low k (a * b) = low k (low k a * low k b) := fun a b => Nat.mul_mod _ _ _
    rw [mulX_low _ _ hk, mulX_low _ _ (by omega), hl, h, low_low, low_low, h (low 64 a), hl, hl]
/-- what flags of a difference of 64 bits tell -/
theorem cmp_same (a b : Nat) (ha : a < 18446744073709551616) (hb : b < 18446744073709551616) : (doF 3 64 a b false).z = (a == b) := by
  have e : doX 3 64 a b false = subLo a b 0 := by
    simp only [doX, binX, subX, low_64 ha, low_64 hb]
    simp [low_64 (subLo_lt a b 0)]
  show (doX 3 64 a b false == 0) = (a == b)
  rw [e, Bool.eq_iff_iff]; simp only [beq_iff_eq]; unfold subLo; omega
theorem cmp_below (a b : Nat) (ha : a < 18446744073709551616) (hb : b < 18446744073709551616) : (doF 3 64 a b false).c = decide (a < b) := by
  show binC 3 64 (low 64 a) (low 64 b) (one false) = _
  rw [low_64 ha, low_64 hb]
  simp [binC, subC]
theorem cmp_less (a b : Nat) (ha : a < 18446744073709551616) (hb : b < 18446744073709551616) :
    ((doF 3 64 a b false).s != (doF 3 64 a b false).o) = decide (wrap64 (a : Int) < wrap64 (b : Int)) := by
  have e : doX 3 64 a b false = subLo a b 0 := by
    simp only [doX, binX, subX, low_64 ha, low_64 hb]
    simp [low_64 (subLo_lt a b 0)]
  have hl := subLo_lt a b 0
  have p63 : (2 : Nat) ^ (64 - 1) = 9223372036854775808 := by decide
  have t : ∀ x, x < 18446744073709551616 → top 64 x = decide (9223372036854775808 ≤ x) := fun x h => by
    rw [top_of_lt (by decide) (by rw [two64]; exact h), p63]
  have es : (doF 3 64 a b false).s = top 64 (subLo a b 0) := by show top 64 (doX 3 64 a b false) = _; rw [e]
  have eo : (doF 3 64 a b false).o = (top 64 a != top 64 b && top 64 (subLo a b 0) == top 64 b) := by
    show binO 3 64 (low 64 a) (low 64 b) (one false) = _
    rw [low_64 ha, low_64 hb]
    simp [binO, subO, subX, low_64 hl]
  rw [es, eo, t _ hl, t a ha, t b hb, Bool.eq_iff_iff]
  unfold wrap64
  by_cases c1 : 9223372036854775808 ≤ a <;> by_cases c2 : 9223372036854775808 ≤ b <;> by_cases c3 : 9223372036854775808 ≤ subLo a b 0
  all_goals
    simp [c1, c2, c3]
    unfold subLo at c3
    omega
theorem sum_low (a b : Nat) (ha : a < 18446744073709551616) (hb : b < 18446744073709551616) : doX 1 64 a b false = (a + b) % 18446744073709551616 := by
  simp only [doX, binX, addX, low_64 ha, low_64 hb]
  simp [low_64 (addLo_lt a b 0)]; rfl
theorem sum_carry (a b : Nat) (ha : a < 18446744073709551616) (hb : b < 18446744073709551616) : (doF 1 64 a b false).c = decide (18446744073709551616 ≤ a + b) := by
  show binC 1 64 (low 64 a) (low 64 b) (one false) = _
  rw [low_64 ha, low_64 hb]
  simp only [binC, addC, addX, low_64 (addLo_lt a b 0)]
  rw [Bool.eq_iff_iff]
  simp [addHi]
  omega
theorem sum_high (c d : Nat) (f : Bool) (hc : c < 18446744073709551616) (hd : d < 18446744073709551616) : doX 2 64 c d f = (c + d + one f) % 18446744073709551616 := by
  simp only [doX, binX, addX, low_64 hc, low_64 hd]
  simp [low_64 (addLo_lt c d (one f))]; rfl
end WM
end Go.Proofs.Ytklepefljdiepaa
