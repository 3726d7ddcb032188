/- Shifts and rotations, one bit at a time, come to what layer 1 reckons at once. No program in sight. -/
import Derived.Test.YtklepefljdiepaaM5
namespace Go.Proofs.Ytklepefljdiepaa
open Go.RowKit
namespace WM
/-- one step, and the bit that goes out -/
def stX (op k a : Nat) : Nat :=
  if op = 1 then low k (a * 2 % 18446744073709551616) else if op = 2 then a / 2 else if op = 3 then a / 2 + (if top k a = true then 2 ^ (k - 1) else 0) else
  if op = 4 then low k (a * 2 % 18446744073709551616) + one (top k a) else a / 2 + (if a % 2 = 1 then 2 ^ (k - 1) else 0)
def stB (op k a : Nat) : Bool := if op = 1 ∨ op = 4 then top k a else a % 2 == 1
def itX (op k a : Nat) : Nat → Nat
  | 0 => a
  | i + 1 => stX op k (itX op k a i)
def itB (op k a : Nat) : Nat → Bool
  | 0 => false
  | i + 1 => stB op k (itX op k a i)
theorem low_dbl {k : Nat} (a : Nat) (hk : k ≤ 64) : low k (a * 2 % 18446744073709551616) = a * 2 % 2 ^ k := low_mod64 _ hk
theorem it1 {k : Nat} (a n : Nat) (hk : k ≤ 64) (ha : a < 2 ^ k) : itX 1 k a n = a * 2 ^ n % 2 ^ k := by
  induction n with
  | zero => simp [itX, Nat.mod_eq_of_lt ha]
  | succ n ih =>
    show stX 1 k (itX 1 k a n) = _
    rw [ih]
    show low k _ = _
    rw [low_dbl _ hk, Nat.mod_mul_mod, Nat.pow_succ, Nat.mul_assoc]
theorem it2 (k a n : Nat) : itX 2 k a n = a / 2 ^ n := by
  induction n with
  | zero => simp [itX]
  | succ n ih =>
    show stX 2 k (itX 2 k a n) = _
    rw [ih]
    show a / 2 ^ n / 2 = _
    rw [Nat.div_div_eq_div_mul, Nat.pow_succ]
theorem pow_half {k : Nat} (h : 1 ≤ k) : 2 ^ k = 2 * 2 ^ (k - 1) := by rw [pow_split h, Nat.mul_comm]
theorem it3 {k : Nat} (a n : Nat) (h1 : 1 ≤ k) (ha : a < 2 ^ k) : itX 3 k a n = if top k a = true then 2 ^ k - 1 - (2 ^ k - 1 - a) / 2 ^ n else a / 2 ^ n := by
  have ht := top_of_lt h1 ha
  have hh := pow_half h1
  have hp := Nat.two_pow_pos (k - 1)
  induction n with
  | zero => simp [itX]; intro _; omega
  | succ n ih =>
    show stX 3 k (itX 3 k a n) = _
    rw [ih]
    by_cases c : 2 ^ (k - 1) ≤ a
    · have tt : top k a = true := by rw [ht]; simpa using c
      rw [if_pos tt, if_pos tt, Nat.pow_succ, ← Nat.div_div_eq_div_mul]
      have hq := Nat.div_le_self (2 ^ k - 1 - a) (2 ^ n)
      generalize (2 ^ k - 1 - a) / 2 ^ n = q at *
      have tq : top k (2 ^ k - 1 - q) = true := by rw [top_of_lt h1 (by omega)]; simp; omega
      show (2 ^ k - 1 - q) / 2 + (if top k (2 ^ k - 1 - q) = true then 2 ^ (k - 1) else 0) = _
      rw [if_pos tq]
      generalize 2 ^ (k - 1) = H at *
      omega
    · have tt : ¬ top k a = true := by rw [ht]; simpa using c
      rw [if_neg tt, if_neg tt, Nat.pow_succ, ← Nat.div_div_eq_div_mul]
      have hq := Nat.div_le_self a (2 ^ n)
      generalize a / 2 ^ n = q at *
      have tq : ¬ top k q = true := by rw [top_of_lt h1 (by omega)]; simp; omega
      show q / 2 + (if top k q = true then 2 ^ (k - 1) else 0) = _
      rw [if_neg tq, Nat.add_zero]
/-- a rotation's parts -/
theorem rot_parts {k m : Nat} (a : Nat) (hk : k ≤ 64) (hm : m < k) (ha : a < 2 ^ k) :
    ∃ t u h : Nat, t ≤ 1 ∧ u < 2 ^ (k - m - 1) ∧ h < 2 ^ m ∧ rot k a m = (t * 2 ^ (k - m - 1) + u) * 2 ^ m + h ∧ rot k a (m + 1) = u * 2 ^ (m + 1) + (2 * h + t) := by
  have hs : k - (m + 1) = k - m - 1 := by omega
  have hp : 2 ^ (k - m) = 2 ^ (k - m - 1) * 2 := pow_split (by omega)
  refine ⟨a / 2 ^ (k - m - 1) % 2, a % 2 ^ (k - m - 1), a / 2 ^ (k - m), by omega, Nat.mod_lt _ (Nat.two_pow_pos _), ?_, ?_, ?_⟩
  · apply Nat.div_lt_of_lt_mul
    rw [← Nat.pow_add, show k - m + m = k by omega]; exact ha
  · rw [rot_eq a hk (Nat.le_of_lt hm) ha, hp, Nat.mod_mul, Nat.mul_comm (2 ^ (k - m - 1)) (a / 2 ^ (k - m - 1) % 2), Nat.add_comm (a % 2 ^ (k - m - 1))]
  · rw [rot_eq (m := m + 1) a hk (show m + 1 ≤ k from hm) ha, hs, hp, ← Nat.div_div_eq_div_mul]
    have := Nat.div_add_mod (a / 2 ^ (k - m - 1)) 2
    omega
theorem st4_rot {k m : Nat} (a : Nat) (hk : k ≤ 64) (hm : m < k) (ha : a < 2 ^ k) : stX 4 k (rot k a m) = rot k a (m + 1) := by
  obtain ⟨t, u, h, ht, hu, hh, e1, e2⟩ := rot_parts a hk hm ha
  have hr := rot_lt k a m
  have hp : 2 ^ k = 2 ^ (k - m - 1) * 2 ^ (m + 1) := by rw [← Nat.pow_add, show k - m - 1 + (m + 1) = k by omega]
  have hp1 : 2 ^ (k - 1) = 2 ^ (k - m - 1) * 2 ^ m := by rw [← Nat.pow_add, show k - m - 1 + m = k - 1 by omega]
  have hb : u * 2 ^ m + h < 2 ^ (k - 1) := by
    rw [hp1]
    have : u * 2 ^ m + 2 ^ m ≤ 2 ^ (k - m - 1) * 2 ^ m := by
      rw [← Nat.succ_mul]; exact Nat.mul_le_mul_right _ hu
    omega
  have e1' : rot k a m = t * 2 ^ (k - 1) + (u * 2 ^ m + h) := by rw [e1, hp1, Nat.add_mul, Nat.mul_assoc]; omega
  have htop : top k (rot k a m) = decide (t = 1) := by
    rw [top_of_lt (by omega) hr, e1', Bool.eq_iff_iff]
    simp only [decide_eq_true_eq]
    have : t = 0 ∨ t = 1 := by omega
    rcases this with rfl | rfl <;> omega
  have hlow : low k (rot k a m * 2 % 18446744073709551616) = u * 2 ^ (m + 1) + 2 * h := by
    rw [low_dbl _ hk, e1', pow_half (show 1 ≤ k by omega), Nat.pow_succ]
    have : t = 0 ∨ t = 1 := by omega
    have e3 : (t * 2 ^ (k - 1) + (u * 2 ^ m + h)) * 2 = 2 * (u * 2 ^ m + h) + t * (2 * 2 ^ (k - 1)) := by
      rw [Nat.add_mul, Nat.mul_assoc, Nat.mul_comm (2 ^ (k - 1)) 2]; omega
    rw [e3, Nat.add_mul_mod_self_right, Nat.mod_eq_of_lt (by omega), Nat.mul_add, ← Nat.mul_assoc, Nat.mul_comm 2 u, Nat.mul_assoc u 2, Nat.mul_comm 2 (2 ^ m)]
  show low k (rot k a m * 2 % 18446744073709551616) + one (top k (rot k a m)) = _
  rw [hlow, htop, e2]
  have : t = 0 ∨ t = 1 := by omega
  rcases this with rfl | rfl <;> simp [one, Nat.add_assoc]
theorem st5_rot {k m : Nat} (a : Nat) (hk : k ≤ 64) (hm : m < k) (ha : a < 2 ^ k) : stX 5 k (rot k a (m + 1)) = rot k a m := by
  obtain ⟨t, u, h, ht, hu, hh, e1, e2⟩ := rot_parts a hk hm ha
  have hp1 : 2 ^ (k - 1) = 2 ^ (k - m - 1) * 2 ^ m := by rw [← Nat.pow_add, show k - m - 1 + m = k - 1 by omega]
  have e3 : rot k a (m + 1) = 2 * (u * 2 ^ m + h) + t := by
    rw [e2, Nat.pow_succ, ← Nat.mul_assoc]; omega
  have d1 : rot k a (m + 1) / 2 = u * 2 ^ m + h := by rw [e3]; omega
  have d2 : rot k a (m + 1) % 2 = t := by rw [e3]; omega
  show rot k a (m + 1) / 2 + (if rot k a (m + 1) % 2 = 1 then 2 ^ (k - 1) else 0) = _
  rw [d1, d2, e1, hp1, Nat.add_mul, Nat.mul_assoc]
  have : t = 0 ∨ t = 1 := by omega
  rcases this with rfl | rfl <;> simp
  omega
theorem rot_zero {k : Nat} (a : Nat) (hk : k ≤ 64) (ha : a < 2 ^ k) : rot k a 0 = a := by
  rw [rot_eq a hk (Nat.zero_le _) ha, Nat.sub_zero, Nat.mod_eq_of_lt ha, Nat.div_eq_of_lt ha]; omega
theorem rot_full {k : Nat} (a : Nat) (hk : k ≤ 64) (ha : a < 2 ^ k) : rot k a k = a := by
  rw [rot_eq a hk (Nat.le_refl _) ha, Nat.sub_self]; simp [Nat.mod_one]
theorem it4 {k : Nat} (a n : Nat) (h1 : 1 ≤ k) (hk : k ≤ 64) (ha : a < 2 ^ k) : itX 4 k a n = rot k a (n % k) := by
  induction n with
  | zero => rw [Nat.zero_mod, rot_zero a hk ha]; rfl
  | succ n ih =>
    show stX 4 k (itX 4 k a n) = _
    have hm : n % k < k := Nat.mod_lt _ (by omega)
    rw [ih, st4_rot a hk hm ha]
    by_cases c : n % k + 1 = k
    · have : (n + 1) % k = 0 := by rw [← Nat.mod_add_mod, c]; exact Nat.mod_self k
      rw [this, c, rot_full a hk ha, rot_zero a hk ha]
    · have : (n + 1) % k = n % k + 1 := by
        rw [← Nat.mod_add_mod, Nat.mod_eq_of_lt (show n % k + 1 < k by omega)]
      rw [this]
theorem it5 {k : Nat} (a n : Nat) (h1 : 1 ≤ k) (hk : k ≤ 64) (ha : a < 2 ^ k) : itX 5 k a n = rot k a (k - n % k) := by
  induction n with
  | zero => rw [Nat.zero_mod, Nat.sub_zero, rot_full a hk ha]; rfl
  | succ n ih =>
    show stX 5 k (itX 5 k a n) = _
    have hm : n % k < k := Nat.mod_lt _ (by omega)
    rw [ih, show k - n % k = (k - n % k - 1) + 1 by omega, st5_rot a hk (by omega) ha]
    by_cases c : n % k + 1 = k
    · have : (n + 1) % k = 0 := by rw [← Nat.mod_add_mod, c]; exact Nat.mod_self k
      rw [this, show k - n % k - 1 = 0 by omega, Nat.sub_zero, rot_full a hk ha, rot_zero a hk ha]
    · have : (n + 1) % k = n % k + 1 := by
        rw [← Nat.mod_add_mod, Nat.mod_eq_of_lt (show n % k + 1 < k by omega)]
      rw [this, Nat.sub_sub]
theorem compl_div {N i c : Nat} (hi : i ≤ N) (hc : c < 2 ^ N) : (2 ^ N - 1 - c) / 2 ^ i = 2 ^ (N - i) - 1 - c / 2 ^ i := by
  have hp : 2 ^ N = 2 ^ i * 2 ^ (N - i) := by rw [← Nat.pow_add, show i + (N - i) = N by omega]
  have h0 : 0 < 2 ^ i := Nat.two_pow_pos i
  have h1 : c % 2 ^ i < 2 ^ i := Nat.mod_lt _ h0
  have h2 := Nat.div_add_mod c (2 ^ i)
  have h3 : c / 2 ^ i < 2 ^ (N - i) := Nat.div_lt_of_lt_mul (by rw [← hp]; exact hc)
  have e : 2 ^ N - 1 - c = 2 ^ i * (2 ^ (N - i) - 1 - c / 2 ^ i) + (2 ^ i - 1 - c % 2 ^ i) := by
    rw [hp]
    generalize c / 2 ^ i = q at *
    generalize c % 2 ^ i = r at *
    generalize 2 ^ i = I at *
    generalize 2 ^ (N - i) = J at *
    obtain ⟨d, rfl⟩ : ∃ d, J = q + 1 + d := ⟨J - q - 1, by omega⟩
    rw [show q + 1 + d - 1 - q = d by omega, Nat.mul_add, Nat.mul_add]
    omega
  have h5 : (2 ^ i - 1 - c % 2 ^ i) / 2 ^ i = 0 := Nat.div_eq_of_lt (by omega)
  rw [e, Nat.mul_add_div h0, h5, Nat.add_zero]
theorem sar_same {k : Nat} (a n : Nat) (h1 : 1 ≤ k) (hk : k ≤ 64) (ha : a < 2 ^ k) : low k (sar (sig k a) n) = itX 3 k a n := by
  rw [it3 a n h1 ha]
  have hl : low k a = a := low_of_lt ha
  have hle := pow_le64 hk
  have hh := pow_half h1
  have hm := pow_mul64 hk
  have ht := top_of_lt h1 ha
  unfold sig sar
  rw [hl]
  by_cases c : 2 ^ (k - 1) ≤ a
  · have tt : top k a = true := by rw [ht]; simpa using c
    have hbig : 9223372036854775808 ≤ a + (18446744073709551616 - 2 ^ k) := by
      have : 2 ^ (k - 1) ≤ 9223372036854775808 := by
        rw [show (9223372036854775808 : Nat) = 2 ^ 63 by decide]; exact Nat.pow_le_pow_right (by decide) (by omega)
      omega
    rw [if_pos tt, if_pos tt, if_pos hbig, show 18446744073709551615 - (a + (18446744073709551616 - 2 ^ k)) = 2 ^ k - 1 - a by omega]
    have hq := Nat.div_le_self (2 ^ k - 1 - a) (2 ^ n)
    generalize (2 ^ k - 1 - a) / 2 ^ n = q at *
    have e : 18446744073709551615 - q = (2 ^ k - 1 - q) + 2 ^ k * (2 ^ (64 - k) - 1) := by
      rw [Nat.mul_sub, hm]; omega
    unfold low
    rw [e, Nat.add_mul_mod_self_left, Nat.mod_eq_of_lt (by omega)]
  · have tt : ¬ top k a = true := by rw [ht]; simpa using c
    have hsmall : ¬ 9223372036854775808 ≤ a := by
      have : 2 ^ (k - 1) ≤ 9223372036854775808 := by
        rw [show (9223372036854775808 : Nat) = 2 ^ 63 by decide]; exact Nat.pow_le_pow_right (by decide) (by omega)
      omega
    rw [if_neg tt, if_neg tt, if_neg hsmall]
    exact low_of_lt (Nat.lt_of_le_of_lt (Nat.div_le_self _ _) ha)
end WM
end Go.Proofs.Ytklepefljdiepaa
