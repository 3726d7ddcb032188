/- The document's answers, bit by bit, come to what layer 1 reckons: sums, differences, products with signs, shifts and rotations. No program in sight. -/
import Derived.Test.YtklepefljdiepaaM5
namespace Go.Proofs.Ytklepefljdiepaa
open Go.RowKit
namespace WM
/-! ### sums, bit by bit -/
def aS (a b c j : Nat) : Nat := a % 2 ^ j + b % 2 ^ j + c
def aO (a b c j : Nat) : Nat := aS a b c j % 2 ^ j
def aQ (a b c j : Nat) : Nat := aS a b c j / 2 ^ j
theorem aQ_le (a b c j : Nat) (hc : c ≤ 1) : aQ a b c j ≤ 1 := by
  have h1 : a % 2 ^ j < 2 ^ j := Nat.mod_lt _ (Nat.two_pow_pos _)
  have h2 : b % 2 ^ j < 2 ^ j := Nat.mod_lt _ (Nat.two_pow_pos _)
  have h3 : aS a b c j < 2 ^ j * 2 := by unfold aS; omega
  have := Nat.div_lt_of_lt_mul h3
  unfold aQ; omega
theorem aO_lt (a b c j : Nat) : aO a b c j < 2 ^ j := Nat.mod_lt _ (Nat.two_pow_pos _)
theorem aS_succ (a b c j : Nat) : aS a b c (j + 1) = aO a b c j + 2 ^ j * (a / 2 ^ j % 2 + b / 2 ^ j % 2 + aQ a b c j) := by
  have e : aS a b c j = 2 ^ j * aQ a b c j + aO a b c j := (Nat.div_add_mod _ _).symm
  have ha := @Nat.mod_pow_succ a 2 j
  have hb := @Nat.mod_pow_succ b 2 j
  have e2 : aS a b c (j + 1) = aS a b c j + 2 ^ j * (a / 2 ^ j % 2) + 2 ^ j * (b / 2 ^ j % 2) := by unfold aS; omega
  rw [e2, e, Nat.mul_add, Nat.mul_add]; omega
theorem aO_succ (a b c j : Nat) : aO a b c (j + 1) = aO a b c j + (a / 2 ^ j % 2 + b / 2 ^ j % 2 + aQ a b c j) % 2 * 2 ^ j ∧ aQ a b c (j + 1) = (a / 2 ^ j % 2 + b / 2 ^ j % 2 + aQ a b c j) / 2 := by
  have ho := aO_lt a b c j
  have hs := aS_succ a b c j
  generalize a / 2 ^ j % 2 + b / 2 ^ j % 2 + aQ a b c j = n at *
  have hp : 0 < 2 ^ j := Nat.two_pow_pos j
  have e : aS a b c (j + 1) = (aO a b c j + n % 2 * 2 ^ j) + 2 ^ (j + 1) * (n / 2) := by
    rw [hs, Nat.pow_succ]
    have : n = 2 * (n / 2) + n % 2 := (Nat.div_add_mod n 2).symm
    generalize n / 2 = q at *
    generalize n % 2 = r at *
    subst this
    grind
  have hlt : aO a b c j + n % 2 * 2 ^ j < 2 ^ (j + 1) := by
    have h1 : n % 2 ≤ 1 := by omega
    have h2 : n % 2 * 2 ^ j ≤ 1 * 2 ^ j := Nat.mul_le_mul_right _ h1
    rw [Nat.pow_succ]; omega
  constructor
  · unfold aO
    show aS a b c (j + 1) % 2 ^ (j + 1) = _
    rw [e, Nat.add_mul_mod_self_left, Nat.mod_eq_of_lt hlt]; rfl
  · show aS a b c (j + 1) / 2 ^ (j + 1) = _
    rw [e, Nat.add_mul_div_left _ _ (Nat.two_pow_pos _), Nat.div_eq_of_lt hlt, Nat.zero_add]
theorem aO_end (a b c k : Nat) (ha : a < 2 ^ k) (hb : b < 2 ^ k) : aO a b c k = (a + b + c) % 2 ^ k ∧ aQ a b c k = (a + b + c) / 2 ^ k := by
  unfold aO aQ aS; rw [Nat.mod_eq_of_lt ha, Nat.mod_eq_of_lt hb]; exact ⟨rfl, rfl⟩
theorem aO_zero (a b c : Nat) : aO a b c 0 = 0 ∧ aQ a b c 0 = c := by
  unfold aO aQ aS; simp [Nat.mod_one]
/-- the document's sum, at a width -/
theorem add_same {k : Nat} (a b c : Nat) (hk : k = 8 ∨ k = 16 ∨ k = 32 ∨ k = 64) (ha : a < 2 ^ k) (hb : b < 2 ^ k) (hc : c ≤ 1) : aO a b c k = addX k a b c ∧ (aQ a b c k == 1) = addC k a b c := by
  obtain ⟨h1, h2⟩ := aO_end a b c k ha hb
  rw [h1, h2]
  unfold addC addX addHi
  rcases hk with rfl | rfl | rfl | rfl
  all_goals
    constructor
    · unfold low addLo; omega
    · rw [Bool.eq_iff_iff]; simp only [beq_iff_eq, Bool.or_eq_true, bne_iff_ne]; unfold low addLo; omega
theorem sub_same {k : Nat} (a b c : Nat) (hk : k = 8 ∨ k = 16 ∨ k = 32 ∨ k = 64) (ha : a < 2 ^ k) (hb : b < 2 ^ k) (hc : c ≤ 1) :
    aO a (low k (comp b)) (1 - c) k = subX k a b c ∧ (!(aQ a (low k (comp b)) (1 - c) k == 1)) = subC a b c := by
  obtain ⟨h1, h2⟩ := aO_end a (low k (comp b)) (1 - c) k ha (low_lt _ _)
  rw [h1, h2]
  unfold subC subX
  rcases hk with rfl | rfl | rfl | rfl
  all_goals
    constructor
    · unfold low subLo comp; omega
    · rw [Bool.eq_iff_iff]; simp only [Bool.not_eq_true', beq_eq_false_iff_ne, decide_eq_true_eq]; unfold low comp; omega
/-! ### products with signs -/
def toI (x : Nat) : Int := if x < 9223372036854775808 then (x : Int) else (x : Int) - 18446744073709551616
def absN (x : Nat) : Nat := if x < 9223372036854775808 then x else 18446744073709551616 - x
/-- the document's 'fits', of words with their signs -/
def fitsN (a b s : Nat) : Bool :=
  if 9223372036854775808 ≤ s then (decide (9223372036854775808 ≤ a) != decide (9223372036854775808 ≤ b)) && wideHi (absN a) (absN b) == 0 && wideLo (absN a) (absN b) == 18446744073709551616 - s
  else wideHi (absN a) (absN b) == 0 && wideLo (absN a) (absN b) == s && (!(decide (9223372036854775808 ≤ a) != decide (9223372036854775808 ≤ b)) || wideLo (absN a) (absN b) == 0)
theorem absN_le (x : Nat) (h : x < 18446744073709551616) : absN x ≤ 9223372036854775808 := by unfold absN; split <;> omega
theorem fits_iff (a b s : Nat) (ha : a < 18446744073709551616) (hb : b < 18446744073709551616) (hs : s < 18446744073709551616) : fitsN a b s = true ↔ toI a * toI b = toI s := by
  have h1 := absN_le a ha
  have h2 := absN_le b hb
  have hq : absN a * absN b ≤ 85070591730234615865843651857942052864 := Nat.mul_le_mul h1 h2
  have hz : toI a * toI b = if (decide (9223372036854775808 ≤ a) != decide (9223372036854775808 ≤ b)) = true then -((absN a * absN b : Nat) : Int) else ((absN a * absN b : Nat) : Int) := by
    have ea : toI a = if 9223372036854775808 ≤ a then -((absN a : Nat) : Int) else ((absN a : Nat) : Int) := by
      unfold toI absN; split <;> split <;> omega
    have eb : toI b = if 9223372036854775808 ≤ b then -((absN b : Nat) : Int) else ((absN b : Nat) : Int) := by
      unfold toI absN; split <;> split <;> omega
    rw [ea, eb]
    by_cases c1 : 9223372036854775808 ≤ a <;> by_cases c2 : 9223372036854775808 ≤ b <;> simp [c1, c2, Int.neg_mul, Int.mul_neg]
  rw [hz]
  unfold fitsN wideHi wideLo toI
  generalize (decide (9223372036854775808 ≤ a) != decide (9223372036854775808 ≤ b)) = neg
  generalize absN a * absN b = Q at *
  by_cases c3 : 9223372036854775808 ≤ s
  · rw [if_pos c3, if_neg (show ¬ s < 9223372036854775808 by omega)]
    cases neg <;> simp <;> omega
  · rw [if_neg c3, if_pos (show s < 9223372036854775808 by omega)]
    cases neg <;> simp <;> omega
theorem and_ones (b : Nat) (hb : b < 18446744073709551616) : 18446744073709551615 &&& b = b := by
  rw [Nat.and_comm, show (18446744073709551615 : Nat) = 2 ^ 64 - 1 from by decide, Nat.and_two_pow_sub_one_eq_mod, two64, Nat.mod_eq_of_lt hb]
theorem sgn_and (a b : Nat) (hb : b < 18446744073709551616) : sgn a &&& b = if 9223372036854775808 ≤ a then b else 0 := by
  unfold sgn; split
  · exact and_ones b hb
  · exact Nat.zero_and b
theorem cut_iff (a b s : Nat) (ha : a < 18446744073709551616) (hb : b < 18446744073709551616) (hs : s < 18446744073709551616) :
    (wideLo a b != s || wsHi a b != sgn s) = false ↔ toI a * toI b = toI s := by
  have hb1 : -9223372036854775808 ≤ toI a ∧ toI a ≤ 9223372036854775807 := by unfold toI; split <;> omega
  have hb2 : -9223372036854775808 ≤ toI b ∧ toI b ≤ 9223372036854775807 := by unfold toI; split <;> omega
  have hz1 : toI a * toI b ≤ 85070591730234615865843651857942052864 ∧ -85070591730234615865843651857942052864 ≤ toI a * toI b := by
    have hn : (toI a * toI b).natAbs ≤ 85070591730234615865843651857942052864 := by
      rw [Int.natAbs_mul]; exact Nat.mul_le_mul (show (toI a).natAbs ≤ 9223372036854775808 by omega) (show (toI b).natAbs ≤ 9223372036854775808 by omega)
    omega
  have hz : toI a * toI b = ((a * b : Nat) : Int) - 18446744073709551616 * (((if 9223372036854775808 ≤ a then b else 0 : Nat) : Int) + ((if 9223372036854775808 ≤ b then a else 0 : Nat) : Int)) + (if 9223372036854775808 ≤ a ∧ 9223372036854775808 ≤ b then 340282366920938463463374607431768211456 else 0) := by
    unfold toI
    rw [Int.natCast_mul]
    by_cases c1 : 9223372036854775808 ≤ a <;> by_cases c2 : 9223372036854775808 ≤ b
    · rw [if_neg (by omega), if_neg (by omega), if_pos c1, if_pos c2, if_pos ⟨c1, c2⟩]; grind
    · rw [if_neg (by omega), if_pos (by omega), if_pos c1, if_neg c2, if_neg (fun h => c2 h.2)]; grind
    · rw [if_pos (by omega), if_neg (by omega), if_neg c1, if_pos c2, if_neg (fun h => c1 h.1)]; grind
    · rw [if_pos (by omega), if_pos (by omega), if_neg c1, if_neg c2, if_neg (fun h => c1 h.1)]; grind
  unfold wsHi
  rw [sgn_and a b hb, sgn_and b a ha]
  have hP : a * b < 340282366920938463463374607431768211456 := Nat.mul_lt_mul'' ha hb
  generalize toI a * toI b = Z at *
  unfold wideLo wideHi subLo toI sgn
  generalize a * b = P at *
  simp only [Bool.or_eq_false_iff, bne_eq_false_iff_eq]
  by_cases c1 : 9223372036854775808 ≤ a <;> by_cases c2 : 9223372036854775808 ≤ b <;> by_cases c3 : 9223372036854775808 ≤ s
  all_goals
    simp only [c1, c2, c3, if_true, if_false, and_self, and_true, and_false] at hz ⊢
    omega
theorem fits_same {k : Nat} (a b : Nat) (hk : k = 8 ∨ k = 16 ∨ k = 32 ∨ k = 64) : (!fitsN (sig k a) (sig k b) (sig k (low k (a * b)))) = mulC k a b := by
  have h64 : k ≤ 64 := by omega
  have h1 := fits_iff (sig k a) (sig k b) (sig k (low k (a * b))) (sig_lt _ h64) (sig_lt _ h64) (sig_lt _ h64)
  have h2 := cut_iff (sig k a) (sig k b) (sig k (low k (a * b))) (sig_lt _ h64) (sig_lt _ h64) (sig_lt _ h64)
  unfold mulC
  rw [mulX_low a b hk]
  cases h : fitsN (sig k a) (sig k b) (sig k (low k (a * b)))
  · cases h' : (wideLo (sig k a) (sig k b) != sig k (low k (a * b)) || wsHi (sig k a) (sig k b) != sgn (sig k (low k (a * b))))
    · rw [h] at h1; rw [h'] at h2; exact absurd (h1.2 (h2.1 rfl)) (by decide)
    · rfl
  · cases h' : (wideLo (sig k a) (sig k b) != sig k (low k (a * b)) || wsHi (sig k a) (sig k b) != sgn (sig k (low k (a * b))))
    · rfl
    · rw [h] at h1; rw [h'] at h2; exact absurd (h2.2 (h1.1 rfl)) (by decide)
end WM
end Go.Proofs.Ytklepefljdiepaa
