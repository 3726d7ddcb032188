/- The document's shift, bit by bit, and its flags: they come to layer 1's. No program in sight. -/
import Derived.Test.YtklepefljdiepaaM7
namespace Go.Proofs.Ytklepefljdiepaa
open Go.RowKit
namespace WM
def refC (op k a n : Nat) : Bool := if k < n then (op == 3 && top k a) else itB op k a n
theorem top_dbl {k a j : Nat} (h : j ≤ k - 1) (h1 : 1 ≤ k) : top k (a * 2 ^ j % 2 ^ k) = bit a (k - 1 - j) := by
  have e : top k (a * 2 ^ j % 2 ^ k) = top k (a * 2 ^ j) := top_low (a * 2 ^ j) h1
  rw [e]
  have hp : 2 ^ (k - 1) = 2 ^ j * 2 ^ (k - 1 - j) := by rw [← Nat.pow_add, show j + (k - 1 - j) = k - 1 by omega]
  unfold top bit
  rw [hp, Nat.mul_comm a, Nat.mul_div_mul_left _ _ (Nat.two_pow_pos j)]
theorem bit_big {k a i : Nat} (ha : a < 2 ^ k) (hi : k ≤ i) : bit a i = false := by
  have : a < 2 ^ i := Nat.lt_of_lt_of_le ha (Nat.pow_le_pow_right (by decide) hi)
  unfold bit; rw [Nat.div_eq_of_lt this]; rfl
theorem refC1 {k a n : Nat} (h1 : 1 ≤ k) (hk : k ≤ 64) (hn : 1 ≤ n) (ha : a < 2 ^ k) : refC 1 k a n = shC 1 k a n := by
  obtain ⟨m, rfl⟩ : ∃ m, n = m + 1 := ⟨n - 1, by omega⟩
  unfold refC shC
  by_cases c : k < m + 1
  · rw [if_pos c, if_pos rfl, decide_eq_false (show ¬ (m + 1 ≤ k) by omega)]; rfl
  · rw [if_neg c, if_pos rfl, decide_eq_true (show m + 1 ≤ k by omega), Bool.true_and]
    show stB 1 k (itX 1 k a m) = _
    rw [it1 a m hk ha, show k - (m + 1) = k - 1 - m by omega, ← top_dbl (by omega) h1]
    rfl
theorem refC2 {k a n : Nat} (hn : 1 ≤ n) (ha : a < 2 ^ k) : refC 2 k a n = shC 2 k a n := by
  obtain ⟨m, rfl⟩ : ∃ m, n = m + 1 := ⟨n - 1, by omega⟩
  have e : shC 2 k a (m + 1) = bit a m := rfl
  rw [e]
  unfold refC
  by_cases c : k < m + 1
  · rw [if_pos c, bit_big ha (by omega)]; rfl
  · rw [if_neg c]
    show stB 2 k (itX 2 k a m) = _
    rw [it2]; rfl
theorem compl_odd {N c : Nat} (h1 : 1 ≤ N) (hc : c < 2 ^ N) : (2 ^ N - 1 - c) % 2 = 1 - c % 2 := by
  rw [pow_half h1] at hc ⊢
  generalize 2 ^ (N - 1) = H at *
  omega
theorem sig_bit {k a m : Nat} (hk : k ≤ 64) (hm : m < 64) (ha : a < 2 ^ k) (ht : top k a = true) :
    bit (sig k a) m = ((2 ^ k - 1 - a) / 2 ^ m % 2 == 0) := by
  have hle := pow_le64 hk
  have e : sig k a = 2 ^ 64 - 1 - (2 ^ k - 1 - a) := by
    unfold sig
    rw [low_of_lt ha, if_pos ht, ← two64]; rw [two64] at *; omega
  have hc : 2 ^ k - 1 - a < 2 ^ 64 := by rw [two64]; omega
  unfold bit
  rw [e, compl_div (Nat.le_of_lt hm) hc]
  have hd : (2 ^ k - 1 - a) / 2 ^ m < 2 ^ (64 - m) := Nat.div_lt_of_lt_mul (by rw [← Nat.pow_add, show m + (64 - m) = 64 by omega]; exact hc)
  rw [compl_odd (by omega) hd]
  generalize (2 ^ k - 1 - a) / 2 ^ m = q
  rw [Bool.eq_iff_iff]; simp only [beq_iff_eq]; omega
theorem refC3 {k a n : Nat} (h1 : 1 ≤ k) (hk : k ≤ 64) (hn : 1 ≤ n) (hn64 : n < 64) (ha : a < 2 ^ k) : refC 3 k a n = shC 3 k a n := by
  obtain ⟨m, rfl⟩ : ∃ m, n = m + 1 := ⟨n - 1, by omega⟩
  have e : shC 3 k a (m + 1) = bit (sig k a) m := rfl
  rw [e]
  cases ht : top k a with
  | true =>
    rw [sig_bit hk (by omega) ha ht]
    unfold refC
    by_cases c : k < m + 1
    · rw [if_pos c, ht]
      have : 2 ^ k ≤ 2 ^ m := Nat.pow_le_pow_right (by decide) (by omega)
      rw [Nat.div_eq_of_lt (show 2 ^ k - 1 - a < 2 ^ m by omega)]; rfl
    · rw [if_neg c]
      show stB 3 k (itX 3 k a m) = _
      rw [it3 a m h1 ha, if_pos ht]
      have hd : (2 ^ k - 1 - a) / 2 ^ m < 2 ^ k := Nat.lt_of_le_of_lt (Nat.div_le_self _ _) (by have := Nat.two_pow_pos k; omega)
      show ((2 ^ k - 1 - (2 ^ k - 1 - a) / 2 ^ m) % 2 == 1) = _
      rw [compl_odd h1 hd]
      generalize (2 ^ k - 1 - a) / 2 ^ m = q
      rw [Bool.eq_iff_iff]; simp only [beq_iff_eq]; omega
  | false =>
    have es : sig k a = a := by unfold sig; rw [low_of_lt ha, ht, if_neg (by decide)]
    rw [es]
    unfold refC
    by_cases c : k < m + 1
    · rw [if_pos c, bit_big ha (by omega), ht]; rfl
    · rw [if_neg c]
      show stB 3 k (itX 3 k a m) = _
      rw [it3 a m h1 ha, ht, if_neg (by decide)]
      rfl
theorem stX_lt {op k a : Nat} (h1 : 1 ≤ op) (h5 : op ≤ 5) (hk1 : 1 ≤ k) (hk : k ≤ 64) (ha : a < 2 ^ k) : stX op k a < 2 ^ k := by
  have hh := pow_half hk1
  have ht := top_of_lt hk1 ha
  have hp := Nat.two_pow_pos (k - 1)
  have : op = 1 ∨ op = 2 ∨ op = 3 ∨ op = 4 ∨ op = 5 := by omega
  rcases this with rfl | rfl | rfl | rfl | rfl
  · exact low_lt _ _
  · show a / 2 < _; omega
  · show a / 2 + _ < _; split <;> omega
  · show low k _ + one _ < _
    rw [low_dbl _ hk, hh, Nat.mul_comm a 2, Nat.mul_mod_mul_left]
    have := one_le (top k a)
    have := Nat.mod_lt a hp
    omega
  · show a / 2 + _ < _; split <;> omega
theorem itX_lt {op k a : Nat} (n : Nat) (h1 : 1 ≤ op) (h5 : op ≤ 5) (hk1 : 1 ≤ k) (hk : k ≤ 64) (ha : a < 2 ^ k) : itX op k a n < 2 ^ k := by
  induction n with
  | zero => exact ha
  | succ n ih => exact stX_lt h1 h5 hk1 hk ih
theorem itX_sh {op k a n : Nat} (h1 : 1 ≤ op) (h5 : op ≤ 5) (hk1 : 1 ≤ k) (hk : k ≤ 64) (ha : a < 2 ^ k) : itX op k a n = shX op k a n := by
  have : op = 1 ∨ op = 2 ∨ op = 3 ∨ op = 4 ∨ op = 5 := by omega
  rcases this with rfl | rfl | rfl | rfl | rfl
  · rw [it1 a n hk ha]; show _ = low k (shl a n)
    unfold shl; rw [low_mod64 _ hk]; rfl
  · rw [it2]; rfl
  · rw [← sar_same a n hk1 hk ha]; rfl
  · rw [it4 a n hk1 hk ha]; rfl
  · rw [it5 a n hk1 hk ha]; rfl
theorem top_half {k x : Nat} (h2 : 2 ≤ k) (hk : k ≤ 64) : top k (low k (x * 2 % 18446744073709551616)) = bit x (k - 2) := by
  rw [low_dbl _ hk]
  have := top_dbl (a := x) (j := 1) (k := k) (by omega) (by omega)
  rw [Nat.pow_one] at this
  rw [this, show k - 1 - 1 = k - 2 by omega]
end WM
end Go.Proofs.Ytklepefljdiepaa
