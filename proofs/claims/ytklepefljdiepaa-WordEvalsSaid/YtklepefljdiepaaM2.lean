/- Shifts and rotations of low parts as natural numbers, as layer 1 reckons them. No program in sight. -/
import Derived.Test.YtklepefljdiepaaM1
namespace Go.Proofs.Ytklepefljdiepaa
open Go.RowKit
namespace WM
def bit (a i : Nat) : Bool := a / 2 ^ i % 2 == 1
/-- a word shifted to the left, within 64 bits -/
def shl (a n : Nat) : Nat := a * 2 ^ n % 18446744073709551616
/-- a word with its sign, shifted to the right -/
def sar (s n : Nat) : Nat := if 9223372036854775808 ≤ s then 18446744073709551615 - (18446744073709551615 - s) / 2 ^ n else s / 2 ^ n
def rot (k a m : Nat) : Nat := low k (shl a m ||| a / 2 ^ (k - m))
def shX (op k a n : Nat) : Nat :=
  if op = 1 then low k (shl a n) else if op = 2 then a / 2 ^ n else if op = 3 then low k (sar (sig k a) n) else if op = 4 then rot k a (n % k) else rot k a (k - n % k)
def shC (op k a n : Nat) : Bool :=
  if op = 1 then decide (n ≤ k) && bit a (k - n) else if op = 2 then bit a (n - 1) else if op = 3 then bit (sig k a) (n - 1) else if op = 4 then bit (rot k a (n % k)) 0 else top k (rot k a (k - n % k))
def shO (op k a n : Nat) : Bool :=
  if op = 1 then shC 1 k a n != top k (shX 1 k a n) else if op = 2 then top k a else if op = 3 then false else if op = 4 then shC 4 k a n != top k (shX 4 k a n) else top k (shX 5 k a n) != bit (shX 5 k a n) (k - 2)
def counted (k n : Nat) : Nat := if k = 64 then n % 64 else n % 32

/-- what a shift comes to at a width, with the flags behind it -/
def shiftX (op k a n : Nat) : Nat := if counted k n = 0 then low k a else shX op k (low k a) (counted k n)
def shiftF (op k a n : Nat) (f : Fl) : Fl :=
  if counted k n = 0 then f else
  if op < 4 then ⟨shC op k (low k a) (counted k n), shiftX op k a n == 0, top k (shiftX op k a n), shO op k (low k a) (counted k n), par (shiftX op k a n)⟩
  else { f with c := shC op k (low k a) (counted k n), o := shO op k (low k a) (counted k n) }
theorem shl_lt (a n : Nat) : shl a n < 18446744073709551616 := Nat.mod_lt _ (by decide)
theorem sar_lt (s n : Nat) (h : s < 18446744073709551616) : sar s n < 18446744073709551616 := by
  unfold sar; split
  · exact Nat.lt_of_le_of_lt (Nat.sub_le _ _) (by decide)
  · exact Nat.lt_of_le_of_lt (Nat.div_le_self _ _) h
theorem rot_lt (k a m : Nat) : rot k a m < 2 ^ k := low_lt _ _
theorem shX_lt {op k a n : Nat} (h : a < 2 ^ k) : shX op k a n < 2 ^ k := by
  unfold shX
  repeat' split
  · exact low_lt _ _
  · exact Nat.lt_of_le_of_lt (Nat.div_le_self _ _) h
  · exact low_lt _ _
  · exact rot_lt _ _ _
  · exact rot_lt _ _ _
theorem shiftX_lt (op k a n : Nat) : shiftX op k a n < 2 ^ k := by
  unfold shiftX; split
  · exact low_lt _ _
  · exact shX_lt (low_lt _ _)
theorem counted_lt (k n : Nat) : counted k n < 64 := by unfold counted; split <;> omega
theorem counted_lt' {k n : Nat} (hk : k ≠ 64) : counted k n < 32 := by unfold counted; split <;> omega

theorem w_bit (a i : Nat) (h : a < 18446744073709551616) : (bits .and .u64 ((a : Int) / 2 ^ i) 1 == 1) = bit a i := by
  rw [w_div, w_and1 _ (Nat.lt_of_le_of_lt (Nat.div_le_self _ _) h)]
  unfold bit
  rw [Bool.eq_iff_iff]; simp only [beq_iff_eq]; omega
theorem w_shl' (a n : Nat) : IntKind.u64.wrap ((a : Int) * 2 ^ n) = ((shl a n : Nat) : Int) := w_shl a n
theorem w_sar (s n : Nat) (h : s < 18446744073709551616) : IntKind.u64.wrap (wrap64 (s : Int) / 2 ^ n) = ((sar s n : Nat) : Int) := by
  rw [IntKind.wrap_u64]
  have hp : 0 < 2 ^ n := Nat.two_pow_pos n
  have eP : ((2 : Int) ^ n) = ((2 ^ n : Nat) : Int) := by rw [Int.natCast_pow]; rfl
  rw [eP]
  unfold sar
  generalize 2 ^ n = P at *
  have hq := Nat.div_le_self (18446744073709551615 - s) P
  by_cases c : 9223372036854775808 ≤ s
  · rw [if_pos c]
    have e1 : wrap64 (s : Int) = -(((18446744073709551615 - s : Nat) : Int) + 1) := by unfold wrap64; omega
    rw [e1]
    have e2 : (-(((18446744073709551615 - s : Nat) : Int) + 1)) / (P : Int) = -((((18446744073709551615 - s) / P : Nat) : Int) + 1) := by
      generalize 18446744073709551615 - s = t
      have h1 : t % P < P := Nat.mod_lt _ hp
      have h2 : (t : Int) = (P : Int) * ((t / P : Nat) : Int) + ((t % P : Nat) : Int) := by rw [← Int.natCast_mul, ← Int.natCast_add, Nat.div_add_mod]
      have h3 : -((t : Int) + 1) = ((P : Int) - 1 - ((t % P : Nat) : Int)) + (P : Int) * (-(((t / P : Nat) : Int) + 1)) := by
        rw [h2, Int.mul_neg, Int.mul_add, Int.mul_one]; omega
      rw [h3, Int.add_mul_ediv_left _ _ (by omega), Int.ediv_eq_zero_of_lt (by omega) (by omega)]; omega
    rw [e2]
    clear e1 e2
    generalize (18446744073709551615 - s) / P = q at *
    omega
  · rw [if_neg c]
    have e1 : wrap64 (s : Int) = (s : Int) := by unfold wrap64; omega
    rw [e1, ← Int.natCast_ediv]
    have := Nat.div_le_self s P
    clear e1 hq
    generalize s / P = q at *
    omega
theorem w_rot {k a m : Nat} (ha : a < 18446744073709551616) (_hm : m ≤ k) : bits .or .u64 (IntKind.u64.wrap ((a : Int) * 2 ^ m)) ((a : Int) / 2 ^ (k - m)) = ((shl a m ||| a / 2 ^ (k - m) : Nat) : Int) := by
  rw [w_shl', w_div, w_or _ _ (shl_lt _ _) (Nat.lt_of_le_of_lt (Nat.div_le_self _ _) ha)]
end WM
end Go.Proofs.Ytklepefljdiepaa
