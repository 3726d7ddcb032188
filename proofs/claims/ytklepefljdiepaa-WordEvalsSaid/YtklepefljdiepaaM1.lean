/- Words as natural numbers: low parts, top bits, signs, sums and differences, as the walks of this family use them. No program in sight. -/
import Derived.WalkKit
import Derived.Lib.BitFns
namespace Go.Proofs.Ytklepefljdiepaa
open Go.RowKit
namespace WM

theorem two64 : (2 : Nat) ^ 64 = 18446744073709551616 := by decide
def low (k a : Nat) : Nat := a % 2 ^ k
def top (k a : Nat) : Bool := a / 2 ^ (k - 1) % 2 == 1
def sig (k a : Nat) : Nat := if top k a = true then low k a + (18446744073709551616 - 2 ^ k) else low k a
def one (b : Bool) : Nat := if b then 1 else 0
/-- all bits the top bit of 64 -/
def sgn (a : Nat) : Nat := if 9223372036854775808 ≤ a then 18446744073709551615 else 0

theorem pow_le64 {k : Nat} (hk : k ≤ 64) : 2 ^ k ≤ 18446744073709551616 := by rw [← two64]; exact Nat.pow_le_pow_right (by decide) hk
theorem pow_pos' (k : Nat) : 0 < 2 ^ k := Nat.two_pow_pos _
theorem pow_split {k : Nat} (h : 1 ≤ k) : 2 ^ k = 2 ^ (k - 1) * 2 := by
  obtain ⟨j, rfl⟩ : ∃ j, k = j + 1 := ⟨k - 1, by omega⟩
  rw [Nat.pow_succ]; rfl
theorem pow_mul64 {k : Nat} (hk : k ≤ 64) : 2 ^ k * 2 ^ (64 - k) = 18446744073709551616 := by rw [← Nat.pow_add, show k + (64 - k) = 64 by omega, two64]

theorem low_lt (k a : Nat) : low k a < 2 ^ k := Nat.mod_lt _ (pow_pos' _)
theorem low_lt64 {k : Nat} (a : Nat) (hk : k ≤ 64) : low k a < 18446744073709551616 := Nat.lt_of_lt_of_le (low_lt k a) (pow_le64 hk)
theorem low_of_lt {k a : Nat} (h : a < 2 ^ k) : low k a = a := Nat.mod_eq_of_lt h
theorem low_low (k a : Nat) : low k (low k a) = low k a := low_of_lt (low_lt _ _)
theorem low_mod64 {k : Nat} (a : Nat) (hk : k ≤ 64) : low k (a % 18446744073709551616) = low k a := by
  unfold low; rw [← pow_mul64 hk, Nat.mod_mul_right_mod]
theorem low_64 {a : Nat} (h : a < 18446744073709551616) : low 64 a = a := low_of_lt (by rw [two64]; exact h)
theorem top_low {k : Nat} (a : Nat) (hk : 1 ≤ k) : top k (low k a) = top k a := by
  unfold top low; rw [pow_split hk, Nat.mod_mul_right_div_self]; simp
theorem top_of_lt {k a : Nat} (hk : 1 ≤ k) (h : a < 2 ^ k) : top k a = decide (2 ^ (k - 1) ≤ a) := by
  have hp := pow_pos' (k - 1)
  rw [pow_split hk] at h
  unfold top
  by_cases c : 2 ^ (k - 1) ≤ a
  · have e : a / 2 ^ (k - 1) = 1 := by
      apply Nat.div_eq_of_lt_le <;> omega
    rw [e]; simp [c]
  · rw [Nat.div_eq_of_lt (by omega)]; simp [c]
theorem sig_lt {k : Nat} (a : Nat) (hk : k ≤ 64) : sig k a < 18446744073709551616 := by
  have h1 := low_lt k a
  have h2 := pow_le64 hk
  unfold sig; split <;> omega
theorem sgn_lt (a : Nat) : sgn a < 18446744073709551616 := by unfold sgn; split <;> omega
theorem one_le (b : Bool) : one b ≤ 1 := by cases b <;> decide

theorem shl_low {k : Nat} (a : Nat) (hk : k ≤ 64) : a * 2 ^ (64 - k) % 18446744073709551616 = low k a * 2 ^ (64 - k) := by
  rw [← pow_mul64 hk, Nat.mul_mod_mul_right]; rfl
theorem shl_shr {k : Nat} (a : Nat) (hk : k ≤ 64) : a * 2 ^ (64 - k) % 18446744073709551616 / 2 ^ (64 - k) = low k a := by
  rw [shl_low a hk, Nat.mul_div_cancel _ (pow_pos' _)]

def addLo (a b c : Nat) : Nat := (a + b + c) % 18446744073709551616
def addHi (a b c : Nat) : Nat := (a + b + c) / 18446744073709551616
/-- the difference modulo 2^64 (no sum with a long numeral: the kernel would count it up) -/
def subLo (a b c : Nat) : Nat := (a + (18446744073709551616 - b) + (18446744073709551616 - c)) % 18446744073709551616
theorem subLo_eq {a b c : Nat} (hb : b < 18446744073709551616) (hc : c ≤ 1) : (a + 18446744073709551616 - b - c) % 18446744073709551616 = subLo a b c := by unfold subLo; omega
def subHi (a b c : Nat) : Nat := if a < b + c then 1 else 0

/-- sums and differences of low parts, with the carry and the overflow, as layer 1 reckons them -/
def addX (k a b c : Nat) : Nat := low k (addLo a b c)
def addC (k a b c : Nat) : Bool := addHi a b c == 1 || addX k a b c != addLo a b c
def addO (k a b c : Nat) : Bool := top k a == top k b && top k (addX k a b c) != top k a
def subX (k a b c : Nat) : Nat := low k (subLo a b c)
def subC (a b c : Nat) : Bool := decide (a < b + c)
def subO (k a b c : Nat) : Bool := top k a != top k b && top k (subX k a b c) == top k b
theorem addLo_lt (a b c : Nat) : addLo a b c < 18446744073709551616 := Nat.mod_lt _ (by decide)
theorem subLo_lt (a b c : Nat) : subLo a b c < 18446744073709551616 := Nat.mod_lt _ (by decide)

/-- products with signs -/
def wideHi (a b : Nat) : Nat := a * b / 18446744073709551616
def wideLo (a b : Nat) : Nat := a * b % 18446744073709551616
def wsHi (a b : Nat) : Nat := subLo (subLo (wideHi a b) (sgn a &&& b) 0) (sgn b &&& a) 0
def mulX (k a b : Nat) : Nat := low k (wideLo (sig k a) (sig k b))
def mulC (k a b : Nat) : Bool := wideLo (sig k a) (sig k b) != sig k (mulX k a b) || wsHi (sig k a) (sig k b) != sgn (sig k (mulX k a b))
theorem wideLo_lt (a b : Nat) : wideLo a b < 18446744073709551616 := Nat.mod_lt _ (by decide)
theorem wideHi_lt {a b : Nat} (ha : a < 18446744073709551616) (hb : b < 18446744073709551616) : wideHi a b < 18446744073709551616 :=
  Nat.div_lt_of_lt_mul (Nat.mul_lt_mul'' ha hb)
theorem wsHi_lt (a b : Nat) : wsHi a b < 18446744073709551616 := subLo_lt _ _ _
/-- what an operation of two low parts comes to -/
def binX (op k a b c : Nat) : Nat :=
  if op = 1 then addX k a b 0 else if op = 2 then addX k a b c else if op = 3 then subX k a b 0 else if op = 4 then subX k a b c else
  if op = 5 then a &&& b else if op = 6 then a ||| b else if op = 7 then a ^^^ b else mulX k a b
def binC (op k a b c : Nat) : Bool :=
  if op = 1 then addC k a b 0 else if op = 2 then addC k a b c else if op = 3 then subC a b 0 else if op = 4 then subC a b c else if op = 8 then mulC k a b else false
def binO (op k a b c : Nat) : Bool :=
  if op = 1 then addO k a b 0 else if op = 2 then addO k a b c else if op = 3 then subO k a b 0 else if op = 4 then subO k a b c else if op = 8 then mulC k a b else false
/-- Flags: carry, zero, sign, overflow, parity. -/
structure Fl where
  c : Bool
  z : Bool
  s : Bool
  o : Bool
  p : Bool
def Fl.val (f : Fl) : Value := .agg #[.bool f.c, .bool f.z, .bool f.s, .bool f.o, .bool f.p]
theorem addX_lt {k : Nat} (a b c : Nat) (hk : k ≤ 64) : addX k a b c < 18446744073709551616 := low_lt64 _ hk
theorem subX_lt {k : Nat} (a b c : Nat) (hk : k ≤ 64) : subX k a b c < 18446744073709551616 := low_lt64 _ hk
theorem mulX_lt {k : Nat} (a b : Nat) (hk : k ≤ 64) : mulX k a b < 18446744073709551616 := low_lt64 _ hk
theorem binX_lt {k : Nat} (op a b c : Nat) (_hk : k ≤ 64) (ha : a < 2 ^ k) (hb : b < 2 ^ k) : binX op k a b c < 2 ^ k := by
  unfold binX
  have l := fun x => low_lt k x
  repeat' split
  · exact l _
  · exact l _
  · exact l _
  · exact l _
  · exact Nat.lt_of_le_of_lt Nat.and_le_right hb
  · exact Nat.or_lt_two_pow ha hb
  · exact Nat.xor_lt_two_pow ha hb
  · exact l _
/-- what an operation comes to at a width, with the flags behind it -/
def doX (op k a b : Nat) (c : Bool) : Nat := binX op k (low k a) (low k b) (one c)
theorem doX_lt (op k a b : Nat) (c : Bool) (hk : k ≤ 64) : doX op k a b c < 2 ^ k := binX_lt _ _ _ _ hk (low_lt _ _) (low_lt _ _)
theorem doX_lt64 (op k a b : Nat) (c : Bool) (hk : k ≤ 64) : doX op k a b c < 18446744073709551616 := Nat.lt_of_lt_of_le (doX_lt _ _ _ _ _ hk) (pow_le64 hk)
theorem doX_def (op k a b : Nat) (c : Bool) : binX op k (low k a) (low k b) (one c) = doX op k a b c := rfl
theorem binX_lt64 (op k a b : Nat) (c : Bool) (hk : k ≤ 64) : binX op k (low k a) (low k b) (one c) < 18446744073709551616 := by rw [doX_def]; exact doX_lt64 _ _ _ _ _ hk
theorem addX_eq (k a b c : Nat) : ((low k (addLo a b c) : Nat) : Int) = ((addX k a b c : Nat) : Int) := rfl
theorem subX_eq (k a b c : Nat) : ((low k (subLo a b c) : Nat) : Int) = ((subX k a b c : Nat) : Int) := rfl
theorem subC_eq (a b c : Nat) : (((subHi a b c : Nat) : Int) == 1) = subC a b c := by
  unfold subHi subC; rw [Bool.eq_iff_iff]; split <;> simp [*]

/-- how many of the lowest eight bits are ones, by the library's count -/
def par (a : Nat) : Bool := Lib.onesCount (a % 256) % 2 == 0
theorem par_eq (a : Nat) : (((Lib.onesCount (a % 256) : Nat) : Int) % 2 == 0) = par a := by unfold par; rw [Bool.eq_iff_iff]; simp only [beq_iff_eq]; omega
def doF (op k a b : Nat) (c : Bool) : Fl :=
  ⟨binC op k (low k a) (low k b) (one c), doX op k a b c == 0, top k (doX op k a b c), binO op k (low k a) (low k b) (one c), par (doX op k a b c)⟩
/-! the same in the walk's own form -/
theorem w_shl (a n : Nat) : IntKind.u64.wrap ((a : Int) * 2 ^ n) = ((a * 2 ^ n % 18446744073709551616 : Nat) : Int) := by
  rw [IntKind.wrap_u64, Int.natCast_emod, Int.natCast_mul, Int.natCast_pow]; rfl
theorem w_div (a n : Nat) : ((a : Int) / 2 ^ n) = ((a / 2 ^ n : Nat) : Int) := by rw [Int.natCast_ediv, Int.natCast_pow]; rfl
theorem w_low {k : Nat} (a : Nat) (hk : k ≤ 64) : IntKind.u64.wrap ((a : Int) * 2 ^ (64 - k)) / 2 ^ (64 - k) = ((low k a : Nat) : Int) := by
  rw [w_shl, w_div, shl_shr a hk]
theorem w_and1 (a : Nat) (h : a < 18446744073709551616) : bits .and .u64 (a : Int) 1 = ((a % 2 : Nat) : Int) := by
  have h1 : (BitVec.ofInt 64 (a : Int)).toNat = a := by
    rw [BitVec.ofInt_natCast, BitVec.toNat_ofNat]; exact Nat.mod_eq_of_lt (by omega)
  have h2 : (BitVec.ofInt 64 (1 : Int)).toNat = 1 := by decide
  show IntKind.u64.wrap ((BitVec.ofInt 64 (a : Int) &&& BitVec.ofInt 64 (1 : Int)).toNat : Int) = _
  rw [BitVec.toNat_and, h1, h2, Nat.and_one_is_mod, IntKind.wrap_u64]; omega
theorem w_and (a b : Nat) (ha : a < 18446744073709551616) (hb : b < 18446744073709551616) : bits .and .u64 (a : Int) (b : Int) = ((a &&& b : Nat) : Int) := by
  have h1 : (BitVec.ofInt 64 (a : Int)).toNat = a := by
    rw [BitVec.ofInt_natCast, BitVec.toNat_ofNat]; exact Nat.mod_eq_of_lt (by omega)
  have h2 : (BitVec.ofInt 64 (b : Int)).toNat = b := by
    rw [BitVec.ofInt_natCast, BitVec.toNat_ofNat]; exact Nat.mod_eq_of_lt (by omega)
  have h3 : a &&& b ≤ a := Nat.and_le_left
  show IntKind.u64.wrap ((BitVec.ofInt 64 (a : Int) &&& BitVec.ofInt 64 (b : Int)).toNat : Int) = _
  rw [BitVec.toNat_and, h1, h2, IntKind.wrap_u64]; omega
theorem w_or (a b : Nat) (ha : a < 18446744073709551616) (hb : b < 18446744073709551616) : bits .or .u64 (a : Int) (b : Int) = ((a ||| b : Nat) : Int) := by
  have h1 : (BitVec.ofInt 64 (a : Int)).toNat = a := by
    rw [BitVec.ofInt_natCast, BitVec.toNat_ofNat]; exact Nat.mod_eq_of_lt (by omega)
  have h2 : (BitVec.ofInt 64 (b : Int)).toNat = b := by
    rw [BitVec.ofInt_natCast, BitVec.toNat_ofNat]; exact Nat.mod_eq_of_lt (by omega)
  have h3 : a ||| b < 2 ^ 64 := Nat.or_lt_two_pow (by omega) (by omega)
  show IntKind.u64.wrap ((BitVec.ofInt 64 (a : Int) ||| BitVec.ofInt 64 (b : Int)).toNat : Int) = _
  rw [BitVec.toNat_or, h1, h2, IntKind.wrap_u64]; omega
theorem w_xor (a b : Nat) (ha : a < 18446744073709551616) (hb : b < 18446744073709551616) : bits .xor .u64 (a : Int) (b : Int) = ((a ^^^ b : Nat) : Int) := bits_xor_u64_nat a b ha hb
theorem w_top {k : Nat} (a : Nat) (h : a < 18446744073709551616) : (bits .and .u64 ((a : Int) / 2 ^ (k - 1)) 1 == 1) = top k a := by
  rw [w_div, w_and1 _ (Nat.lt_of_le_of_lt (Nat.div_le_self _ _) h)]
  unfold top
  rw [Bool.eq_iff_iff]; simp only [beq_iff_eq]; omega
theorem w_sub (a b : Nat) (hb : b < 18446744073709551616) : IntKind.u64.wrap ((a : Int) - (b : Int)) = ((subLo a b 0 : Nat) : Int) := by
  rw [IntKind.wrap_u64]; unfold subLo; omega
theorem and_lt (a b : Nat) (hb : b < 18446744073709551616) : a &&& b < 18446744073709551616 := Nat.lt_of_le_of_lt Nat.and_le_right hb
theorem w_ws (a b : Nat) (ha : a < 18446744073709551616) (hb : b < 18446744073709551616) :
    IntKind.u64.wrap (IntKind.u64.wrap (((wideHi a b : Nat) : Int) - bits .and .u64 ((sgn a : Nat) : Int) (b : Int)) - bits .and .u64 ((sgn b : Nat) : Int) (a : Int)) = ((wsHi a b : Nat) : Int) := by
  rw [w_and _ _ (sgn_lt a) hb, w_and _ _ (sgn_lt b) ha, w_sub _ _ (and_lt _ _ hb), w_sub _ _ (and_lt _ _ ha)]; rfl
theorem w_signs (a : Nat) (h : a < 18446744073709551616) : IntKind.u64.wrap (wrap64 (a : Int) / 9223372036854775808) = ((sgn a : Nat) : Int) := by
  rw [IntKind.wrap_u64]; unfold wrap64 sgn
  split <;> omega
theorem w_sig {k : Nat} (a : Nat) (h1 : 1 ≤ k) (hk : k ≤ 64) : IntKind.u64.wrap (wrap64 (IntKind.u64.wrap ((a : Int) * 2 ^ (64 - k))) / 2 ^ (64 - k)) = ((sig k a : Nat) : Int) := by
  rw [w_shl, shl_low a hk]
  have hp : 0 < 2 ^ (64 - k) := pow_pos' _
  have hm := pow_mul64 hk
  have hs := pow_split h1
  have hl := low_lt k a
  have ht := top_of_lt h1 hl
  rw [top_low a h1] at ht
  have hM : 2 ^ (k - 1) * 2 ^ (64 - k) * 2 = 18446744073709551616 := by rw [← hm, hs]; ac_rfl
  have hle := pow_le64 hk
  unfold sig
  rw [ht]
  generalize hL : low k a = L at *
  generalize hP : 2 ^ (64 - k) = P at *
  generalize hK : 2 ^ k = K at *
  have eP : ((2 : Int) ^ (64 - k)) = (P : Int) := by rw [← hP]; push_cast; rfl
  rw [eP]
  by_cases c : 2 ^ (k - 1) ≤ L
  · have c2 : 9223372036854775808 ≤ L * P := by
      have := Nat.mul_le_mul_right P c
      omega
    have c3 : L * P < 18446744073709551616 := by
      rw [← hm]; exact Nat.mul_lt_mul_of_pos_right hl hp
    have e1 : wrap64 ((L * P : Nat) : Int) = (L : Int) * P + (-(K : Int)) * P := by
      have : ((K * P : Nat) : Int) = 18446744073709551616 := by rw [hm]; rfl
      have h4 : (K : Int) * (P : Int) = 18446744073709551616 := by rw [← Int.natCast_mul]; exact this
      unfold wrap64
      rw [Int.neg_mul, h4, ← Int.natCast_mul]
      omega
    rw [e1, Int.add_mul_ediv_right _ _ (by omega), Int.mul_ediv_cancel _ (by omega), IntKind.wrap_u64]
    simp [c]
    omega
  · have c2 : L * P < 9223372036854775808 := by
      have := Nat.mul_lt_mul_of_pos_right (show L < 2 ^ (k - 1) by omega) hp
      omega
    have e1 : wrap64 ((L * P : Nat) : Int) = (L : Int) * P := by
      unfold wrap64
      rw [← Int.natCast_mul]; omega
    rw [e1, Int.mul_ediv_cancel _ (by omega), IntKind.wrap_u64]
    simp [c]
    omega
end WM
/-- flags: carry, zero, sign, overflow, parity -/
theorem agg5 {b1 b2 b3 b4 b5 c1 c2 c3 c4 c5 : Bool} (h1 : b1 = c1) (h2 : b2 = c2) (h3 : b3 = c3) (h4 : b4 = c4) (h5 : b5 = c5) :
    (Value.agg #[.bool b1, .bool b2, .bool b3, .bool b4, .bool b5]) = .agg #[.bool c1, .bool c2, .bool c3, .bool c4, .bool c5] := by rw [h1, h2, h3, h4, h5]
theorem zero_eq (x : Nat) : ((x : Int) == 0) = (x == 0) := by rw [Bool.eq_iff_iff]; simp only [beq_iff_eq]; omega
theorem ret_ibb {k : IntKind} {a a' : Int} {b b' c c' : Bool} (h : a = a') (hb : b = b') (hc : c = c') : Ending.returned (.tuple #[.int k a, .bool b, .bool c]) = .returned (.tuple #[.int k a', .bool b', .bool c']) := by rw [h, hb, hc]
theorem ret_ii {k : IntKind} {a a' b b' : Int} (h : a = a') (hb : b = b') : Ending.returned (.tuple #[.int k a, .int k b]) = .returned (.tuple #[.int k a', .int k b']) := by rw [h, hb]
theorem ret_int {k : IntKind} {a b : Int} (h : a = b) : Ending.returned (.int k a) = .returned (.int k b) := by rw [h]
theorem ret_bool {a b : Bool} (h : a = b) : Ending.returned (.bool a) = .returned (.bool b) := by rw [h]
end Go.Proofs.Ytklepefljdiepaa
