/- Conditions of flags, and the language's operations, as layer 1 reckons them. No program in sight. -/
import Derived.Test.YtklepefljdiepaaM2
namespace Go.Proofs.Ytklepefljdiepaa
open Go.RowKit
namespace WM
/-- each bit of 64 turned -/
def comp (a : Nat) : Nat := 18446744073709551615 - a
def holdsE (c : Nat) (f : Fl) : Bool :=
  if c = 0 then f.o else if c = 2 then f.c else if c = 4 then f.z else if c = 6 then f.z || f.c else if c = 8 then f.s else if c = 10 then f.p else if c = 12 then f.s != f.o else f.z || f.s != f.o
def holds (c : Nat) (f : Fl) : Bool := holdsE (c - c % 2) f != (c % 2 == 1)
/-- how many words an operation of the language takes; 0: it takes none -/
def args (op : Int) : Nat := if op = 4 ∨ op = 5 then 1 else if 6 ≤ op ∧ op ≤ 20 then 2 else if op = 21 then 3 else 0
def rotl (a n : Nat) : Nat := shl a n ||| a / 2 ^ (64 - n)
/-- what an operation of the language comes to, of three words (those that it does not take count for nothing) -/
def ev (op a b c : Nat) : Nat :=
  if op = 4 then comp a else if op = 5 then subLo 0 a 0 else
  if op = 6 then (a + b) % 18446744073709551616 else if op = 7 then subLo a b 0 else if op = 8 then a * b % 18446744073709551616 else
  if op = 9 then a &&& b else if op = 10 then a ||| b else if op = 11 then a ^^^ b else
  if op = 12 then shl a (b % 64) else if op = 13 then a / 2 ^ (b % 64) else if op = 14 then sar a (b % 64) else
  if op = 15 then rotl a (b % 64) else if op = 16 then rotl a ((64 - b % 64) % 64) else
  if op = 17 then one (a == b) else if op = 18 then one (a != b) else if op = 19 then one (decide (a < b)) else if op = 20 then one (decide (a ≤ b)) else
  if a = 0 then c else b
theorem rotl_lt (a n : Nat) (h : a < 18446744073709551616) : rotl a n < 18446744073709551616 := by
  have := Nat.or_lt_two_pow (n := 64) (show shl a n < 2 ^ 64 from shl_lt a n) (show a / 2 ^ (64 - n) < 2 ^ 64 from Nat.lt_of_le_of_lt (Nat.div_le_self _ _) h)
  exact this
theorem comp_lt (a : Nat) : comp a < 18446744073709551616 := Nat.lt_of_le_of_lt (Nat.sub_le _ _) (by decide)
theorem w_and63 (a : Nat) (h : a < 18446744073709551616) : bits .and .u64 (a : Int) 63 = ((a % 64 : Nat) : Int) := by
  have e := w_and a 63 h (by decide)
  rw [show ((63 : Nat) : Int) = 63 from rfl] at e
  rw [e, show (63 : Nat) = 2 ^ 6 - 1 from by decide, Nat.and_two_pow_sub_one_eq_mod]
theorem w_neg (a : Nat) (h : a < 18446744073709551616) : IntKind.u64.wrap (-(a : Int)) = ((subLo 0 a 0 : Nat) : Int) := by
  rw [IntKind.wrap_u64]; unfold subLo; omega
theorem w_add (a b : Nat) : IntKind.u64.wrap ((a : Int) + (b : Int)) = (((a + b) % 18446744073709551616 : Nat) : Int) := by
  rw [IntKind.wrap_u64]; omega
theorem w_mul (a b : Nat) : IntKind.u64.wrap ((a : Int) * (b : Int)) = ((a * b % 18446744073709551616 : Nat) : Int) := by
  rw [IntKind.wrap_u64, ← Int.natCast_mul]; omega
theorem w_rotl (a m : Nat) (ha : a < 18446744073709551616) (hm : m ≤ 64) : bits .or .u64 (IntKind.u64.wrap ((a : Int) * 2 ^ m)) ((a : Int) / 2 ^ (64 - m)) = ((rotl a m : Nat) : Int) := w_rot (k := 64) ha hm
theorem run_comp (a : Nat) (ha : a < 18446744073709551616) : Op.unary .xor (.int .u64 (a : Int)) = pure (.int .u64 ((comp a : Nat) : Int)) := by
  have h1 : (BitVec.ofInt 64 (a : Int)).toNat = a := by
    rw [BitVec.ofInt_natCast, BitVec.toNat_ofNat]; exact Nat.mod_eq_of_lt (by omega)
  have h2 : BitVec.ofInt 64 18446744073709551615 = BitVec.allOnes 64 := by decide
  have e : bits .xor .u64 18446744073709551615 (a : Int) = ((comp a : Nat) : Int) := by
    show IntKind.u64.wrap ((BitVec.ofInt 64 18446744073709551615 ^^^ BitVec.ofInt 64 (a : Int)).toNat : Int) = _
    rw [h2, BitVec.allOnes_xor, BitVec.toNat_not, h1, IntKind.wrap_u64]
    unfold comp
    omega
  show pure (Value.int .u64 (bits .xor .u64 18446744073709551615 (a : Int))) = _
  rw [e]
end WM
end Go.Proofs.Ytklepefljdiepaa
