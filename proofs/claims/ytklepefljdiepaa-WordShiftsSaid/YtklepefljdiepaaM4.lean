/- A product of two words by halves is the product. No program in sight. -/
import Derived.Test.YtklepefljdiepaaM3
namespace Go.Proofs.Ytklepefljdiepaa
open Go.RowKit
namespace WM
theorem prodB (a b : Nat) (ha : a < 4294967296) (hb : b < 4294967296) : a * b ≤ 18446744065119617025 :=
  Nat.mul_le_mul (Nat.le_of_lt_succ ha : a ≤ 4294967295) (Nat.le_of_lt_succ hb : b ≤ 4294967295)
theorem wide_split (a b : Nat) : a * b = (a / 4294967296) * (b / 4294967296) * 18446744073709551616 + ((a / 4294967296) * (b % 4294967296) + (a % 4294967296) * (b / 4294967296)) * 4294967296 + (a % 4294967296) * (b % 4294967296) := by
  have ea : a = 4294967296 * (a / 4294967296) + a % 4294967296 := (Nat.div_add_mod a 4294967296).symm
  have eb : b = 4294967296 * (b / 4294967296) + b % 4294967296 := (Nat.div_add_mod b 4294967296).symm
  generalize a / 4294967296 = y at *
  generalize a % 4294967296 = x at *
  generalize b / 4294967296 = v at *
  generalize b % 4294967296 = u at *
  subst ea eb
  grind
structure Parts (a b x y u v L XV M YU R YV S : Nat) : Prop where
  hx : (a : Int) % 4294967296 = (x : Int)
  hy : (a : Int) / 4294967296 = (y : Int)
  hu : (b : Int) % 4294967296 = (u : Int)
  hv : (b : Int) / 4294967296 = (v : Int)
  hL : IntKind.u64.wrap ((x : Int) * u) = (L : Int)
  hXV : IntKind.u64.wrap ((x : Int) * v) = (XV : Int)
  hM : IntKind.u64.wrap ((L : Int) / 4294967296 + XV) = (M : Int)
  hYU : IntKind.u64.wrap ((y : Int) * u) = (YU : Int)
  hR : IntKind.u64.wrap ((M : Int) % 4294967296 + YU) = (R : Int)
  hYV : IntKind.u64.wrap ((y : Int) * v) = (YV : Int)
  hS : IntKind.u64.wrap ((YV : Int) + (M : Int) / 4294967296) = (S : Int)
  hT : IntKind.u64.wrap ((S : Int) + (R : Int) / 4294967296) = ((wideHi a b : Nat) : Int)
  bL : L < 18446744073709551616
  bM : M < 18446744073709551616
  bR : R < 18446744073709551616
theorem parts (a b : Nat) (ha : a < 18446744073709551616) (hb : b < 18446744073709551616) : ∃ x y u v L XV M YU R YV S, Parts a b x y u v L XV M YU R YV S := by
  have hs := wide_split a b
  have l1 : a % 4294967296 < 4294967296 := Nat.mod_lt _ (by decide)
  have l2 : b % 4294967296 < 4294967296 := Nat.mod_lt _ (by decide)
  have l3 : a / 4294967296 < 4294967296 := by omega
  have l4 : b / 4294967296 < 4294967296 := by omega
  refine ⟨a % 4294967296, a / 4294967296, b % 4294967296, b / 4294967296, (a % 4294967296) * (b % 4294967296), (a % 4294967296) * (b / 4294967296), (a % 4294967296) * (b % 4294967296) / 4294967296 + (a % 4294967296) * (b / 4294967296), (a / 4294967296) * (b % 4294967296), ((a % 4294967296) * (b % 4294967296) / 4294967296 + (a % 4294967296) * (b / 4294967296)) % 4294967296 + (a / 4294967296) * (b % 4294967296), (a / 4294967296) * (b / 4294967296), (a / 4294967296) * (b / 4294967296) + ((a % 4294967296) * (b % 4294967296) / 4294967296 + (a % 4294967296) * (b / 4294967296)) / 4294967296, ?_⟩
  have p1 := prodB _ _ l1 l2
  have p2 := prodB _ _ l1 l4
  have p3 := prodB _ _ l3 l2
  have p4 := prodB _ _ l3 l4
  have hh : wideHi a b = a * b / 18446744073709551616 := rfl
  rw [hs] at hh
  constructor
  all_goals first | omega | skip
  all_goals (try rw [IntKind.wrap_u64, ← Int.natCast_mul])
  all_goals (try rw [hh])
  all_goals (try rw [IntKind.wrap_u64])
  all_goals
    generalize (a % 4294967296) * (b % 4294967296) = P1 at *
    generalize (a % 4294967296) * (b / 4294967296) = P2 at *
    generalize (a / 4294967296) * (b % 4294967296) = P3 at *
    generalize (a / 4294967296) * (b / 4294967296) = P4 at *
    omega
end WM
end Go.Proofs.Ytklepefljdiepaa
