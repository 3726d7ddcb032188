/- Contracts of layer 1's exported calls at a width that is one, with their answers under names of their own. -/
import Derived.Test.YtklepefljdiepaaW11
import Derived.Test.YtklepefljdiepaaM5
namespace Go.Proofs.Ytklepefljdiepaa
open Go.RowKit
theorem isW_nat {k : Int} (h : isW k = true) : ∃ j : Nat, k = (j : Int) ∧ (j = 8 ∨ j = 16 ∨ j = 32 ∨ j = 64) := by
  unfold isW at h
  simp only [Bool.or_eq_true, beq_iff_eq] at h
  rcases h with ((h | h) | h) | h
  · exact ⟨8, h, by omega⟩
  · exact ⟨16, h, by omega⟩
  · exact ⟨32, h, by omega⟩
  · exact ⟨64, h, by omega⟩
theorem lowE_ok {k a L : Nat} (hk : isW k = true) (hL : WM.low k a = L) (w : World) :
    Calls Try.prog 18 #[.int .i64 k, .int .u64 a] w fun e w' => e = .returned (.tuple #[.int .u64 (L : Int), .int .i64 0]) ∧ w = w' := by
  have := lowE_any k a w (by omega)
  rw [if_pos hk, if_pos hk, Int.toNat_natCast, Int.toNat_natCast, hL] at this
  exact this
theorem lowE_bad {k a : Int} (hk : isW k = false) (ha : 0 ≤ a) (w : World) :
    Calls Try.prog 18 #[.int .i64 k, .int .u64 a] w fun e w' => e = .returned (.tuple #[.int .u64 0, .int .i64 2]) ∧ w = w' := by
  have := lowE_any k a w ha
  rw [if_neg (by rw [hk]; decide), if_neg (by rw [hk]; decide)] at this
  exact this
theorem sigE_ok {k a L : Nat} (hk : isW k = true) (hL : WM.sig k a = L) (w : World) :
    Calls Try.prog 19 #[.int .i64 k, .int .u64 a] w fun e w' => e = .returned (.tuple #[.int .u64 (L : Int), .int .i64 0]) ∧ w = w' := by
  have := sigE_any k a w (by omega)
  rw [if_pos hk, if_pos hk, Int.toNat_natCast, Int.toNat_natCast, hL] at this
  exact this
theorem sigE_bad {k a : Int} (hk : isW k = false) (ha : 0 ≤ a) (w : World) :
    Calls Try.prog 19 #[.int .i64 k, .int .u64 a] w fun e w' => e = .returned (.tuple #[.int .u64 0, .int .i64 2]) ∧ w = w' := by
  have := sigE_any k a w ha
  rw [if_neg (by rw [hk]; decide), if_neg (by rw [hk]; decide)] at this
  exact this
theorem notE_ok {k a L : Nat} (hk : isW k = true) (ha : a < 18446744073709551616) (hL : WM.low k (WM.comp a) = L) (w : World) :
    Calls Try.prog 20 #[.int .i64 k, .int .u64 a] w fun e w' => e = .returned (.tuple #[.int .u64 (L : Int), .int .i64 0]) ∧ w = w' := by
  have := notE_any k a w (by omega) (by omega)
  rw [if_pos hk, if_pos hk, Int.toNat_natCast, Int.toNat_natCast, hL] at this
  exact this
theorem notE_bad {k a : Int} (hk : isW k = false) (ha : 0 ≤ a) (h1 : a < 18446744073709551616) (w : World) :
    Calls Try.prog 20 #[.int .i64 k, .int .u64 a] w fun e w' => e = .returned (.tuple #[.int .u64 0, .int .i64 2]) ∧ w = w' := by
  have := notE_any k a w ha h1
  rw [if_neg (by rw [hk]; decide), if_neg (by rw [hk]; decide)] at this
  exact this
theorem negE_ok {k a X : Nat} {F : WM.Fl} (hk : isW k = true) (hX : WM.doX 3 k 0 a false = X) (hF : WM.doF 3 k 0 a false = F) (w : World) :
    Calls Try.prog 21 #[.int .i64 k, .int .u64 a] w fun e w' => e = .returned (.tuple #[.int .u64 (X : Int), .agg #[.bool F.c, .bool F.z, .bool F.s, .bool F.o, .bool F.p], .int .i64 0]) ∧ Below w.heap.size w w' :=
  negE_any k a w hk (by omega) X F (by simpa using hX) (by simpa using hF)
theorem do_ok {op k a b X : Nat} {F : WM.Fl} {f : WM.Fl} (hk : isW k = true) (h1 : 1 ≤ op) (h8 : op ≤ 8) (hX : WM.doX op k a b f.c = X) (hF : WM.doF op k a b f.c = F) (w : World) :
    Calls Try.prog 28 #[.int .i64 op, .int .i64 k, .int .u64 a, .int .u64 b, .agg #[.bool f.c, .bool f.z, .bool f.s, .bool f.o, .bool f.p]] w fun e w' => e = .returned (.tuple #[.int .u64 (X : Int), .agg #[.bool F.c, .bool F.z, .bool F.s, .bool F.o, .bool F.p], .int .i64 0]) ∧ Below w.heap.size w w' := by
  have := do_any op k a b f.c f.z f.s f.o f.p w hk (by omega) (by omega) (by omega) (by omega)
  rw [Int.toNat_natCast, Int.toNat_natCast, Int.toNat_natCast, Int.toNat_natCast, hX, hF] at this
  exact this
theorem shift_ok {op k a n X : Nat} {F : WM.Fl} {f : WM.Fl} (hk : isW k = true) (h1 : 1 ≤ op) (h5 : op ≤ 5) (hX : WM.shiftX op k a n = X) (hF : WM.shiftF op k a n f = F) (w : World) :
    Calls Try.prog 29 #[.int .i64 op, .int .i64 k, .int .u64 a, .int .u64 n, .agg #[.bool f.c, .bool f.z, .bool f.s, .bool f.o, .bool f.p]] w fun e w' => e = .returned (.tuple #[.int .u64 (X : Int), .agg #[.bool F.c, .bool F.z, .bool F.s, .bool F.o, .bool F.p], .int .i64 0]) ∧ Below w.heap.size w w' :=
  shift_any op k a n f.c f.z f.s f.o f.p w hk (by omega) (by omega) (by omega) (by omega) X F (by simpa using hX) (by simpa using hF)
theorem holds_ok {c : Nat} {S : Bool} {f : WM.Fl} (hc : c ≤ 15) (hS : WM.holds c f = S) (w : World) :
    Calls Try.prog 31 #[.int .i64 c, .agg #[.bool f.c, .bool f.z, .bool f.s, .bool f.o, .bool f.p]] w fun e w' => e = .returned (.tuple #[.bool S, .int .i64 0]) ∧ Below w.heap.size w w' := by
  have := holds_any c f.c f.z f.s f.o f.p w (by omega) (by omega)
  rw [Int.toNat_natCast, hS] at this
  exact this
end Go.Proofs.Ytklepefljdiepaa
