/- Two arrays of words, compared. -/
import Derived.Test.YtajjpaabkdgjbaaDA
import Derived.Laws.StructEq
namespace Go.Proofs.Ytajjpaabkdgjbaa
open Go.RowKit

theorem all_eq (xs ys : List Nat) (h : xs.length = ys.length) : ((List.range' 0 xs.length 1).all fun i => decide (xs.getD i 0 = ys.getD i 0)) = decide (xs = ys) := by
  rw [Bool.eq_iff_iff, List.all_eq_true, decide_eq_true_eq]
  constructor
  · intro ha
    refine List.ext_getElem h fun i h1 h2 => ?_
    have := ha i (by rw [List.mem_range'_1]; omega)
    rw [decide_eq_true_eq, List.getD_eq_getElem?_getD, List.getD_eq_getElem?_getD, List.getElem?_eq_getElem h1, List.getElem?_eq_getElem h2] at this
    exact this
  · rintro rfl i _
    exact decide_eq_true rfl
theorem part_u (w : World) (xs : List Nat) (i : Nat) (hi : i < xs.length) : (part 25 (u64s xs).toArray (i * 1)).run Try.prog w = .ok (.int .u64 ((xs.getD i 0 : Nat) : Int)) w := by
  simp [part, isAgg, run_underlying Try.underlying25, u64s, List.getD, List.getElem?_eq_getElem hi]
theorem size_u (w : World) : (sizeOf 25).run Try.prog w = .ok 1 w := by
  obtain ⟨i0, hi, _, hz1, _⟩ := info_parts info_u64
  simp [sizeOf, typeInfo, hi, hz1]
theorem eqIn_arr (w : World) (n d : Nat) (t : TypeId) (ht : Try.prog.underlying t = some (.array n 25)) (xs ys : List Nat) (hx : xs.length = n) (hy : ys.length = n) :
    (Op.equalIn (d + 2) t (.agg (u64s xs).toArray) (.agg (u64s ys).toArray)).run Try.prog w = .ok (decide (xs = ys)) w := by
  rw [← all_eq xs ys (hx.trans hy.symm), hx, Op.equalIn]
  simp only [Sem.run_bind, run_underlying ht, Result.andThen_ok, size_u, Std.Legacy.Range.forIn_eq_forIn_range', Std.Legacy.Range.size, Nat.sub_zero, Nat.add_sub_cancel, Nat.div_one]
  have hb : ∀ i ∈ List.range' 0 n 1, i < n := fun i h => by have := List.mem_range'_1.1 h; omega
  generalize List.range' 0 n 1 = is at hb ⊢
  induction is with
  | nil => simp
  | cons i is ih =>
    have hi : i < n := hb i List.mem_cons_self
    have h3 : (Op.equalIn (d + 1) 25 (.int .u64 ((xs.getD i 0 : Nat) : Int)) (.int .u64 ((ys.getD i 0 : Nat) : Int))).run Try.prog w = .ok (decide (xs.getD i 0 = ys.getD i 0)) w := by
      have hq : (((xs.getD i 0 : Nat) : Int) == ((ys.getD i 0 : Nat) : Int)) = decide (xs.getD i 0 = ys.getD i 0) := by
        rw [Bool.eq_iff_iff, beq_iff_eq, decide_eq_true_eq]
        exact Int.ofNat_inj
      rw [run_equalIn_int w d 25 .u64 .u64 _ _ Try.underlying25, hq]
    simp only [List.forIn_cons, Sem.run_bind, part_u w xs i (by omega), part_u w ys i (by omega), h3, Result.andThen_ok, List.all_cons]
    cases hv : decide (xs.getD i 0 = ys.getD i 0)
    · simp
    · simp only [Bool.not_true, Bool.false_eq_true, if_false, Sem.run_pure, Result.andThen_ok, Bool.true_and]
      exact ih fun j hj => hb j (List.mem_cons_of_mem _ hj)
theorem eql_arr (w : World) (xs ys : List Nat) (hx : xs.length = 8192) (hy : ys.length = 8192) :
    (binOp .eql 81 (.agg (u64s xs).toArray) (.agg (u64s ys).toArray)).run Try.prog w = .ok (.bool (decide (xs = ys))) w := by
  rw [run_eql_struct, eqIn_arr w 8192 9998 81 Try.underlying81 xs ys hx hy]
  rfl
end Go.Proofs.Ytajjpaabkdgjbaa
