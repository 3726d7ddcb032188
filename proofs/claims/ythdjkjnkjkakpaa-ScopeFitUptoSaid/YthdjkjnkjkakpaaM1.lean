/- What is asked, and the panic of what is refused. -/
import Derived.Test.YthdjkjnkjkakpaaS1
import Derived.WalkMore
import Derived.Deep.CutBlock
import Derived.Deep.CutRange
namespace Go.Proofs.Ythdjkjnkjkakpaa
open Go.RowKit

/-- the first error -/
def seq (a b : Nat) : Nat := if a = 0 then b else a
theorem seq_ok {a b : Nat} (h : a = 0) : seq a b = b := if_pos h
theorem seq_no {a b : Nat} (h : a ≠ 0) : seq a b = a := if_neg h
def ask (b : Bool) (e : Nat) : Nat := if b then 0 else e
theorem ask_ok {b : Bool} {e : Nat} (h : b = true) : ask b e = 0 := by rw [ask, h]; rfl
theorem ask_no {b : Bool} {e : Nat} (h : b = false) : ask b e = e := by rw [ask, h]; rfl
/-- the panic with an error -/
def Pn (r : Int) : Ending := .panicked [{ v := .iface 35 (.int .i64 r), recovered := false }]
/-- how a call ends that asks: with the first error, or not -/
inductive Chk (r : Nat) (w : World) : Ending → World → Prop where
  | ok {w' : World} (h : r = 0) (hB : Below w.heap.size w w') : Chk r w (.returned (.tuple #[])) w'
  | no {w' : World} (h : r ≠ 0) (hB : Below w.heap.size w w') : Chk r w (Pn (r : Int)) w'

theorem must_yes (e : Int) (w : World) : Calls Try.prog 57 #[.bool true, .int .i64 e] w fun z w' => z = .returned (.tuple #[]) ∧ w' = w := by
  go_enter Try.func57, Try.ntmps57
  go_wp2_with fail
  go_end0
  exact ⟨rfl, rfl⟩
theorem must_no (e : Int) (w : World) : Calls Try.prog 57 #[.bool false, .int .i64 e] w fun z w' => z = Pn e ∧ w' = w := by
  go_enter Try.func57, Try.ntmps57
  go_wp2_with fail
  exact ⟨rfl, rfl, rfl⟩
end Go.Proofs.Ythdjkjnkjkakpaa
