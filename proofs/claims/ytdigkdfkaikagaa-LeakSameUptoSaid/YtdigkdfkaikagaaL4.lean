/- What is done by a closure that may panic: caught; leakage measured. -/
import Derived.Test.YtdigkdfkaikagaaL3
namespace Go.Proofs.Ytdigkdfkaikagaa
open Go.RowKit

theorem not_nil (W : World) (u : TypeId) (v : Value) : (binOp .eql 20 (.iface u v) .nilIface).run Try.prog W = .ok (.bool false) W := by kernel_rfl
theorem is_errno (W : World) (y : Int) : (Instr.typeAssert (.iface 28 (.int .i64 y)) 20 28 true).run Try.prog W = .ok (.tuple #[.int .i64 y, .bool true]) W := by kernel_rfl
set_option maxHeartbeats 1600000 in
theorem caught_idle (p : Addr) (w : World) :
    CallsD Try.prog 62 #[.pointer (some p)] .returning w fun e u' w' => e = .returned (.tuple #[]) ∧ u' = .returning ∧ w' = w := by
  refine callsD_of_wpS Try.func62 rfl fun c₀ cs hu => ?_
  apply wpS_seq
  apply wpS_region
  simp [wpOpsS, go_sem, recoverD, hu, Try.ntmps62, Exit.thenS]
  refine wpS_of_wp ?_
  go_wp2
  cases c₀
  simp_all [bodyPostS, results, Try.results62]

set_option maxHeartbeats 1600000 in
theorem caught_panicking (p : Addr) (x y : Int) (older : List PanicEntry) (w : World) (hc : w.cell? p = some (.int .i64 x)) (hz : w.frozen? p = false) :
    CallsD Try.prog 62 #[.pointer (some p)] (.panicking ({ v := .iface 28 (.int .i64 y), recovered := false } :: older)) w fun e u' w' =>
      e = .returned (.tuple #[]) ∧ u' = .panicking ({ v := .iface 28 (.int .i64 y), recovered := true } :: older) ∧ w' = w.setCell p (.int .i64 y) := by
  refine callsD_of_wpS Try.func62 rfl fun c₀ cs hu => ?_
  apply wpS_seq
  apply wpS_region
  simp [wpOpsS, go_sem, recoverD, hu, Try.ntmps62, Exit.thenS]
  refine wpS_of_wp ?_
  have h1 := not_nil
  have h2 := is_errno
  go_wp2
  cases c₀
  simp_all [bodyPostS, results, Try.results62]
end Go.Proofs.Ytdigkdfkaikagaa
