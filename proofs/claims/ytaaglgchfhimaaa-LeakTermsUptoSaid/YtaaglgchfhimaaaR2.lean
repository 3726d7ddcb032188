/- The table of deeds. -/
import Derived.Test.YtaaglgchfhimaaaFM
import Derived.Test.YtaaglgchfhimaaaL1
namespace Go.Proofs.Ytaaglgchfhimaaa
open Go.RowKit

def deedT : List (Int × Nat) := [(1, 49), (2, 50), (3, 51), (4, 52), (5, 53), (6, 54), (7, 55), (8, 56), (9, 57)]
set_option maxHeartbeats 800000 in
theorem deeds_any (w : World) : Calls Try.prog 40 #[] w (MapAt deedT w) := by
  have hmm := @run_makeMap Try.prog
  have i0 := fun wx => run_put_ft0 Try.underlying72 Try.underlying48 deedT 1 49 rfl wx
  have i1 := fun wx => run_put_ft Try.underlying72 Try.underlying48 deedT 1 2 50 rfl (by rfl) wx
  have i2 := fun wx => run_put_ft Try.underlying72 Try.underlying48 deedT 2 3 51 rfl (by rfl) wx
  have i3 := fun wx => run_put_ft Try.underlying72 Try.underlying48 deedT 3 4 52 rfl (by rfl) wx
  have i4 := fun wx => run_put_ft Try.underlying72 Try.underlying48 deedT 4 5 53 rfl (by rfl) wx
  have i5 := fun wx => run_put_ft Try.underlying72 Try.underlying48 deedT 5 6 54 rfl (by rfl) wx
  have i6 := fun wx => run_put_ft Try.underlying72 Try.underlying48 deedT 6 7 55 rfl (by rfl) wx
  have i7 := fun wx => run_put_ft Try.underlying72 Try.underlying48 deedT 7 8 56 rfl (by rfl) wx
  have i8 := fun wx => run_put_ft Try.underlying72 Try.underlying48 deedT 8 9 57 rfl (by rfl) wx
  go_enter Try.func40, Try.ntmps40
  go_wp2
  go_ret
  exact mapAt_new deedT 9 rfl w
theorem deed_zero (w : World) : (zeroValue 84).run Try.prog w = .ok .nilFunc w := by kernel_rfl
end Go.Proofs.Ytaaglgchfhimaaa
