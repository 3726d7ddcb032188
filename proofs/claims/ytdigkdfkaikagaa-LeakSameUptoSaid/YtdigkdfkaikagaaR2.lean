/- The table of deeds. -/
import Derived.Test.YtdigkdfkaikagaaFM
import Derived.Test.YtdigkdfkaikagaaL1
namespace Go.Proofs.Ytdigkdfkaikagaa
open Go.RowKit

def deedT : List (Int × Nat) := [(1, 53), (2, 54), (3, 55), (4, 56), (5, 57), (6, 58), (7, 59), (8, 60), (9, 61)]
set_option maxHeartbeats 800000 in
theorem deeds_any (w : World) : Calls Try.prog 34 #[] w (MapAt deedT w) := by
  have hmm := @run_makeMap Try.prog
  have i0 := fun wx => run_put_ft0 Try.underlying67 Try.underlying34 deedT 1 53 rfl wx
  have i1 := fun wx => run_put_ft Try.underlying67 Try.underlying34 deedT 1 2 54 rfl (by rfl) wx
  have i2 := fun wx => run_put_ft Try.underlying67 Try.underlying34 deedT 2 3 55 rfl (by rfl) wx
  have i3 := fun wx => run_put_ft Try.underlying67 Try.underlying34 deedT 3 4 56 rfl (by rfl) wx
  have i4 := fun wx => run_put_ft Try.underlying67 Try.underlying34 deedT 4 5 57 rfl (by rfl) wx
  have i5 := fun wx => run_put_ft Try.underlying67 Try.underlying34 deedT 5 6 58 rfl (by rfl) wx
  have i6 := fun wx => run_put_ft Try.underlying67 Try.underlying34 deedT 6 7 59 rfl (by rfl) wx
  have i7 := fun wx => run_put_ft Try.underlying67 Try.underlying34 deedT 7 8 60 rfl (by rfl) wx
  have i8 := fun wx => run_put_ft Try.underlying67 Try.underlying34 deedT 8 9 61 rfl (by rfl) wx
  go_enter Try.func34, Try.ntmps34
  go_wp2
  go_ret
  exact mapAt_new deedT 9 rfl w
theorem deed_zero (w : World) : (zeroValue 88).run Try.prog w = .ok .nilFunc w := by kernel_rfl
end Go.Proofs.Ytdigkdfkaikagaa
