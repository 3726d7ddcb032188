/- the deep programs. -/
import Derived.Test.YthdjkjnkjkakpaaL3
namespace Go.Proofs.Ythdjkjnkjkakpaa
open Go.RowKit

def nest : Nat → Ex
  | 0 => .mk 2 0 [120] .nil
  | k + 1 => .mk 4 0 [] (.cons (nest k) .nil)
def sn : Nat → Sts
  | 0 => .nil
  | k + 1 => .cons (mkSt 3 [] (.mk 1 0 [] .nil) (sn k)) .nil
theorem d1 : mayR (oneP (.cons (mkSt 1 [120] (nest 63) .nil) .nil)) = 0 := by kernel_rfl
theorem d2 : mayR (oneP (.cons (mkSt 1 [120] (nest 64) .nil) .nil)) = 12 := by kernel_rfl
theorem d3 : mayR (oneP (sn 64)) = 0 := by kernel_rfl
theorem d4 : mayR (oneP (sn 65)) = 12 := by kernel_rfl
theorem d5 : mayR (onePz .nil 512) = 0 := by kernel_rfl
theorem d6 : mayR (onePz .nil 513) = 13 := by kernel_rfl
theorem nest_word (k : Nat) : (nest k).word = 0 := by cases k <;> rfl
end Go.Proofs.Ythdjkjnkjkakpaa
