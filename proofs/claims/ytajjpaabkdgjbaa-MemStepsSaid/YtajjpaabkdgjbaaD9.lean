/- Of of what may not be. Copy. -/
import Derived.Test.YtajjpaabkdgjbaaD8
import Derived.Deep.MidRow
namespace Go.Proofs.Ytajjpaabkdgjbaa
open Go.RowKit

set_option maxRecDepth 100000 in
set_option maxHeartbeats 1600000 in
theorem of_no (l : List Rg) (xss : List (List Nat)) (p p2 : Option Addr) (c c2 N : Nat) (w : World) (h : RgIn w N l p) (hx : WsIn w N xss p2) (hN : N ≤ w.heap.size) (hc : l.length ≤ c) (hcm : c ≤ 9223372036854775807) (hm : (mayB l && fitsB l xss) = false) :
    Calls Try.prog 10 #[.slice p l.length c, .slice p2 xss.length c2] w fun e w' => e = .returned (.tuple #[.pointer none, .int .i64 2]) ∧ Below w.heap.size w w' := by
  have HM := Lib.hid (may_any l p c N w h hN hc hcm)
  have HF : Hid (∀ w1, Below w.heap.size w w1 → Calls Try.prog 32 #[.slice p l.length c, .slice p2 xss.length c2] w1 fun e w' => e = .returned (.bool (fitsB l xss)) ∧ Below w1.heap.size w1 w') := Lib.hid fun w1 hB =>
    fits_any l xss p p2 c c2 N w1 (h.later (hB.mono hN) (Nat.le_refl _)) (hx.later (hB.mono hN) (Nat.le_refl _)) (Nat.le_trans hN hB.size)
  clear h hx
  cases h1 : mayB l with
  | false =>
    rw [h1] at HM
    clear hm h1
    go_enter Try.func10, Try.ntmps10
    go_wp2_with fail
    refine HM.out.mono ?_
    rintro e w1 ⟨rfl, hB⟩
    go_wp2_with fail
    go_ret2
    exact ⟨rfl, hB⟩
  | true =>
    rw [h1, Bool.true_and] at hm
    rw [h1] at HM
    rw [hm] at HF
    clear hm h1
    go_enter Try.func10, Try.ntmps10
    go_wp2_with fail
    refine HM.out.mono ?_
    rintro e w1 ⟨rfl, hB⟩
    have HB1 := Lib.hid hB
    clear hB
    go_wp2_with fail
    refine (HF.out _ HB1.out).mono ?_
    rintro e w2 ⟨rfl, hB⟩
    have HB2 := Lib.hid (HB1.out.trans (hB.mono HB1.out.size))
    clear hB
    go_wp2_with fail
    go_ret2
    exact ⟨rfl, HB2.out⟩

end Go.Proofs.Ytajjpaabkdgjbaa
