/- The chapter's rows: known. -/
import Derived.Test.YtdigkdfkaikagaaK1
import Derived.Test.YtdigkdfkaikagaaS2
namespace Go.Proofs.Ytdigkdfkaikagaa
open Go.RowKit

set_option maxRecDepth 100000 in
set_option maxHeartbeats 3200000 in
theorem known_any (w : World) : Calls Try.prog 9 #[] w fun e w' => e = .returned (.bool true) ∧ Below w.heap.size w w' := by
  go_enter Try.func9, Try.ntmps9
  go_wp2_with (first | (go_at_call 19; refine (line_any _ _ _ _).mono ?_; rintro e w' ⟨rfl, rfl⟩))
  refine (flatK w).mono ?_
  rintro e w1 ⟨gs, cs, rfl, hB1, hsn⟩
  have HSN := Lib.hid hsn
  clear hsn
  go_wp2_with (first | (go_at_call 19; refine (line_any _ _ _ _).mono ?_; rintro e w' ⟨rfl, rfl⟩))
  refine (rewA w1).mono ?_
  rintro e w2 ⟨bm, cm, rfl, hB2, hin, hsn⟩
  have HIN := Lib.hid (And.intro hin hsn)
  clear hin hsn
  go_wp2_with (first | (go_at_call 19; refine (line_any _ _ _ _).mono ?_; rintro e w' ⟨rfl, rfl⟩))
  refine (rewB w2).mono ?_
  rintro e w3 ⟨rfl, hB3⟩
  have HS3 := Lib.hid (show SnIn w3 w3.heap.size lfK.flat (some ⟨gs, 0, none⟩) ∧ SnIn w3 w3.heap.size lfK.flat (some ⟨w1.heap.size, 0, none⟩) ∧ lfA.In w3 w3.heap.size (some ⟨bm, 0, none⟩) from
    ⟨HSN.out.later (hB2.trans (hB3.mono hB2.size)) (Nat.le_trans hB2.size hB3.size), HIN.out.2.later hB3 hB3.size, HIN.out.1.later hB3 hB3.size⟩)
  have HB3 := Lib.hid (hB1.trans ((hB2.mono hB1.size).trans (hB3.mono (Nat.le_trans hB1.size hB2.size))))
  clear hB1 hB2 hB3
  go_wp2_with (first | (go_at_call 19; refine (line_any _ _ _ _).mono ?_; rintro e w' ⟨rfl, rfl⟩))
  refine (sameSeen_any lfK.flat lfK.flat (some ⟨gs, 0, none⟩) (some ⟨w1.heap.size, 0, none⟩) _ _ w3.heap.size w3 HS3.out.1 HS3.out.2.1 (Nat.le_refl _)).mono ?_
  rintro e w4 ⟨rfl, hB4⟩
  have hsm : snSame lfK.flat lfK.flat = true := snSame_self _
  go_wp2_with (first | (go_at_call 19; refine (line_any _ _ _ _).mono ?_; rintro e w' ⟨rfl, rfl⟩))
  refine (sameA_any bm _ cm 1 (W4 w4).heap.size (W4 w4) (HS3.out.2.2.later (hB4.trans ((W4_bel w4).mono hB4.size)) (Nat.le_trans hB4.size (W4_bel w4).size)) (W4_l w4) (Nat.le_refl _)).mono ?_
  rintro e w5 ⟨rfl, hB5⟩
  have HB5 := Lib.hid (HB3.out.trans ((hB4.trans (((W4_bel w4).trans (hB5.mono (W4_bel w4).size)).mono hB4.size)).mono HB3.out.size))
  clear hB4 hB5
  go_wp2_with fail
  go_ret
  exact ⟨rfl, HB5.out⟩
end Go.Proofs.Ytdigkdfkaikagaa
