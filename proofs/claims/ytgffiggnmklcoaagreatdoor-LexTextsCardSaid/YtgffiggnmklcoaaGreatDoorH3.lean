/- Is a text wrong there; are a text's tokens these. -/
import Derived.Test.YtgffiggnmklcoaaGreatDoorH2
import Derived.BigQuiet
namespace Go.Proofs.YtgffiggnmklcoaaGreatDoor
open Go.RowKit

theorem num_any (z : Int) (w : World) : Calls Tryz.prog 21 #[.int .i64 z] w fun e w' => e = .returned (.int .i64 z) ∧ w = w' := by
  go_enter Tryz.func21, Tryz.ntmps21
  go_wp2
  go_ret
  exact ⟨rfl, rfl⟩

set_option maxRecDepth 100000 in
set_option maxHeartbeats 3200000 in
theorem fault_any (s : ByteArray) (e l c : Nat) (w : World) (hs : s.size ≤ 281474976710656) (hG : Glob w) (hT : allT s.data.toList = []) (hF : allF s.data.toList = (e, l, c)) :
    Calls Tryz.prog 31 #[.string s, .int .i64 e, .int .i64 l, .int .i64 c] w fun en w' => en = .returned (.bool true) ∧ Below w.heap.size w w' := by
  have HA := Lib.hid (all_any s w hs hG)
  have HT := Lib.hid hT
  have HF := Lib.hid hF
  clear hT hF hG
  go_enter Tryz.func31, Tryz.ntmps31
  go_wp2_with fail
  refine HA.out.mono ?_
  rintro en w1 ⟨⟨v, rfl, hR⟩, hB1⟩
  rw [HT.out] at hR
  obtain ⟨p, cap, rfl, _⟩ := hR.reads
  rw [HF.out]
  have HB1 := Lib.hid hB1
  have e0 : ((e : Int) == e) = true := by simp
  have e1 : ((l : Int) == l) = true := by simp
  have e2 : ((c : Int) == c) = true := by simp
  clear hB1 HA HT HF
  go_wp2_with fail
  refine (num_any e _).mono ?_
  rintro en w' ⟨rfl, rfl⟩
  go_wp2_with fail
  go_ret
  exact ⟨rfl, HB1.out.alloc HB1.out.size _⟩
set_option maxRecDepth 100000 in
set_option maxHeartbeats 3200000 in
theorem texts_any (s t : ByteArray) (w : World) (hs : s.size ≤ 281474976710656) (hG : Glob w) (hl : (allT s.data.toList).length ≤ 1000000) (hj : (plainL (allT s.data.toList)).length ≤ 140737488355328) (hF : allF s.data.toList = (0, 0, 0)) (hP : plainL (allT s.data.toList) = t.data.toList) :
    Calls Tryz.prog 32 #[.string s, .string t] w fun en w' => en = .returned (.bool true) ∧ Below w.heap.size w w' := by
  have HA := Lib.hid (all_any s w hs hG)
  have HJ := Lib.hid hj
  have HF := Lib.hid hF
  have HP := Lib.hid hP
  clear hj hF hG hP
  go_enter Tryz.func32, Tryz.ntmps32
  go_wp2_with fail
  refine HA.out.mono ?_
  rintro en w1 ⟨⟨v, rfl, hR⟩, hB1⟩
  obtain ⟨p, cap, rfl, r1, r2, r3, r4⟩ := hR.reads
  rw [HF.out]
  have HB1 := Lib.hid hB1
  have HB2 := Lib.hid (HB1.out.alloc HB1.out.size (.cells #[.int .i64 0, .int .i64 0, .int .i64 0] 26))
  have HB3 := Lib.hid ((Below.refl _ w1).alloc (Nat.le_refl _) (.cells #[.int .i64 0, .int .i64 0, .int .i64 0] 26))
  have HR4 := Lib.hid r4
  have e1 : ((str (plainL (allT s.data.toList))).toList == t.toList) = true := by rw [Lib.toList_data, Lib.toList_data, str_data, HP.out]; simp
  have HE := Lib.hid e1
  clear hB1 HA HF r4 e1
  go_wp2_with fail
  refine (plain_any _ p cap w1.heap.size _ (HR4.out.later (Nat.le_refl _) HB3.out) (by simp) r1 r2 hl HJ.out).mono ?_
  rintro en w2 ⟨rfl, hB4⟩
  have HB5 := Lib.hid (HB2.out.trans (hB4.mono HB2.out.size))
  have e1 := HE.out
  clear hB4
  go_wp2_with fail
  go_ret
  exact ⟨rfl, HB5.out⟩
end Go.Proofs.YtgffiggnmklcoaaGreatDoor
