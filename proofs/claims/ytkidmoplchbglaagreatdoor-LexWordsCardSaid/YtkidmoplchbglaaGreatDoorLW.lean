/- The law on names, own words and numbers: its walk. -/
import Derived.Test.YtkidmoplchbglaaGreatDoorH4
namespace Go.Proofs.YtkidmoplchbglaaGreatDoor
open Go.RowKit

set_option maxRecDepth 100000 in
set_option maxHeartbeats 3200000 in
theorem words_law (s : ByteArray) (w : World) (hG : Glob w) : Calls Tryz.prog 4 #[.string s] w fun e w' => e = .returned (.bool true) ∧ Below w.heap.size w w' := by
  have HK := Lib.hid (fun w h => known_any w h)
  have HG := Lib.hid hG
  have h3 := hG.2.2.2
  clear hG
  by_cases hl : 9000 < s.size
  · go_enter Tryz.func4, Tryz.ntmps4
    go_wp2_with fail
    refine (HK.out _ HG.out).mono ?_
    rintro e w1 ⟨rfl, hB1⟩
    go_wp2_with fail
    go_ret
    exact ⟨rfl, hB1⟩
  · have HN := Lib.hid (fun w h => number_any s w (by omega) h)
    have HR := Lib.hid (fun w => rnumber_any s w)
    have HA := Lib.hid (fun w => name_any s w)
    have HB := Lib.hid (fun w => rname_any s w)
    have HC := Lib.hid (fun w => own_any s w)
    have HD := Lib.hid (fun w => rown_any s w)
    generalize nameB s.data.toList = x at HA HB
    generalize ownB s.data.toList = y at HC HD
    generalize numV s.data.toList = n at HN HR
    generalize numE s.data.toList = m at HN HR
    have e1 : ((n : Int) == n) = true := by simp
    have e2 : ((m : Int) == m) = true := by simp
    have e3 : (x == x) = true := by simp
    have e4 : (y == y) = true := by simp
    go_enter Tryz.func4, Tryz.ntmps4
    go_wp2_with fail
    refine (HN.out _ HG.out).mono ?_
    rintro e w1 ⟨rfl, hB1⟩
    have HB1 := Lib.hid hB1
    clear hB1
    go_wp2_with fail
    refine (HR.out _).mono ?_
    rintro e w' ⟨rfl, rfl⟩
    go_wp2_with fail
    refine (HA.out _).mono ?_
    rintro e w' ⟨rfl, rfl⟩
    go_wp2_with fail
    refine (HB.out _).mono ?_
    rintro e w2 ⟨rfl, hB⟩
    have HB2 := Lib.hid (HB1.out.trans (hB.mono HB1.out.size))
    clear hB
    go_wp2_with fail
    refine (HC.out _).mono ?_
    rintro e w' ⟨rfl, rfl⟩
    go_wp2_with fail
    refine (HD.out _).mono ?_
    rintro e w3 ⟨rfl, hB⟩
    have HB3 := Lib.hid (HB2.out.trans (hB.mono HB2.out.size))
    clear hB
    go_wp2_with fail
    refine (num_any m _).mono ?_
    rintro e w' ⟨rfl, rfl⟩
    go_wp2_with fail
    refine (HK.out _ (HG.out.later h3 HB3.out)).mono ?_
    rintro e w4 ⟨rfl, hB⟩
    have HB4 := Lib.hid (HB3.out.trans (hB.mono HB3.out.size))
    clear hB
    go_wp2_with fail
    go_ret
    exact ⟨rfl, HB4.out⟩
end Go.Proofs.YtkidmoplchbglaaGreatDoor
