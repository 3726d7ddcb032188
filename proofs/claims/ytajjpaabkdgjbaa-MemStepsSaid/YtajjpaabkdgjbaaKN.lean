/- The chapter's rows: known answers true. -/
import Derived.Test.YtajjpaabkdgjbaaBD
namespace Go.Proofs.Ytajjpaabkdgjbaa
open Go.RowKit

set_option maxRecDepth 100000 in
set_option maxHeartbeats 3200000 in
theorem known_any (w : World) :
    Calls Try.prog 7 #[] w fun e w' => e = .returned (.bool true) ∧ Below w.heap.size w w' := by
  go_enter Try.func7, Try.ntmps7
  go_wp2_with fail
  refine (region_any kKey 0 2 _).mono ?_
  rintro e w1 ⟨rfl, hB⟩
  have HB1 := Lib.hid hB
  clear hB
  go_wp2_with fail
  refine (region_any kOut 64 1 _).mono ?_
  rintro e w2 ⟨rfl, hB⟩
  have HB2 := Lib.hid (HB1.out.trans (hB.mono HB1.out.size))
  clear hB
  have HA2 := Lib.hid (HB2.out.alloc HB2.out.size (.cells #[.string kKey, .int .i64 0, .int .i64 2, .bool false, .string kOut, .int .i64 64, .int .i64 1, .bool false] 66 (0, 0)))
  go_wp2_with fail
  refine (new_any K2 _ 2 (w2.heap.size + 1) _ (in_2 w2 ⟨kKey, 0, 2, false⟩ ⟨kOut, 64, 1, false⟩) (by simp) (by decide) (by decide) (fun h => by cases h)).mono ?_
  rintro e w3 ⟨hN, hB⟩
  obtain ⟨g, rfl, hM⟩ := hN.2 may_K2
  have HB3 := Lib.hid (HA2.out.trans (hB.mono HA2.out.size))
  have HM3 := Lib.hid (hM.base HA2.out.size)
  clear hB hM hN
  go_wp2_with fail
  refine (num_any 0 _).mono ?_
  rintro e w' ⟨rfl, rfl⟩
  go_wp2_with fail
  refine (store_yes K2 _ w.heap.size g 8 1 _ HM3.out ok_K2 (by decide) k_w8 (by decide)).mono ?_
  rintro e w4 ⟨rfl, hM, hA⟩
  have HM4 : Hid (MemIs w4 w.heap.size g K2 F1) := hM
  have HG : Hid (w.heap.size ≤ g) := by have h := HM3.out; obtain ⟨p, c, q, h1, h2, h3, h4, h5, h6, h7, _⟩ := h; exact Nat.le_of_lt (Nat.lt_of_le_of_lt h5 h6)
  have HB4 := Lib.hid (hA.below HB3.out HG.out HB3.out.size)
  clear hA hM
  have HC4 := Lib.hid (loadByte_any K2 F1 w.heap.size g 8 w4 HM4.out ok_K2 (by decide))
  rw [k_b8.1] at HC4
  rw [k_b8.2] at HC4
  go_wp2_with fail
  refine HC4.out.mono ?_
  rintro e w5 ⟨rfl, hB⟩
  have HB5 := Lib.hid (HB4.out.trans (hB.mono HB4.out.size))
  have HM5 := Lib.hid (HM4.out.later hB)
  clear hB HC4 HB4 HM4
  have HC5 := Lib.hid (load_any K2 F1 w.heap.size g 4 w5 HM5.out ok_K2 (by decide))
  rw [k_w4.1] at HC5
  rw [k_w4.2] at HC5
  go_wp2_with fail
  refine HC5.out.mono ?_
  rintro e w6 ⟨rfl, hB⟩
  have HB6 := Lib.hid (HB5.out.trans (hB.mono HB5.out.size))
  have HM6 := Lib.hid (HM5.out.later hB)
  clear hB HC5 HB5 HM5
  have HC6 := Lib.hid (load_any K2 F1 w.heap.size g 16 w6 HM6.out ok_K2 (by decide))
  rw [k_w16.1] at HC6
  rw [k_w16.2] at HC6
  go_wp2_with fail
  refine HC6.out.mono ?_
  rintro e w7 ⟨rfl, hB⟩
  have HB7 := Lib.hid (HB6.out.trans (hB.mono HB6.out.size))
  have HM7 := Lib.hid (HM6.out.later hB)
  clear hB HC6 HB6 HM6
  have HC7 := Lib.hid (load_any K2 F1 w.heap.size g 65528 w7 HM7.out ok_K2 (by decide))
  rw [k_w65528.1] at HC7
  rw [k_w65528.2] at HC7
  go_wp2_with fail
  refine HC7.out.mono ?_
  rintro e w8 ⟨rfl, hB⟩
  have HB8 := Lib.hid (HB7.out.trans (hB.mono HB7.out.size))
  have HM8 := Lib.hid (HM7.out.later hB)
  clear hB HC7 HB7 HM7
  have HC8 := Lib.hid (load_any K2 F1 w.heap.size g 65536 w8 HM8.out ok_K2 (by decide))
  rw [k_w65536.1] at HC8
  rw [k_w65536.2] at HC8
  go_wp2_with fail
  refine HC8.out.mono ?_
  rintro e w9 ⟨rfl, hB⟩
  have HB9 := Lib.hid (HB8.out.trans (hB.mono HB8.out.size))
  have HM9 := Lib.hid (HM8.out.later hB)
  clear hB HC8 HB8 HM8
  have HC9 := Lib.hid (place_any K2 F1 w.heap.size g 9 w9 HM9.out ok_K2 (by decide))
  rw [k_p9] at HC9
  go_wp2_with fail
  refine HC9.out.mono ?_
  rintro e w10 ⟨rfl, hB⟩
  have HB10 := Lib.hid (HB9.out.trans (hB.mono HB9.out.size))
  have HM10 := Lib.hid (HM9.out.later hB)
  clear hB HC9 HB9 HM9
  have HC10 := Lib.hid (place_any K2 F1 w.heap.size g 49153 w10 HM10.out ok_K2 (by decide))
  rw [k_p49153] at HC10
  go_wp2_with fail
  refine HC10.out.mono ?_
  rintro e w11 ⟨rfl, hB⟩
  have HB11 := Lib.hid (HB10.out.trans (hB.mono HB10.out.size))
  have HM11 := Lib.hid (HM10.out.later hB)
  clear hB HC10 HB10 HM10
  have HC11 := Lib.hid (place_any K2 F1 w.heap.size g 20 w11 HM11.out ok_K2 (by decide))
  rw [k_p20] at HC11
  go_wp2_with fail
  refine HC11.out.mono ?_
  rintro e w12 ⟨rfl, hB⟩
  have HB12 := Lib.hid (HB11.out.trans (hB.mono HB11.out.size))
  have HM12 := Lib.hid (HM11.out.later hB)
  clear hB HC11 HB11 HM11
  have HC12 := Lib.hid (address_any K2 F1 w.heap.size g kOut 0 w12 HM12.out ok_K2)
  rw [k_o0] at HC12
  go_wp2_with fail
  refine HC12.out.mono ?_
  rintro e w13 ⟨rfl, hB⟩
  have HB13 := Lib.hid (HB12.out.trans (hB.mono HB12.out.size))
  have HM13 := Lib.hid (HM12.out.later hB)
  clear hB HC12 HB12 HM12
  have HC13 := Lib.hid (address_any K2 F1 w.heap.size g kOut 1 w13 HM13.out ok_K2)
  rw [k_o1] at HC13
  go_wp2_with fail
  refine HC13.out.mono ?_
  rintro e w14 ⟨rfl, hB⟩
  have HB14 := Lib.hid (HB13.out.trans (hB.mono HB13.out.size))
  have HM14 := Lib.hid (HM13.out.later hB)
  clear hB HC13 HB13 HM13
  go_wp2_with fail
  refine (region_any kA 0 1 _).mono ?_
  rintro e w15 ⟨rfl, hB⟩
  have HB15 := Lib.hid (HB14.out.trans (hB.mono HB14.out.size))
  clear hB
  go_wp2_with fail
  refine (region_any kB 0 1 _).mono ?_
  rintro e w16 ⟨rfl, hB⟩
  have HB16 := Lib.hid (HB15.out.trans (hB.mono HB15.out.size))
  clear hB
  have HA16 := Lib.hid (HB16.out.alloc HB16.out.size (.cells #[.string kA, .int .i64 0, .int .i64 1, .bool false, .string kB, .int .i64 0, .int .i64 1, .bool false] 66 (0, 0)))
  go_wp2_with fail
  refine (new_any KAB _ 2 (w16.heap.size + 1) _ (in_2 w16 ⟨kA, 0, 1, false⟩ ⟨kB, 0, 1, false⟩) (by simp) (by decide) (by decide) (fun h => by cases h)).mono ?_
  rintro e w17 ⟨hN, hB⟩
  obtain rfl := hN.1 may_KAB
  have HB17 := Lib.hid (HA16.out.trans (hB.mono HA16.out.size))
  clear hB hN
  go_wp2_with fail
  refine (region_any kA 4 1 _).mono ?_
  rintro e w18 ⟨rfl, hB⟩
  have HB18 := Lib.hid (HB17.out.trans (hB.mono HB17.out.size))
  clear hB
  have HA18 := Lib.hid (HB18.out.alloc HB18.out.size (.cells #[.string kA, .int .i64 4, .int .i64 1, .bool false] 66 (0, 0)))
  go_wp2_with fail
  refine (new_any K4 _ 1 (w18.heap.size + 1) _ (in_1 w18 ⟨kA, 4, 1, false⟩) (by simp) (by decide) (by decide) (fun h => by cases h)).mono ?_
  rintro e w19 ⟨hN, hB⟩
  obtain rfl := hN.1 may_K4
  have HB19 := Lib.hid (HA18.out.trans (hB.mono HA18.out.size))
  clear hB hN
  go_wp2_with fail
  refine (num_any 0 _).mono ?_
  rintro e w' ⟨rfl, rfl⟩
  go_wp2_with fail
  refine (num_any 0 _).mono ?_
  rintro e w' ⟨rfl, rfl⟩
  go_wp2_with fail
  refine (num_any 0 _).mono ?_
  rintro e w' ⟨rfl, rfl⟩
  go_wp2_with fail
  refine (num_any 2 _).mono ?_
  rintro e w' ⟨rfl, rfl⟩
  go_wp2_with fail
  refine (num_any 14 _).mono ?_
  rintro e w' ⟨rfl, rfl⟩
  go_wp2_with fail
  refine (num_any 14 _).mono ?_
  rintro e w' ⟨rfl, rfl⟩
  go_wp2_with fail
  refine (num_any 2 _).mono ?_
  rintro e w' ⟨rfl, rfl⟩
  go_wp2_with fail
  refine (num_any 2 _).mono ?_
  rintro e w' ⟨rfl, rfl⟩
  go_wp2_with fail
  go_ret
  exact ⟨rfl, HB19.out⟩
end Go.Proofs.Ytajjpaabkdgjbaa
