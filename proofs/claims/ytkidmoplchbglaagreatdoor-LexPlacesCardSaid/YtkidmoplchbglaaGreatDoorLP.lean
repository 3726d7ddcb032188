/- The law on lines and columns: its walk. -/
import Derived.Test.YtkidmoplchbglaaGreatDoorH4
namespace Go.Proofs.YtkidmoplchbglaaGreatDoor
open Go.RowKit

set_option maxRecDepth 100000 in
set_option maxHeartbeats 3200000 in
theorem place_any (s : ByteArray) (at' : Int) (w : World) (hs : s.size ≤ 281474976710656) :
    Calls Tryz.prog 23 #[.string s, .int .i64 at'] w fun e w' => e = .returned (.tuple #[.int .i64 (lc (s.data.toList.take (clampN at' s.size))).1, .int .i64 (lc (s.data.toList.take (clampN at' s.size))).2]) ∧ w = w' := by
  obtain ⟨m, hm⟩ : ∃ m, clampN at' s.size = m := ⟨_, rfl⟩
  have hm1 : m ≤ s.size := by rw [← hm]; exact Nat.min_le_right _ _
  have hm2 : (m : Int) < at' → m = s.size := by rw [← hm, clampN]; omega
  have hm3 : ∀ k : Nat, k < m → (k : Int) < at' := by intro k; rw [← hm, clampN]; omega
  rw [hm]
  have HM2 := Lib.hid hm2
  have HM3 := Lib.hid hm3
  clear hm hm2 hm3
  go_enter Tryz.func23, Tryz.ntmps23
  go_wp2_with fail
  go_loop [6, 7, 8] (fun l c i => ∃ k L C : Nat, i = .int .i64 k ∧ k ≤ m ∧ l = .int .i64 L ∧ c = .int .i64 C ∧ Hid (lc (s.data.toList.take k) = (L, C))) (fun _ _ i => m - (intOf i).toNat)
  case atStart => exact ⟨0, 1, 1, rfl, by omega, rfl, rfl, Lib.hid rfl⟩
  case round =>
    obtain ⟨k, L, C, rfl, hk, rfl, rfl, hLC⟩ := hrel
    have hb := lc_le (s.data.toList.take k)
    rw [hLC.out, List.length_take, ← size_len] at hb
    obtain ⟨hb1, hb2, hb3, hb4⟩ := hb
    have hb5 : L ≤ 281474976710657 := by omega
    have hb6 : C ≤ 281474976710657 := by omega
    clear hb2 hb4
    by_cases hlt : k < m
    · have hks : k < s.size := by omega
      have hka := HM3.out k hlt
      have hkl : k < s.data.toList.length := by rw [← size_len]; exact hks
      have hst := lc_take_succ hkl
      rw [hLC.out] at hst
      have hg : s.data.toList[k] = s[k]'hks := rfl
      rw [hg] at hst
      by_cases h10 : (s[k]'hks).toNat = 10
      · have HS := Lib.hid (hst.trans (by rw [lcF, if_pos h10]))
        have e10 : (((s[k]'hks).toNat : Int) == 10) = true := by rw [h10]; rfl
        clear hst hg h10 hkl
        go_wp2_with fail
        go_round
        case rel => exact ⟨k + 1, L + 1, 1, by go_num, by omega, by go_num, rfl, HS⟩
        case measure => simp [intOf]; omega
      · have HS := Lib.hid (hst.trans (by rw [lcF, if_neg h10]))
        have e10 : (((s[k]'hks).toNat : Int) == 10) = false := by simp; omega
        clear hst hg h10 hkl
        go_wp2_with fail
        go_round
        case rel => exact ⟨k + 1, L, C + 1, by go_num, by omega, rfl, by go_num, HS⟩
        case measure => simp [intOf]; omega
    · obtain rfl : k = m := by omega
      by_cases hks : k < s.size
      · have hka : ¬ (k : Int) < at' := fun h => by have := HM2.out h; omega
        have HL1 := Lib.hid (congrArg Prod.fst hLC.out)
        have HL2 := Lib.hid (congrArg Prod.snd hLC.out)
        go_wp2_with fail
        go_ret2
        exact ⟨ret_two (by rw [HL1.out]) (by rw [HL2.out]), rfl⟩
      · have HL1 := Lib.hid (congrArg Prod.fst hLC.out)
        have HL2 := Lib.hid (congrArg Prod.snd hLC.out)
        go_wp2_with fail
        go_ret2
        exact ⟨ret_two (by rw [HL1.out]) (by rw [HL2.out]), rfl⟩

set_option maxRecDepth 100000 in
set_option maxHeartbeats 3200000 in
theorem places_law (s : ByteArray) (at' : Int) (w : World) (hG : Glob w) (h1 : -9223372036854775808 ≤ at') (h2 : at' ≤ 9223372036854775807) : Calls Tryz.prog 5 #[.string s, .int .i64 at'] w fun e w' => e = .returned (.bool true) ∧ Below w.heap.size w w' := by
  have HK := Lib.hid (fun w h => known_any w h)
  have HG := Lib.hid hG
  have h3 := hG.2.2.2
  clear hG
  by_cases hl : 30000 < s.size
  · go_enter Tryz.func5, Tryz.ntmps5
    go_wp2_with fail
    refine (HK.out _ HG.out).mono ?_
    rintro e w1 ⟨rfl, hB1⟩
    go_wp2_with fail
    go_ret
    exact ⟨rfl, hB1⟩
  · have HN := Lib.hid (fun w => line_any s at' w (by omega) h1 h2)
    have HR := Lib.hid (fun w => place_any s at' w (by omega))
    generalize (lc (s.data.toList.take (clampN at' s.size))).1 = n at HN HR
    generalize (lc (s.data.toList.take (clampN at' s.size))).2 = m at HN HR
    have e1 : ((n : Int) == n) = true := by simp
    have e2 : ((m : Int) == m) = true := by simp
    go_enter Tryz.func5, Tryz.ntmps5
    go_wp2_with fail
    refine (HN.out _).mono ?_
    rintro e w1 ⟨rfl, hB1⟩
    have HB1 := Lib.hid hB1
    clear hB1
    go_wp2_with fail
    refine (HR.out _).mono ?_
    rintro e w' ⟨rfl, rfl⟩
    go_wp2_with fail
    refine (HK.out _ (HG.out.later h3 HB1.out)).mono ?_
    rintro e w4 ⟨rfl, hB⟩
    have HB4 := Lib.hid (HB1.out.trans (hB.mono HB1.out.size))
    clear hB
    go_wp2_with fail
    go_ret
    exact ⟨rfl, HB4.out⟩
end Go.Proofs.YtkidmoplchbglaaGreatDoor
