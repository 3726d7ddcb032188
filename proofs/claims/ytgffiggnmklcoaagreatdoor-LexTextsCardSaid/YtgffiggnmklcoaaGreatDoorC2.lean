/- Names, the program's and the document's. -/
import Derived.Test.YtgffiggnmklcoaaGreatDoorC1
namespace Go.Proofs.YtgffiggnmklcoaaGreatDoor
open Go.RowKit

theorem isPart_take {l : List UInt8} {k : Nat} (h : (l.take k).all isPart = true) (hk : k < l.length) (hc : isPart l[k] = true) : (l.take (k + 1)).all isPart = true := by
  rw [List.take_succ_eq_append_getElem hk, List.all_append, h]; simp [hc]
theorem size_len (s : ByteArray) : s.size = s.data.toList.length := by rw [Array.length_toList]; rfl
theorem name_empty {l : List UInt8} (h : l = []) : nameB l = false := by subst h; rfl
theorem name_long {l : List UInt8} (h : 16 < l.length) : nameB l = false := by simp [nameB]; omega
theorem name_first {l : List UInt8} (h : isLet (l.headD 0) = false) : nameB l = false := by simp only [nameB, h, Bool.and_false, Bool.false_and]
theorem name_own {l : List UInt8} (h : ownB l = true) : nameB l = false := by simp only [nameB, h, Bool.not_true, Bool.and_false, Bool.false_and]
theorem name_part {l : List UInt8} {k : Nat} (hk : k < l.length) (h : isPart l[k] = false) : nameB l = false := by
  have : l.all isPart = false := by
    rw [Bool.eq_false_iff]
    intro ha
    rw [List.all_eq_true] at ha
    rw [ha _ (List.getElem_mem hk)] at h; cases h
  simp only [nameB, this, Bool.and_false]
theorem name_yes {l : List UInt8} (h0 : 0 < l.length) (h1 : l.length ≤ 16) (h2 : isLet (l.headD 0) = true) (h3 : ownB l = false) (h4 : (l.take l.length).all isPart = true) : nameB l = true := by
  rw [List.take_length] at h4
  cases l with
  | nil => simp at h0
  | cons c r => simp only [nameB, h2, h3, h4, decide_eq_true h1]; rfl
theorem head_get (l : List UInt8) (h : 0 < l.length) : l.headD 0 = l[0] := by
  cases l with
  | nil => simp at h
  | cons c r => rfl

set_option maxHeartbeats 1600000 in
theorem name_any (s : ByteArray) (w : World) : Calls Tryz.prog 17 #[.string s] w fun e w' => e = .returned (.bool (nameB s.data.toList)) ∧ w = w' := by
  by_cases h0 : s.size = 0
  · have h1 : s.data.toList = [] := List.eq_nil_of_length_eq_zero (by rw [← size_len]; exact h0)
    obtain rfl : s = ⟨#[]⟩ := bytes_ext h1
    go_enter Tryz.func17, Tryz.ntmps17
    go_wp2
    go_ret
    exact ⟨rfl, rfl⟩
  have hne : s.toList ≠ [] := fun h => h0 (by rw [size_len, ← Go.Lib.toList_data, h]; rfl)
  have e0 : s.toList.isEmpty = false := by cases h : s.toList with | nil => exact absurd h hne | cons _ _ => rfl
  have hpos : 0 < s.size := by omega
  clear h0
  by_cases h16 : 16 < s.size
  · have HF := Lib.hid (name_long (l := s.data.toList) (by rw [← size_len]; exact h16))
    go_enter Tryz.func17, Tryz.ntmps17
    go_wp2
    go_ret
    exact ⟨ret_bool HF.out.symm, rfl⟩
  have hlen : 0 < s.data.toList.length := by rw [← size_len]; exact hpos
  have hz : s.size ≤ 16 := by omega
  have hhd : s.data.toList.headD 0 = (s[0]'hpos) := head_get _ hlen
  have HL := Lib.hid (fun w => let_any (s[0]'hpos) w)
  have HFst := Lib.hid hhd
  clear hlen hhd
  cases hl : isLet (s[0]'hpos)
  · have HF := Lib.hid (name_first (l := s.data.toList) (by rw [HFst.out]; exact hl))
    rw [hl] at HL
    clear hl
    go_enter Tryz.func17, Tryz.ntmps17
    go_wp2_with (go_at_call 40; refine (HL.out _).mono ?_; rintro e w' ⟨rfl, rfl⟩)
    go_ret
    exact ⟨ret_bool HF.out.symm, rfl⟩
  rw [hl] at HL
  have HLt := Lib.hid hl
  clear hl
  have HO := Lib.hid (fun w => own_any s w)
  cases ho : ownB s.data.toList
  case true =>
    have HF := Lib.hid (name_own ho)
    rw [ho] at HO
    clear ho
    go_enter Tryz.func17, Tryz.ntmps17
    go_wp2_with (first | (go_at_call 40; refine (HL.out _).mono ?_; rintro e w' ⟨rfl, rfl⟩) | (go_at_call 19; refine (HO.out _).mono ?_; rintro e w' ⟨rfl, rfl⟩))
    go_ret
    exact ⟨ret_bool HF.out.symm, rfl⟩
  rw [ho] at HO
  have HOw := Lib.hid ho
  clear ho
  go_enter Tryz.func17, Tryz.ntmps17
  go_wp2_with (first | (go_at_call 40; refine (HL.out _).mono ?_; rintro e w' ⟨rfl, rfl⟩) | (go_at_call 19; refine (HO.out _).mono ?_; rintro e w' ⟨rfl, rfl⟩))
  
  
  go_loop [23] (fun i => ∃ k : Nat, i = .int .i64 k ∧ k ≤ s.size ∧ Hid ((s.data.toList.take k).all isPart = true)) (fun i => s.size - (intOf i).toNat)
  case atStart => exact ⟨0, rfl, by omega, Lib.hid rfl⟩
  case round =>
    obtain ⟨k, rfl, hk, hP⟩ := hrel
    by_cases hlt : k < s.size
    · have HP := Lib.hid (fun w => part_any (s[k]'hlt) w)
      have HS := Lib.hid (fun h => isPart_take (l := s.data.toList) (k := k) hP.out (by rw [← size_len]; exact hlt) h)
      have HN := Lib.hid (fun h => name_part (l := s.data.toList) (k := k) (by rw [← size_len]; exact hlt) h)
      have hg : s.data.toList[k]'(by rw [← size_len]; exact hlt) = s[k]'hlt := rfl
      rw [hg] at HS HN
      clear hg
      cases hc : isPart (s[k]'hlt)
      · rw [hc] at HP
        have HF := Lib.hid (HN.out hc)
        clear HN hc HS
        go_wp2_with (go_at_call 41; refine (HP.out _).mono ?_; rintro e w' ⟨rfl, rfl⟩)
        go_ret
        exact ⟨ret_bool HF.out.symm, rfl⟩
      · rw [hc] at HP
        have HT := Lib.hid (HS.out hc)
        clear HN hc HS
        go_wp2_with (go_at_call 41; refine (HP.out _).mono ?_; rintro e w' ⟨rfl, rfl⟩)
        go_round
        case rel => exact ⟨k + 1, by go_num, by omega, HT⟩
        case measure => simp [intOf]; omega
    · obtain rfl : k = s.size := by omega
      have HF := Lib.hid (name_yes (l := s.data.toList) (by rw [← size_len]; exact hpos) (by rw [← size_len]; exact hz) (by rw [HFst.out]; exact HLt.out) HOw.out (by rw [← size_len]; exact hP.out))
      go_wp2
      go_ret
      exact ⟨ret_bool HF.out.symm, rfl⟩

set_option maxHeartbeats 1600000 in
theorem rname_any (s : ByteArray) (w : World) : Calls Tryz.prog 18 #[.string s] w fun e w' => e = .returned (.bool (nameB s.data.toList)) ∧ Below w.heap.size w w' := by
  by_cases h0 : s.size = 0
  · have h1 : s.data.toList = [] := List.eq_nil_of_length_eq_zero (by rw [← size_len]; exact h0)
    obtain rfl : s = ⟨#[]⟩ := bytes_ext h1
    go_enter Tryz.func18, Tryz.ntmps18
    go_wp2
    go_ret
    exact ⟨rfl, Below.refl _ _⟩
  have hne : s.toList ≠ [] := fun h => h0 (by rw [size_len, ← Go.Lib.toList_data, h]; rfl)
  have e0 : s.toList.isEmpty = false := by cases h : s.toList with | nil => exact absurd h hne | cons _ _ => rfl
  have hpos : 0 < s.size := by omega
  clear h0
  by_cases h16 : 16 < s.size
  · have HF := Lib.hid (name_long (l := s.data.toList) (by rw [← size_len]; exact h16))
    go_enter Tryz.func18, Tryz.ntmps18
    go_wp2
    go_ret
    exact ⟨ret_bool HF.out.symm, Below.refl _ _⟩
  have hlen : 0 < s.data.toList.length := by rw [← size_len]; exact hpos
  have hz : s.size ≤ 16 := by omega
  have hhd : s.data.toList.headD 0 = (s[0]'hpos) := head_get _ hlen
  have HL := Lib.hid (fun w => rlet_any (s[0]'hpos) w)
  have HFst := Lib.hid hhd
  clear hlen hhd
  cases hl : isLet (s[0]'hpos)
  · have HF := Lib.hid (name_first (l := s.data.toList) (by rw [HFst.out]; exact hl))
    rw [hl] at HL
    clear hl
    go_enter Tryz.func18, Tryz.ntmps18
    go_wp2_with (go_at_call 42; refine (HL.out _).mono ?_; rintro e w' ⟨rfl, rfl⟩)
    go_ret
    exact ⟨ret_bool HF.out.symm, Below.refl _ _⟩
  rw [hl] at HL
  have HLt := Lib.hid hl
  clear hl
  have HO := Lib.hid (fun w => rown_any s w)
  cases ho : ownB s.data.toList
  case true =>
    have HF := Lib.hid (name_own ho)
    rw [ho] at HO
    clear ho
    go_enter Tryz.func18, Tryz.ntmps18
    go_wp2_with (first | (go_at_call 42; refine (HL.out _).mono ?_; rintro e w' ⟨rfl, rfl⟩) | (go_at_call 20; refine (HO.out _).mono ?_; rintro e w1 ⟨rfl, hB1⟩))
    go_ret
    exact ⟨ret_bool HF.out.symm, hB1⟩
  rw [ho] at HO
  have HOw := Lib.hid ho
  clear ho
  go_enter Tryz.func18, Tryz.ntmps18
  go_wp2_with (first | (go_at_call 42; refine (HL.out _).mono ?_; rintro e w' ⟨rfl, rfl⟩) | (go_at_call 20; refine (HO.out _).mono ?_; rintro e w1 ⟨rfl, hB1⟩))
  have HB1 := Lib.hid hB1
  clear hB1
  go_loopw [3] (fun i wr => ∃ k : Nat, i = .int .i64 k ∧ k ≤ s.size ∧ Hid ((s.data.toList.take k).all isPart = true) ∧ wr = w1) (fun i _ => s.size - (intOf i).toNat)
  case atStart => exact ⟨0, rfl, by omega, Lib.hid rfl, rfl⟩
  case round =>
    obtain ⟨k, rfl, hk, hP, rfl⟩ := hrel
    by_cases hlt : k < s.size
    · have HP := Lib.hid (fun w => rpart_any (s[k]'hlt) w)
      have HS := Lib.hid (fun h => isPart_take (l := s.data.toList) (k := k) hP.out (by rw [← size_len]; exact hlt) h)
      have HN := Lib.hid (fun h => name_part (l := s.data.toList) (k := k) (by rw [← size_len]; exact hlt) h)
      have hg : s.data.toList[k]'(by rw [← size_len]; exact hlt) = s[k]'hlt := rfl
      rw [hg] at HS HN
      clear hg
      cases hc : isPart (s[k]'hlt)
      · rw [hc] at HP
        have HF := Lib.hid (HN.out hc)
        clear HN hc HS
        go_wp2_with (go_at_call 43; refine (HP.out _).mono ?_; rintro e w' ⟨rfl, rfl⟩)
        go_ret
        exact ⟨ret_bool HF.out.symm, HB1.out⟩
      · rw [hc] at HP
        have HT := Lib.hid (HS.out hc)
        clear HN hc HS
        go_wp2_with (go_at_call 43; refine (HP.out _).mono ?_; rintro e w' ⟨rfl, rfl⟩)
        go_roundw
        case rel => exact ⟨k + 1, by go_num, by omega, HT, trivial⟩
        case measure => simp [intOf]; omega
    · obtain rfl : k = s.size := by omega
      have HF := Lib.hid (name_yes (l := s.data.toList) (by rw [← size_len]; exact hpos) (by rw [← size_len]; exact hz) (by rw [HFst.out]; exact HLt.out) HOw.out (by rw [← size_len]; exact hP.out))
      go_wp2
      go_ret
      exact ⟨ret_bool HF.out.symm, HB1.out⟩
end Go.Proofs.YtgffiggnmklcoaaGreatDoor
