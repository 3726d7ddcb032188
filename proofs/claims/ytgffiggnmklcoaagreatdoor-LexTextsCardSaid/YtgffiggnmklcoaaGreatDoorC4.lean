/- Numbers, the document's. -/
import Derived.Test.YtgffiggnmklcoaaGreatDoorC3
import Derived.Outline
namespace Go.Proofs.YtgffiggnmklcoaaGreatDoor
open Go.RowKit

theorem num_long {l : List UInt8} (h : 20 < l.length) : numB l = false := by
  cases hn : numB l with
  | false => rfl
  | true =>
    exfalso
    have hq := hn
    simp only [numB, Bool.and_eq_true, Bool.not_eq_true', decide_eq_true_eq] at hq
    obtain ⟨⟨⟨_, hd⟩, hz⟩, hb⟩ := hq
    cases l with
    | nil => simp at h
    | cons c r =>
      rw [List.all_cons, Bool.and_eq_true] at hd
      have h0 : c ≠ 48 := fun e => by
        rw [decide_eq_true (by omega), Bool.true_and] at hz
        simp [e] at hz
      have := decN_long c r hd.1 h0 (by simp at h; omega)
      omega
theorem num_digit {l : List UInt8} {k : Nat} (hk : k < l.length) (h : isDig l[k] = false) : numB l = false := by
  have : l.all isDig = false := by
    rw [Bool.eq_false_iff]
    intro ha
    rw [List.all_eq_true] at ha
    rw [ha _ (List.getElem_mem hk)] at h; cases h
  simp only [numB, this, Bool.and_false, Bool.false_and]
theorem decN_take {l : List UInt8} {k : Nat} (hk : k < l.length) : decN (l.take (k + 1)) = decN (l.take k) * 10 + (l[k].toNat - 48) := by
  rw [List.take_succ_eq_append_getElem hk, decN_snoc]
theorem num_great {l : List UInt8} {k : Nat} (h : lim64 ≤ decN (l.take k)) : numB l = false := by
  have h1 := decN_append_le (l.take k) (l.drop k)
  rw [List.take_append_drop] at h1
  have : decide (decN l < lim64) = false := decide_eq_false (by omega)
  simp only [numB, this, Bool.and_false]
theorem isDig_take {l : List UInt8} {k : Nat} (h : (l.take k).all isDig = true) (hk : k < l.length) (hc : isDig l[k] = true) : (l.take (k + 1)).all isDig = true := by
  rw [List.take_succ_eq_append_getElem hk, List.all_append, h]; simp [hc]
theorem num_yes {l : List UInt8} (h0 : 0 < l.length) (h1 : (decide (1 < l.length) && decide (l.headD 0 = 48)) = false) (h2 : (l.take l.length).all isDig = true) (h3 : decN (l.take l.length) < lim64) : numB l = true := by
  rw [List.take_length] at h2 h3
  cases l with
  | nil => simp at h0
  | cons c r => simp only [numB, h1, h2, decide_eq_true h3]; rfl

set_option maxHeartbeats 1600000 in
theorem rnumber_empty (w : World) : Calls Tryz.prog 16 #[.string ⟨#[]⟩] w fun e w' => e = .returned (.tuple #[.int .u64 0, .int .i64 15]) ∧ w = w' := by
  go_enter Tryz.func16, Tryz.ntmps16
  go_wp2
  go_ret2
  exact ⟨rfl, rfl⟩
set_option maxHeartbeats 1600000 in
theorem rnumber_long (s : ByteArray) (w : World) (h : 20 < s.size) : Calls Tryz.prog 16 #[.string s] w fun e w' => e = .returned (.tuple #[.int .u64 0, .int .i64 15]) ∧ w = w' := by
  have h1 : decide ((s.size : Int) < 1) = false := decide_eq_false (by omega)
  go_enter Tryz.func16, Tryz.ntmps16
  go_wp2
  go_ret2
  exact ⟨rfl, rfl⟩
set_option maxHeartbeats 1600000 in
theorem rnumber_nought (s : ByteArray) (w : World) (h : s.size ≤ 20) (h1 : 1 < s.size) (h48 : (((s[0]'(by omega)).toNat : Int) == 48) = true) : Calls Tryz.prog 16 #[.string s] w fun e w' => e = .returned (.tuple #[.int .u64 0, .int .i64 15]) ∧ w = w' := by
  have h2 : decide ((s.size : Int) < 1) = false := decide_eq_false (by omega)
  go_enter Tryz.func16, Tryz.ntmps16
  go_wp2
  go_ret2
  exact ⟨rfl, rfl⟩

set_option maxHeartbeats 1600000 in
theorem rnumber_one (s : ByteArray) (w : World) (h1 : 0 < s.size) (hA : decide (1 < (s.size : Int)) = false)
    (HN : Hid ((decide (1 < s.data.toList.length) && decide (s.data.toList.headD 0 = 48)) = false)) : Calls Tryz.prog 16 #[.string s] w fun e w' => e = .returned (.tuple #[.int .u64 (numV s.data.toList), .int .i64 (numE s.data.toList)]) ∧ w = w' := by
  have hs1 : s.size ≤ 1 := by have := of_decide_eq_false hA; omega
  have h2 : decide ((s.size : Int) < 1) = false := decide_eq_false (by omega)
  have h20 : decide (20 < (s.size : Int)) = false := decide_eq_false (by omega)
  go_enter Tryz.func16, Tryz.ntmps16
  go_wp2
  go_loop [4, 5] (fun n i => ∃ k : Nat, i = .int .i64 k ∧ k ≤ s.size ∧ n = .int .u64 (decN (s.data.toList.take k)) ∧ Hid ((s.data.toList.take k).all isDig = true) ∧ Hid (decN (s.data.toList.take k) < lim64)) (fun _ i => s.size - (intOf i).toNat)
  case atStart => exact ⟨0, rfl, by omega, rfl, Lib.hid rfl, Lib.hid (show 0 < lim64 by decide)⟩
  case round =>
    obtain ⟨k, rfl, hk, rfl, hD, hB⟩ := hrel
    by_cases hlt : k < s.size
    · have HP := Lib.hid (fun w => rdig_any (s[k]'hlt) w)
      have HS := Lib.hid (fun h => isDig_take (l := s.data.toList) (k := k) hD.out (by rw [← size_len]; exact hlt) h)
      have HNo := Lib.hid (fun h => num_digit (l := s.data.toList) (k := k) (by rw [← size_len]; exact hlt) h)
      have HT := Lib.hid (decN_take (l := s.data.toList) (k := k) (by rw [← size_len]; exact hlt))
      have HGr := Lib.hid (num_great (l := s.data.toList) (k := k + 1))
      have hg : s.data.toList[k]'(by rw [← size_len]; exact hlt) = s[k]'hlt := rfl
      rw [hg] at HS HNo HT
      clear hg
      have hb256 := (s[k]'hlt).toNat_lt
      cases hc : isDig (s[k]'hlt)
      · rw [hc] at HP
        have HF := Lib.hid (HNo.out hc)
        clear HNo hc HS HT HGr
        go_wp2_with (go_at_call 39; refine (HP.out _).mono ?_; rintro e w' ⟨rfl, rfl⟩)
        go_ret2
        exact ⟨ret_num (numV_no HF.out).symm (numE_no HF.out).symm, rfl⟩
      · rw [hc] at HP
        have hd := (isDig_iff _).1 hc
        have HT1 := Lib.hid (HS.out hc)
        clear HNo hc HS
        have hB' := hB.out
        rw [lim64_eq] at hB'
        rw [lim64_eq] at HGr
        generalize hn1 : decN (s.data.toList.take (k + 1)) = n1 at HT HGr
        generalize decN (s.data.toList.take k) = n at HT hB'
        generalize hcc : (s[k]'hlt).toNat = c at HP HT hd hb256
        go_wp2_with (go_at_call 39; refine (HP.out _).mono ?_; rintro e w' ⟨rfl, rfl⟩)
        · have hgt : (18446744073709551615 - ((c : Int) - 48)) / 10 < (n : Int) := by assumption
          have HF := HGr.out (by have := HT.out; omega)
          clear hgt hB' hd hb256
          go_ret2
          exact ⟨ret_num (numV_no HF).symm (numE_no HF).symm, rfl⟩
        · have hle : (n : Int) ≤ (18446744073709551615 - ((c : Int) - 48)) / 10 := by assumption
          have hw1 : (n : Int) * 10 + ((c : Int) - 48) = (n1 : Int) := by have := HT.out; omega
          have hw2 : n1 < 18446744073709551616 := by have := HT.out; omega
          have HW1 := Lib.hid hw1
          have HW2 := Lib.hid hw2
          have HN1 := Lib.hid hn1
          clear hle hw1 hw2 hB' hd hb256 hn1
          go_round
          case rel => exact ⟨k + 1, by go_num, by omega, by rw [HN1.out, HW1.out], HT1, Lib.hid (by rw [HN1.out, lim64_eq]; exact HW2.out)⟩
          case measure => simp [intOf]; omega
    · obtain rfl : k = s.size := by omega
      have HF := Lib.hid (num_yes (l := s.data.toList) (by rw [← size_len]; exact h1) HN.out (by rw [← size_len]; exact hD.out) (by rw [← size_len]; exact hB.out))
      have HV := Lib.hid (show (decN (s.data.toList.take s.size) : Int) = numV s.data.toList by rw [numV_yes HF.out, size_len, List.take_length])
      go_wp2
      go_ret2
      exact ⟨ret_num HV.out (numE_yes HF.out).symm, rfl⟩

set_option maxHeartbeats 1600000 in
theorem rnumber_many (s : ByteArray) (w : World) (h1 : 0 < s.size) (hz : s.size ≤ 20) (hA : decide (1 < (s.size : Int)) = true) (h48 : (((s[0]'h1).toNat : Int) == 48) = false)
    (HN : Hid ((decide (1 < s.data.toList.length) && decide (s.data.toList.headD 0 = 48)) = false)) : Calls Tryz.prog 16 #[.string s] w fun e w' => e = .returned (.tuple #[.int .u64 (numV s.data.toList), .int .i64 (numE s.data.toList)]) ∧ w = w' := by
  have h2 : decide ((s.size : Int) < 1) = false := decide_eq_false (by omega)
  have h20 : decide (20 < (s.size : Int)) = false := decide_eq_false (by omega)
  go_enter Tryz.func16, Tryz.ntmps16
  go_wp2
  go_loop [4, 5] (fun n i => ∃ k : Nat, i = .int .i64 k ∧ k ≤ s.size ∧ n = .int .u64 (decN (s.data.toList.take k)) ∧ Hid ((s.data.toList.take k).all isDig = true) ∧ Hid (decN (s.data.toList.take k) < lim64)) (fun _ i => s.size - (intOf i).toNat)
  case atStart => exact ⟨0, rfl, by omega, rfl, Lib.hid rfl, Lib.hid (show 0 < lim64 by decide)⟩
  case round =>
    obtain ⟨k, rfl, hk, rfl, hD, hB⟩ := hrel
    by_cases hlt : k < s.size
    · have HP := Lib.hid (fun w => rdig_any (s[k]'hlt) w)
      have HS := Lib.hid (fun h => isDig_take (l := s.data.toList) (k := k) hD.out (by rw [← size_len]; exact hlt) h)
      have HNo := Lib.hid (fun h => num_digit (l := s.data.toList) (k := k) (by rw [← size_len]; exact hlt) h)
      have HT := Lib.hid (decN_take (l := s.data.toList) (k := k) (by rw [← size_len]; exact hlt))
      have HGr := Lib.hid (num_great (l := s.data.toList) (k := k + 1))
      have hg : s.data.toList[k]'(by rw [← size_len]; exact hlt) = s[k]'hlt := rfl
      rw [hg] at HS HNo HT
      clear hg
      have hb256 := (s[k]'hlt).toNat_lt
      cases hc : isDig (s[k]'hlt)
      · rw [hc] at HP
        have HF := Lib.hid (HNo.out hc)
        clear HNo hc HS HT HGr
        go_wp2_with (go_at_call 39; refine (HP.out _).mono ?_; rintro e w' ⟨rfl, rfl⟩)
        go_ret2
        exact ⟨ret_num (numV_no HF.out).symm (numE_no HF.out).symm, rfl⟩
      · rw [hc] at HP
        have hd := (isDig_iff _).1 hc
        have HT1 := Lib.hid (HS.out hc)
        clear HNo hc HS
        have hB' := hB.out
        rw [lim64_eq] at hB'
        rw [lim64_eq] at HGr
        generalize hn1 : decN (s.data.toList.take (k + 1)) = n1 at HT HGr
        generalize decN (s.data.toList.take k) = n at HT hB'
        generalize hcc : (s[k]'hlt).toNat = c at HP HT hd hb256
        go_wp2_with (go_at_call 39; refine (HP.out _).mono ?_; rintro e w' ⟨rfl, rfl⟩)
        · have hgt : (18446744073709551615 - ((c : Int) - 48)) / 10 < (n : Int) := by assumption
          have HF := HGr.out (by have := HT.out; omega)
          clear hgt hB' hd hb256
          go_ret2
          exact ⟨ret_num (numV_no HF).symm (numE_no HF).symm, rfl⟩
        · have hle : (n : Int) ≤ (18446744073709551615 - ((c : Int) - 48)) / 10 := by assumption
          have hw1 : (n : Int) * 10 + ((c : Int) - 48) = (n1 : Int) := by have := HT.out; omega
          have hw2 : n1 < 18446744073709551616 := by have := HT.out; omega
          have HW1 := Lib.hid hw1
          have HW2 := Lib.hid hw2
          have HN1 := Lib.hid hn1
          clear hle hw1 hw2 hB' hd hb256 hn1
          go_round
          case rel => exact ⟨k + 1, by go_num, by omega, by rw [HN1.out, HW1.out], HT1, Lib.hid (by rw [HN1.out, lim64_eq]; exact HW2.out)⟩
          case measure => simp [intOf]; omega
    · obtain rfl : k = s.size := by omega
      have HF := Lib.hid (num_yes (l := s.data.toList) (by rw [← size_len]; exact h1) HN.out (by rw [← size_len]; exact hD.out) (by rw [← size_len]; exact hB.out))
      have HV := Lib.hid (show (decN (s.data.toList.take s.size) : Int) = numV s.data.toList by rw [numV_yes HF.out, size_len, List.take_length])
      go_wp2
      go_ret2
      exact ⟨ret_num HV.out (numE_yes HF.out).symm, rfl⟩
theorem rnumber_any (s : ByteArray) (w : World) : Calls Tryz.prog 16 #[.string s] w fun e w' => e = .returned (.tuple #[.int .u64 (numV s.data.toList), .int .i64 (numE s.data.toList)]) ∧ w = w' := by
  have zero : numB s.data.toList = false → ∀ {e : Ending} {w' : World}, (e = .returned (.tuple #[.int .u64 0, .int .i64 15]) ∧ w = w') → e = .returned (.tuple #[.int .u64 (numV s.data.toList), .int .i64 (numE s.data.toList)]) ∧ w = w' := fun h _ _ ⟨he, hw⟩ => ⟨by rw [he, numV_no h, numE_no h], hw⟩
  by_cases h0 : s.size = 0
  · have h1 : s.data.toList = [] := List.eq_nil_of_length_eq_zero (by rw [← size_len]; exact h0)
    obtain rfl : s = ⟨#[]⟩ := bytes_ext h1
    exact (rnumber_empty w).mono fun _ _ => zero (by decide)
  · have hpos : 0 < s.size := by omega
    by_cases h20 : 20 < s.size
    · exact (rnumber_long s w h20).mono fun _ _ => zero (num_long (by rw [← size_len]; exact h20))
    · have hlen : 0 < s.data.toList.length := by rw [← size_len]; exact hpos
      have hhd : s.data.toList.headD 0 = s[0]'hpos := head_get _ hlen
      by_cases h1 : 1 < s.size
      · by_cases h48 : s[0]'hpos = 48
        · refine (rnumber_nought s w (by omega) h1 (by rw [h48]; rfl)).mono fun _ _ => zero (num_nought ?_)
          rw [← size_len, decide_eq_true h1, hhd, h48]; rfl
        · refine rnumber_many s w hpos (by omega) (decide_eq_true (by omega)) ?_ (Lib.hid (by rw [hhd, decide_eq_false h48, Bool.and_false]))
          have : (s[0]'hpos).toNat ≠ 48 := fun h => h48 (UInt8.toNat_inj.1 (by rw [h]; rfl))
          simp; omega
      · exact rnumber_one s w hpos (decide_eq_false (by omega)) (Lib.hid (by rw [← size_len, decide_eq_false h1, Bool.false_and]))
end Go.Proofs.YtgffiggnmklcoaaGreatDoor
