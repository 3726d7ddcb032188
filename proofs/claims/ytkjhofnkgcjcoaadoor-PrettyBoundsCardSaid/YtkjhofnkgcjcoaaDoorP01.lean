/- Names, the program's. -/
import Derived.Test.YtkjhofnkgcjcoaaDoorP00
import Derived.Lib.IndexBytes
import Derived.Lib.Strings
namespace Go.Proofs.YtkjhofnkgcjcoaaDoor
open Go.RowKit

def isLet (c : UInt8) : Bool := decide (97 ≤ c.toNat) && decide (c.toNat ≤ 122)
def isDig (c : UInt8) : Bool := decide (48 ≤ c.toNat) && decide (c.toNat ≤ 57)
def isPart (c : UInt8) : Bool := isLet c || isDig c || decide (c.toNat = 95)

/-- the language's own words -/
def ownWords : List (List UInt8) := [[97, 114, 114, 97, 121], [101, 108, 115, 101], [102, 110], [102, 111, 114], [105, 102], [112, 105, 99, 107], [114, 101, 103, 105, 111, 110], [115, 101, 99, 114, 101, 116], [115, 116, 97, 99, 107], [118, 97, 114], [119, 104, 105, 108, 101]]
def ownB (l : List UInt8) : Bool := decide (l ∈ ownWords)
def nameB (l : List UInt8) : Bool := !l.isEmpty && decide (l.length ≤ 16) && isLet (l.headD 0) && !ownB l && l.all isPart

theorem let_any (c : UInt8) (w : World) : Calls Tryd.prog 56 #[.int .u8 (c.toNat : Int)] w fun e w' => e = .returned (.bool (isLet c)) ∧ w = w' := by
  have hb : c.toNat < 256 := c.toNat_lt
  unfold isLet
  by_cases h1 : 97 ≤ c.toNat
  · by_cases h2 : c.toNat ≤ 122
    · have e1 : decide ((97 : Int) ≤ (c.toNat : Int)) = true := decide_eq_true (by omega)
      have e2 : decide ((c.toNat : Int) ≤ 122) = true := decide_eq_true (by omega)
      go_enter Tryd.func56, Tryd.ntmps56
      go_wp2
      go_ret
      exact ⟨by simp [h1, h2], rfl⟩
    · have e1 : decide ((97 : Int) ≤ (c.toNat : Int)) = true := decide_eq_true (by omega)
      have e2 : decide ((c.toNat : Int) ≤ 122) = false := decide_eq_false (by omega)
      go_enter Tryd.func56, Tryd.ntmps56
      go_wp2
      go_ret
      exact ⟨by simp [h1, h2], rfl⟩
  · have e1 : decide ((97 : Int) ≤ (c.toNat : Int)) = false := decide_eq_false (by omega)
    go_enter Tryd.func56, Tryd.ntmps56
    go_wp2
    go_ret
    exact ⟨by simp [h1], rfl⟩

theorem dig_any (c : UInt8) (w : World) : Calls Tryd.prog 80 #[.int .u8 (c.toNat : Int)] w fun e w' => e = .returned (.bool (isDig c)) ∧ w = w' := by
  have hb : c.toNat < 256 := c.toNat_lt
  unfold isDig
  by_cases h1 : 48 ≤ c.toNat
  · by_cases h2 : c.toNat ≤ 57
    · have e1 : decide ((48 : Int) ≤ (c.toNat : Int)) = true := decide_eq_true (by omega)
      have e2 : decide ((c.toNat : Int) ≤ 57) = true := decide_eq_true (by omega)
      go_enter Tryd.func80, Tryd.ntmps80
      go_wp2
      go_ret
      exact ⟨by simp [h1, h2], rfl⟩
    · have e1 : decide ((48 : Int) ≤ (c.toNat : Int)) = true := decide_eq_true (by omega)
      have e2 : decide ((c.toNat : Int) ≤ 57) = false := decide_eq_false (by omega)
      go_enter Tryd.func80, Tryd.ntmps80
      go_wp2
      go_ret
      exact ⟨by simp [h1, h2], rfl⟩
  · have e1 : decide ((48 : Int) ≤ (c.toNat : Int)) = false := decide_eq_false (by omega)
    go_enter Tryd.func80, Tryd.ntmps80
    go_wp2
    go_ret
    exact ⟨by simp [h1], rfl⟩

theorem part_any (c : UInt8) (w : World) : Calls Tryd.prog 58 #[.int .u8 (c.toNat : Int)] w fun e w' => e = .returned (.bool (isPart c)) ∧ w = w' := by
  have HA := Lib.hid (fun w => let_any c w)
  have HD := Lib.hid (fun w => dig_any c w)
  have h95 : decide (c.toNat = 95) = ((c.toNat : Int) == 95) := by rw [Bool.eq_iff_iff]; simp; omega
  unfold isPart
  rw [h95]
  clear h95
  generalize isLet c = x at HA
  generalize isDig c = y at HD
  generalize e : ((c.toNat : Int) == 95) = z
  cases x <;> cases y <;> cases z <;>
  · go_enter Tryd.func58, Tryd.ntmps58
    go_wp2_with (first | (go_at_call 56; refine (HA.out _).mono ?_; rintro e w' ⟨rfl, rfl⟩) | (go_at_call 80; refine (HD.out _).mono ?_; rintro e w' ⟨rfl, rfl⟩))
    go_ret
    exact ⟨rfl, rfl⟩

open Go.RowKit

theorem own_split (l : List UInt8) : ownB l = ((l == [97, 114, 114, 97, 121]) || ((l == [101, 108, 115, 101]) || ((l == [102, 110]) || ((l == [102, 111, 114]) || ((l == [105, 102]) || ((l == [112, 105, 99, 107]) || ((l == [114, 101, 103, 105, 111, 110]) || ((l == [115, 101, 99, 114, 101, 116]) || ((l == [115, 116, 97, 99, 107]) || ((l == [118, 97, 114]) || ((l == [119, 104, 105, 108, 101])))))))))))  ) := by
  rw [Bool.eq_iff_iff]
  simp only [ownB, ownWords, List.mem_cons, List.not_mem_nil, or_false, decide_eq_true_eq, Bool.or_eq_true, beq_iff_eq]
theorem own_any (s : ByteArray) (w : World) : Calls Tryd.prog 57 #[.string s] w fun e w' => e = .returned (.bool (ownB s.data.toList)) ∧ w = w' := by
  rw [own_split, ← Go.Lib.toList_data]
  generalize e0 : (s.toList == [97, 114, 114, 97, 121]) = x0
  generalize e1 : (s.toList == [101, 108, 115, 101]) = x1
  generalize e2 : (s.toList == [102, 110]) = x2
  generalize e3 : (s.toList == [102, 111, 114]) = x3
  generalize e4 : (s.toList == [105, 102]) = x4
  generalize e5 : (s.toList == [112, 105, 99, 107]) = x5
  generalize e6 : (s.toList == [114, 101, 103, 105, 111, 110]) = x6
  generalize e7 : (s.toList == [115, 101, 99, 114, 101, 116]) = x7
  generalize e8 : (s.toList == [115, 116, 97, 99, 107]) = x8
  generalize e9 : (s.toList == [118, 97, 114]) = x9
  generalize e10 : (s.toList == [119, 104, 105, 108, 101]) = x10
  cases x0
  case true =>
    go_enter Tryd.func57, Tryd.ntmps57
    go_wp2
    go_ret
    exact ⟨rfl, rfl⟩
  cases x1
  case true =>
    go_enter Tryd.func57, Tryd.ntmps57
    go_wp2
    go_ret
    exact ⟨rfl, rfl⟩
  cases x2
  case true =>
    go_enter Tryd.func57, Tryd.ntmps57
    go_wp2
    go_ret
    exact ⟨rfl, rfl⟩
  cases x3
  case true =>
    go_enter Tryd.func57, Tryd.ntmps57
    go_wp2
    go_ret
    exact ⟨rfl, rfl⟩
  cases x4
  case true =>
    go_enter Tryd.func57, Tryd.ntmps57
    go_wp2
    go_ret
    exact ⟨rfl, rfl⟩
  cases x5
  case true =>
    go_enter Tryd.func57, Tryd.ntmps57
    go_wp2
    go_ret
    exact ⟨rfl, rfl⟩
  cases x6
  case true =>
    go_enter Tryd.func57, Tryd.ntmps57
    go_wp2
    go_ret
    exact ⟨rfl, rfl⟩
  cases x7
  case true =>
    go_enter Tryd.func57, Tryd.ntmps57
    go_wp2
    go_ret
    exact ⟨rfl, rfl⟩
  cases x8
  case true =>
    go_enter Tryd.func57, Tryd.ntmps57
    go_wp2
    go_ret
    exact ⟨rfl, rfl⟩
  cases x9
  case true =>
    go_enter Tryd.func57, Tryd.ntmps57
    go_wp2
    go_ret
    exact ⟨rfl, rfl⟩
  cases x10
  case true =>
    go_enter Tryd.func57, Tryd.ntmps57
    go_wp2
    go_ret
    exact ⟨rfl, rfl⟩
  go_enter Tryd.func57, Tryd.ntmps57
  go_wp2
  go_ret
  exact ⟨rfl, rfl⟩

open Go.RowKit

theorem isPart_take {l : List UInt8} {k : Nat} (h : (l.take k).all isPart = true) (hk : k < l.length) (hc : isPart l[k] = true) : (l.take (k + 1)).all isPart = true := by
  rw [List.take_succ_eq_append_getElem hk, List.all_append, h]; simp [hc]
theorem name_empty {l : List UInt8} (h : l = []) : nameB l = false := by subst h; rfl
theorem name_long {l : List UInt8} (h : 16 < l.length) : nameB l = false := by simp [nameB]; omega
theorem name_first {l : List UInt8} (h : isLet (l.headD 0) = false) : nameB l = false := by simp only [nameB, h, Bool.and_false, Bool.false_and]
theorem name_own {l : List UInt8} (h : ownB l = true) : nameB l = false := by simp only [nameB, h, Bool.not_true, Bool.and_false, Bool.false_and]
theorem name_part {l : List UInt8} {k : Nat} (hk : k < l.length) (h : isPart l[k] = false) : nameB l = false := by
  have : l.all isPart = false := by
    rw [Bool.eq_false_iff]
    intro ha
    rw [List.all_eq_true] at ha
    rw [ha _ (List.getElem_mem hk)] at h; cases h
  simp only [nameB, this, Bool.and_false]
theorem name_yes {l : List UInt8} (h0 : 0 < l.length) (h1 : l.length ≤ 16) (h2 : isLet (l.headD 0) = true) (h3 : ownB l = false) (h4 : (l.take l.length).all isPart = true) : nameB l = true := by
  rw [List.take_length] at h4
  cases l with
  | nil => simp at h0
  | cons c r => simp only [nameB, h2, h3, h4, decide_eq_true h1]; rfl
theorem head_get (l : List UInt8) (h : 0 < l.length) : l.headD 0 = l[0] := by
  cases l with
  | nil => simp at h
  | cons c r => rfl

set_option maxHeartbeats 1600000 in
theorem name_any (s : ByteArray) (w : World) : Calls Tryd.prog 36 #[.string s] w fun e w' => e = .returned (.bool (nameB s.data.toList)) ∧ w = w' := by
  by_cases h0 : s.size = 0
  · have h1 : s.data.toList = [] := List.eq_nil_of_length_eq_zero (by rw [← size_len]; exact h0)
    obtain rfl : s = ⟨#[]⟩ := bytes_ext h1
    go_enter Tryd.func36, Tryd.ntmps36
    go_wp2
    go_ret
    exact ⟨rfl, rfl⟩
  have hne : s.toList ≠ [] := fun h => h0 (by rw [size_len, ← Go.Lib.toList_data, h]; rfl)
  have e0 : s.toList.isEmpty = false := by cases h : s.toList with | nil => exact absurd h hne | cons _ _ => rfl
  have hpos : 0 < s.size := by omega
  clear h0
  by_cases h16 : 16 < s.size
  · have HF := Lib.hid (name_long (l := s.data.toList) (by rw [← size_len]; exact h16))
    go_enter Tryd.func36, Tryd.ntmps36
    go_wp2
    go_ret
    exact ⟨ret_bool HF.out.symm, rfl⟩
  have hlen : 0 < s.data.toList.length := by rw [← size_len]; exact hpos
  have hz : s.size ≤ 16 := by omega
  have hhd : s.data.toList.headD 0 = (s[0]'hpos) := head_get _ hlen
  have HL := Lib.hid (fun w => let_any (s[0]'hpos) w)
  have HFst := Lib.hid hhd
  clear hlen hhd
  cases hl : isLet (s[0]'hpos)
  · have HF := Lib.hid (name_first (l := s.data.toList) (by rw [HFst.out]; exact hl))
    rw [hl] at HL
    clear hl
    go_enter Tryd.func36, Tryd.ntmps36
    go_wp2_with (go_at_call 56; refine (HL.out _).mono ?_; rintro e w' ⟨rfl, rfl⟩)
    go_ret
    exact ⟨ret_bool HF.out.symm, rfl⟩
  rw [hl] at HL
  have HLt := Lib.hid hl
  clear hl
  have HO := Lib.hid (fun w => own_any s w)
  cases ho : ownB s.data.toList
  case true =>
    have HF := Lib.hid (name_own ho)
    rw [ho] at HO
    clear ho
    go_enter Tryd.func36, Tryd.ntmps36
    go_wp2_with (first | (go_at_call 56; refine (HL.out _).mono ?_; rintro e w' ⟨rfl, rfl⟩) | (go_at_call 57; refine (HO.out _).mono ?_; rintro e w' ⟨rfl, rfl⟩))
    go_ret
    exact ⟨ret_bool HF.out.symm, rfl⟩
  rw [ho] at HO
  have HOw := Lib.hid ho
  clear ho
  go_enter Tryd.func36, Tryd.ntmps36
  go_wp2_with (first | (go_at_call 56; refine (HL.out _).mono ?_; rintro e w' ⟨rfl, rfl⟩) | (go_at_call 57; refine (HO.out _).mono ?_; rintro e w' ⟨rfl, rfl⟩))
  
  
  go_loop [23] (fun i => ∃ k : Nat, i = .int .i64 k ∧ k ≤ s.size ∧ Hid ((s.data.toList.take k).all isPart = true)) (fun i => s.size - (intOf i).toNat)
  case atStart => exact ⟨0, rfl, by omega, Lib.hid rfl⟩
  case round =>
    obtain ⟨k, rfl, hk, hP⟩ := hrel
    by_cases hlt : k < s.size
    · have HP := Lib.hid (fun w => part_any (s[k]'hlt) w)
      have HS := Lib.hid (fun h => isPart_take (l := s.data.toList) (k := k) hP.out (by rw [← size_len]; exact hlt) h)
      have HN := Lib.hid (fun h => name_part (l := s.data.toList) (k := k) (by rw [← size_len]; exact hlt) h)
      have hg : s.data.toList[k]'(by rw [← size_len]; exact hlt) = s[k]'hlt := rfl
      rw [hg] at HS HN
      clear hg
      cases hc : isPart (s[k]'hlt)
      · rw [hc] at HP
        have HF := Lib.hid (HN.out hc)
        clear HN hc HS
        go_wp2_with (go_at_call 58; refine (HP.out _).mono ?_; rintro e w' ⟨rfl, rfl⟩)
        go_ret
        exact ⟨ret_bool HF.out.symm, rfl⟩
      · rw [hc] at HP
        have HT := Lib.hid (HS.out hc)
        clear HN hc HS
        go_wp2_with (go_at_call 58; refine (HP.out _).mono ?_; rintro e w' ⟨rfl, rfl⟩)
        go_round
        case rel => exact ⟨k + 1, by go_num, by omega, HT⟩
        case measure => simp [intOf]; omega
    · obtain rfl : k = s.size := by omega
      have HF := Lib.hid (name_yes (l := s.data.toList) (by rw [← size_len]; exact hpos) (by rw [← size_len]; exact hz) (by rw [HFst.out]; exact HLt.out) HOw.out (by rw [← size_len]; exact hP.out))
      go_wp2
      go_ret
      exact ⟨ret_bool HF.out.symm, rfl⟩
end Go.Proofs.YtkjhofnkgcjcoaaDoor
