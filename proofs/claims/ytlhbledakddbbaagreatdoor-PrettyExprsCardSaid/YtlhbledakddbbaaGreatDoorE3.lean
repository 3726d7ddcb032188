/- The document's names. -/
import Derived.Test.YtlhbledakddbbaaGreatDoorA4
namespace Go.Proofs.YtlhbledakddbbaaGreatDoor
open Go.RowKit

def noneOf (l : List UInt8) (k : Nat) : Prop := ∀ x ∈ ownWords.take k, (x == l) = false
theorem noneOf.step {l : List UInt8} {k : Nat} (h : noneOf l k) (x : List UInt8) (hx : ownWords[k]? = some x) (he : (x == l) = false) : noneOf l (k + 1) := by
  intro y hy
  rw [List.take_add_one, hx] at hy
  rcases List.mem_append.1 hy with h1 | h1
  · exact h y h1
  · simp at h1; subst h1; exact he
theorem noneOf.no {l : List UInt8} (h : noneOf l 11) : ownB l = false := by
  refine decide_eq_false fun hm => ?_
  have := h l hm
  simp at this
theorem own_yes {l : List UInt8} {x : List UInt8} (k : Nat) (hx : ownWords[k]? = some x) (he : (x == l) = true) : ownB l = true := by
  refine decide_eq_true ?_
  rw [← beq_iff_eq.1 he]
  exact List.mem_of_getElem? hx
set_option maxHeartbeats 1600000 in

theorem rlet_any (c : UInt8) (w : World) : Calls Tryz.prog 95 #[.int .u8 (c.toNat : Int)] w fun e w' => e = .returned (.bool (isLet c)) ∧ w = w' := by
  have hb : c.toNat < 256 := c.toNat_lt
  unfold isLet
  by_cases h1 : 97 ≤ c.toNat
  · by_cases h2 : c.toNat ≤ 122
    · have e1 : decide ((97 : Int) ≤ (c.toNat : Int)) = true := decide_eq_true (by omega)
      have e2 : decide ((c.toNat : Int) ≤ 122) = true := decide_eq_true (by omega)
      go_enter Tryz.func95, Tryz.ntmps95
      go_wp2
      go_ret
      exact ⟨by simp [h1, h2], rfl⟩
    · have e1 : decide ((97 : Int) ≤ (c.toNat : Int)) = true := decide_eq_true (by omega)
      have e2 : decide ((c.toNat : Int) ≤ 122) = false := decide_eq_false (by omega)
      go_enter Tryz.func95, Tryz.ntmps95
      go_wp2
      go_ret
      exact ⟨by simp [h1, h2], rfl⟩
  · have e1 : decide ((97 : Int) ≤ (c.toNat : Int)) = false := decide_eq_false (by omega)
    go_enter Tryz.func95, Tryz.ntmps95
    go_wp2
    go_ret
    exact ⟨by simp [h1], rfl⟩
theorem rdig_any (c : UInt8) (w : World) : Calls Tryz.prog 133 #[.int .u8 (c.toNat : Int)] w fun e w' => e = .returned (.bool (isDig c)) ∧ w = w' := by
  have hb : c.toNat < 256 := c.toNat_lt
  unfold isDig
  by_cases h1 : 48 ≤ c.toNat
  · by_cases h2 : c.toNat ≤ 57
    · have e1 : decide ((48 : Int) ≤ (c.toNat : Int)) = true := decide_eq_true (by omega)
      have e2 : decide ((c.toNat : Int) ≤ 57) = true := decide_eq_true (by omega)
      go_enter Tryz.func133, Tryz.ntmps133
      go_wp2
      go_ret
      exact ⟨by simp [h1, h2], rfl⟩
    · have e1 : decide ((48 : Int) ≤ (c.toNat : Int)) = true := decide_eq_true (by omega)
      have e2 : decide ((c.toNat : Int) ≤ 57) = false := decide_eq_false (by omega)
      go_enter Tryz.func133, Tryz.ntmps133
      go_wp2
      go_ret
      exact ⟨by simp [h1, h2], rfl⟩
  · have e1 : decide ((48 : Int) ≤ (c.toNat : Int)) = false := decide_eq_false (by omega)
    go_enter Tryz.func133, Tryz.ntmps133
    go_wp2
    go_ret
    exact ⟨by simp [h1], rfl⟩
theorem rpart_any (c : UInt8) (w : World) : Calls Tryz.prog 97 #[.int .u8 (c.toNat : Int)] w fun e w' => e = .returned (.bool (isPart c)) ∧ w = w' := by
  have HA := Lib.hid (fun w => rlet_any c w)
  have HD := Lib.hid (fun w => rdig_any c w)
  have h95 : decide (c.toNat = 95) = ((c.toNat : Int) == 95) := by rw [Bool.eq_iff_iff]; simp; omega
  unfold isPart
  rw [h95]
  clear h95
  generalize isLet c = x at HA
  generalize isDig c = y at HD
  generalize e : ((c.toNat : Int) == 95) = z
  cases x <;> cases y <;> cases z <;>
  · go_enter Tryz.func97, Tryz.ntmps97
    go_wp2_with (first | (go_at_call 95; refine (HA.out _).mono ?_; rintro e w' ⟨rfl, rfl⟩) | (go_at_call 133; refine (HD.out _).mono ?_; rintro e w' ⟨rfl, rfl⟩))
    go_ret
    exact ⟨rfl, rfl⟩
set_option maxHeartbeats 1600000 in
theorem rown_any (s : ByteArray) (w : World) : Calls Tryz.prog 96 #[.string s] w fun e w' => e = .returned (.bool (ownB s.data.toList)) ∧ Below w.heap.size w w' := by
  rw [← Go.Lib.toList_data]
  go_enter Tryz.func96, Tryz.ntmps96
  go_wp2
  go_loop [4] (fun i => ∃ k : Nat, i = .int .i64 k ∧ k ≤ 11 ∧ Hid (noneOf s.toList k)) (fun i => 11 - (intOf i).toNat)
  case atStart => exact ⟨0, rfl, by omega, Lib.hid (fun y hy => by simp at hy)⟩
  case round =>
    obtain ⟨k, rfl, hk, hN⟩ := hrel
    rcases k with _|_|_|_|_|_|_|_|_|_|_|_|k
    · cases e : ([97, 114, 114, 97, 121] == s.toList)
      · have HS := Lib.hid (hN.out.step [97, 114, 114, 97, 121] rfl e)
        go_wp2
        go_round
        case rel => exact ⟨1, rfl, by omega, HS⟩
        case measure => simp [intOf]
      · have HS := Lib.hid (own_yes 0 rfl e)
        go_wp2
        go_ret
        exact ⟨ret_bool HS.out.symm, (Below.refl _ _).alloc (Nat.le_refl _) _⟩
    · cases e : ([101, 108, 115, 101] == s.toList)
      · have HS := Lib.hid (hN.out.step [101, 108, 115, 101] rfl e)
        go_wp2
        go_round
        case rel => exact ⟨2, rfl, by omega, HS⟩
        case measure => simp [intOf]
      · have HS := Lib.hid (own_yes 1 rfl e)
        go_wp2
        go_ret
        exact ⟨ret_bool HS.out.symm, (Below.refl _ _).alloc (Nat.le_refl _) _⟩
    · cases e : ([102, 110] == s.toList)
      · have HS := Lib.hid (hN.out.step [102, 110] rfl e)
        go_wp2
        go_round
        case rel => exact ⟨3, rfl, by omega, HS⟩
        case measure => simp [intOf]
      · have HS := Lib.hid (own_yes 2 rfl e)
        go_wp2
        go_ret
        exact ⟨ret_bool HS.out.symm, (Below.refl _ _).alloc (Nat.le_refl _) _⟩
    · cases e : ([102, 111, 114] == s.toList)
      · have HS := Lib.hid (hN.out.step [102, 111, 114] rfl e)
        go_wp2
        go_round
        case rel => exact ⟨4, rfl, by omega, HS⟩
        case measure => simp [intOf]
      · have HS := Lib.hid (own_yes 3 rfl e)
        go_wp2
        go_ret
        exact ⟨ret_bool HS.out.symm, (Below.refl _ _).alloc (Nat.le_refl _) _⟩
    · cases e : ([105, 102] == s.toList)
      · have HS := Lib.hid (hN.out.step [105, 102] rfl e)
        go_wp2
        go_round
        case rel => exact ⟨5, rfl, by omega, HS⟩
        case measure => simp [intOf]
      · have HS := Lib.hid (own_yes 4 rfl e)
        go_wp2
        go_ret
        exact ⟨ret_bool HS.out.symm, (Below.refl _ _).alloc (Nat.le_refl _) _⟩
    · cases e : ([112, 105, 99, 107] == s.toList)
      · have HS := Lib.hid (hN.out.step [112, 105, 99, 107] rfl e)
        go_wp2
        go_round
        case rel => exact ⟨6, rfl, by omega, HS⟩
        case measure => simp [intOf]
      · have HS := Lib.hid (own_yes 5 rfl e)
        go_wp2
        go_ret
        exact ⟨ret_bool HS.out.symm, (Below.refl _ _).alloc (Nat.le_refl _) _⟩
    · cases e : ([114, 101, 103, 105, 111, 110] == s.toList)
      · have HS := Lib.hid (hN.out.step [114, 101, 103, 105, 111, 110] rfl e)
        go_wp2
        go_round
        case rel => exact ⟨7, rfl, by omega, HS⟩
        case measure => simp [intOf]
      · have HS := Lib.hid (own_yes 6 rfl e)
        go_wp2
        go_ret
        exact ⟨ret_bool HS.out.symm, (Below.refl _ _).alloc (Nat.le_refl _) _⟩
    · cases e : ([115, 101, 99, 114, 101, 116] == s.toList)
      · have HS := Lib.hid (hN.out.step [115, 101, 99, 114, 101, 116] rfl e)
        go_wp2
        go_round
        case rel => exact ⟨8, rfl, by omega, HS⟩
        case measure => simp [intOf]
      · have HS := Lib.hid (own_yes 7 rfl e)
        go_wp2
        go_ret
        exact ⟨ret_bool HS.out.symm, (Below.refl _ _).alloc (Nat.le_refl _) _⟩
    · cases e : ([115, 116, 97, 99, 107] == s.toList)
      · have HS := Lib.hid (hN.out.step [115, 116, 97, 99, 107] rfl e)
        go_wp2
        go_round
        case rel => exact ⟨9, rfl, by omega, HS⟩
        case measure => simp [intOf]
      · have HS := Lib.hid (own_yes 8 rfl e)
        go_wp2
        go_ret
        exact ⟨ret_bool HS.out.symm, (Below.refl _ _).alloc (Nat.le_refl _) _⟩
    · cases e : ([118, 97, 114] == s.toList)
      · have HS := Lib.hid (hN.out.step [118, 97, 114] rfl e)
        go_wp2
        go_round
        case rel => exact ⟨10, rfl, by omega, HS⟩
        case measure => simp [intOf]
      · have HS := Lib.hid (own_yes 9 rfl e)
        go_wp2
        go_ret
        exact ⟨ret_bool HS.out.symm, (Below.refl _ _).alloc (Nat.le_refl _) _⟩
    · cases e : ([119, 104, 105, 108, 101] == s.toList)
      · have HS := Lib.hid (hN.out.step [119, 104, 105, 108, 101] rfl e)
        go_wp2
        go_round
        case rel => exact ⟨11, rfl, by omega, HS⟩
        case measure => simp [intOf]
      · have HS := Lib.hid (own_yes 10 rfl e)
        go_wp2
        go_ret
        exact ⟨ret_bool HS.out.symm, (Below.refl _ _).alloc (Nat.le_refl _) _⟩
    · have HS := Lib.hid hN.out.no
      go_wp2
      go_ret
      exact ⟨ret_bool HS.out.symm, (Below.refl _ _).alloc (Nat.le_refl _) _⟩
    · omega
set_option maxHeartbeats 1600000 in
theorem rnm_any (s : ByteArray) (w : World) : Calls Tryz.prog 54 #[.string s] w fun e w' => e = .returned (.bool (nameB s.data.toList)) ∧ Below w.heap.size w w' := by
  by_cases h0 : s.size = 0
  · have h1 : s.data.toList = [] := List.eq_nil_of_length_eq_zero (by rw [← size_len]; exact h0)
    obtain rfl : s = ⟨#[]⟩ := bytes_ext h1
    go_enter Tryz.func54, Tryz.ntmps54
    go_wp2
    go_ret
    exact ⟨rfl, Below.refl _ _⟩
  have hne : s.toList ≠ [] := fun h => h0 (by rw [size_len, ← Go.Lib.toList_data, h]; rfl)
  have e0 : s.toList.isEmpty = false := by cases h : s.toList with | nil => exact absurd h hne | cons _ _ => rfl
  have hpos : 0 < s.size := by omega
  clear h0
  by_cases h16 : 16 < s.size
  · have HF := Lib.hid (name_long (l := s.data.toList) (by rw [← size_len]; exact h16))
    go_enter Tryz.func54, Tryz.ntmps54
    go_wp2
    go_ret
    exact ⟨ret_bool HF.out.symm, Below.refl _ _⟩
  have hlen : 0 < s.data.toList.length := by rw [← size_len]; exact hpos
  have hz : s.size ≤ 16 := by omega
  have hhd : s.data.toList.headD 0 = (s[0]'hpos) := head_get _ hlen
  have HL := Lib.hid (fun w => rlet_any (s[0]'hpos) w)
  have HFst := Lib.hid hhd
  clear hlen hhd
  cases hl : isLet (s[0]'hpos)
  · have HF := Lib.hid (name_first (l := s.data.toList) (by rw [HFst.out]; exact hl))
    rw [hl] at HL
    clear hl
    go_enter Tryz.func54, Tryz.ntmps54
    go_wp2_with (go_at_call 95; refine (HL.out _).mono ?_; rintro e w' ⟨rfl, rfl⟩)
    go_ret
    exact ⟨ret_bool HF.out.symm, Below.refl _ _⟩
  rw [hl] at HL
  have HLt := Lib.hid hl
  clear hl
  have HO := Lib.hid (fun w => rown_any s w)
  cases ho : ownB s.data.toList
  case true =>
    have HF := Lib.hid (name_own ho)
    rw [ho] at HO
    clear ho
    go_enter Tryz.func54, Tryz.ntmps54
    go_wp2_with (first | (go_at_call 95; refine (HL.out _).mono ?_; rintro e w' ⟨rfl, rfl⟩) | (go_at_call 96; refine (HO.out _).mono ?_; rintro e w1 ⟨rfl, hB1⟩))
    go_ret
    exact ⟨ret_bool HF.out.symm, hB1⟩
  rw [ho] at HO
  have HOw := Lib.hid ho
  clear ho
  go_enter Tryz.func54, Tryz.ntmps54
  go_wp2_with (first | (go_at_call 95; refine (HL.out _).mono ?_; rintro e w' ⟨rfl, rfl⟩) | (go_at_call 96; refine (HO.out _).mono ?_; rintro e w1 ⟨rfl, hB1⟩))
  have HB1 := Lib.hid hB1
  clear hB1
  go_loopw [3] (fun i wr => ∃ k : Nat, i = .int .i64 k ∧ k ≤ s.size ∧ Hid ((s.data.toList.take k).all isPart = true) ∧ wr = w1) (fun i _ => s.size - (intOf i).toNat)
  case atStart => exact ⟨0, rfl, by omega, Lib.hid rfl, rfl⟩
  case round =>
    obtain ⟨k, rfl, hk, hP, rfl⟩ := hrel
    by_cases hlt : k < s.size
    · have HP := Lib.hid (fun w => rpart_any (s[k]'hlt) w)
      have HS := Lib.hid (fun h => isPart_take (l := s.data.toList) (k := k) hP.out (by rw [← size_len]; exact hlt) h)
      have HN := Lib.hid (fun h => name_part (l := s.data.toList) (k := k) (by rw [← size_len]; exact hlt) h)
      have hg : s.data.toList[k]'(by rw [← size_len]; exact hlt) = s[k]'hlt := rfl
      rw [hg] at HS HN
      clear hg
      cases hc : isPart (s[k]'hlt)
      · rw [hc] at HP
        have HF := Lib.hid (HN.out hc)
        clear HN hc HS
        go_wp2_with (go_at_call 97; refine (HP.out _).mono ?_; rintro e w' ⟨rfl, rfl⟩)
        go_ret
        exact ⟨ret_bool HF.out.symm, HB1.out⟩
      · rw [hc] at HP
        have HT := Lib.hid (HS.out hc)
        clear HN hc HS
        go_wp2_with (go_at_call 97; refine (HP.out _).mono ?_; rintro e w' ⟨rfl, rfl⟩)
        go_roundw
        case rel => exact ⟨k + 1, by go_num, by omega, HT, trivial⟩
        case measure => simp [intOf]; omega
    · obtain rfl : k = s.size := by omega
      have HF := Lib.hid (name_yes (l := s.data.toList) (by rw [← size_len]; exact hpos) (by rw [← size_len]; exact hz) (by rw [HFst.out]; exact HLt.out) HOw.out (by rw [← size_len]; exact hP.out))
      go_wp2
      go_ret
      exact ⟨ret_bool HF.out.symm, HB1.out⟩
end Go.Proofs.YtlhbledakddbbaaGreatDoor
