/- LxA1, LxB1, LxC1, LxC2 as one. -/
import Derived.Lib.ParseIntB
import Derived.Test.YtchbnkepmeelkaaGreatDoorProg
import Derived.WalkKit
import Derived.BigQuiet
import Derived.Deep.QuietTactic
import Derived.Lib.Hide
import Derived.Lib.IndexBytes
/- Bytes, words, names, numbers: plainly. -/
namespace Go.Proofs.YtchbnkepmeelkaaGreatDoor.Lx

def isLet (c : UInt8) : Bool := decide (97 ≤ c.toNat) && decide (c.toNat ≤ 122)
def isDig (c : UInt8) : Bool := decide (48 ≤ c.toNat) && decide (c.toNat ≤ 57)
def isPart (c : UInt8) : Bool := isLet c || isDig c || decide (c.toNat = 95)
def isNote (c : UInt8) : Bool := !decide (c.toNat = 10)

/-- the language's own words -/
def ownWords : List (List UInt8) := [[97, 114, 114, 97, 121], [101, 108, 115, 101], [102, 110], [102, 111, 114], [105, 102], [112, 105, 99, 107], [114, 101, 103, 105, 111, 110], [115, 101, 99, 114, 101, 116], [115, 116, 97, 99, 107], [118, 97, 114], [119, 104, 105, 108, 101]]
def ownB (l : List UInt8) : Bool := decide (l ∈ ownWords)
def nameB (l : List UInt8) : Bool := !l.isEmpty && decide (l.length ≤ 16) && isLet (l.headD 0) && !ownB l && l.all isPart

/-- a decimal number's value -/
def decN (l : List UInt8) : Nat := l.foldl (fun n c => n * 10 + (c.toNat - 48)) 0
def lim64 : Nat := 2 ^ 64
def numB (l : List UInt8) : Bool := !l.isEmpty && l.all isDig && !(decide (1 < l.length) && decide (l.headD 0 = 48)) && decide (decN l < lim64)
/-- what Number answers: the word, the error -/
def numV (l : List UInt8) : Nat := if numB l then decN l else 0
def numE (l : List UInt8) : Nat := if numB l then 0 else 15

theorem foldl_ge (l : List UInt8) (n : Nat) : n ≤ l.foldl (fun n c => n * 10 + (c.toNat - 48)) n := by
  induction l generalizing n with
  | nil => exact Nat.le_refl _
  | cons c r ih => exact Nat.le_trans (show n ≤ n * 10 + (c.toNat - 48) by omega) (ih _)
/-- ParseUint's own -/
theorem parse_of (l : List UInt8) (h : l ≠ []) : Go.Lib.parseUintB 64 l = Go.Lib.parseUintM (2 ^ 64 - 1) 0 l := by simp [Go.Lib.parseUintB, h]
abbrev stepN (n : Nat) (c : UInt8) : Nat := n * 10 + (c.toNat - 48)
theorem isDig_iff (c : UInt8) : isDig c = true ↔ 48 ≤ c.toNat ∧ c.toNat ≤ 57 := by simp [isDig]
theorem parseM_ok (l : List UInt8) (a : Nat) (hd : l.all isDig = true) (hb : l.foldl stepN a ≤ 18446744073709551615) : Go.Lib.parseUintM 18446744073709551615 a l = .ok (l.foldl stepN a) := by
  induction l generalizing a with
  | nil => rfl
  | cons c r ih =>
    simp only [List.all_cons, Bool.and_eq_true] at hd
    have h1 := foldl_ge r (stepN a c)
    have h2 : r.foldl stepN (stepN a c) ≤ 18446744073709551615 := hb
    have h3 : stepN a c ≤ 18446744073709551615 := Nat.le_trans h1 h2
    have h4 : stepN a c = a * 10 + (c.toNat - 48) := rfl
    rw [Go.Lib.parseUintM, if_pos ((isDig_iff c).1 hd.1), if_neg (by omega), if_neg (by omega)]
    exact ih _ hd.2 hb
theorem parseM_no (l : List UInt8) (a : Nat) (h : ¬ (l.all isDig = true ∧ l.foldl stepN a ≤ 18446744073709551615)) (ha : a ≤ 18446744073709551615) : Go.Lib.parseUintM 18446744073709551615 a l = .syntax ∨ Go.Lib.parseUintM 18446744073709551615 a l = .range := by
  induction l generalizing a with
  | nil => exact absurd ⟨rfl, ha⟩ h
  | cons c r ih =>
    rw [Go.Lib.parseUintM]
    by_cases h1 : 48 ≤ c.toNat ∧ c.toNat ≤ 57
    · rw [if_pos h1]
      by_cases h2 : 1844674407370955162 ≤ a
      · rw [if_pos h2]; exact .inr rfl
      · rw [if_neg h2]
        by_cases h3 : 18446744073709551615 < a * 10 + (c.toNat - 48)
        · rw [if_pos h3]; exact .inr rfl
        · rw [if_neg h3]
          refine ih _ (fun hh => h ⟨?_, hh.2⟩) (by omega)
          rw [List.all_cons, hh.1, (isDig_iff c).2 h1]; rfl
    · rw [if_neg h1]; exact .inl rfl
theorem lim64_eq : lim64 = 18446744073709551616 := by decide
theorem decN_eq (l : List UInt8) : decN l = l.foldl stepN 0 := rfl

/-- what ParseUint finds in a text that is no nought ahead of others -/
theorem parse_yes (l : List UInt8) (h : numB l = true) : Go.Lib.parseUintB 64 l = .ok (decN l) := by
  simp only [numB, Bool.and_eq_true, Bool.not_eq_true', decide_eq_true_eq] at h
  obtain ⟨⟨⟨h1, h2⟩, _⟩, h4⟩ := h
  rw [parse_of l (by intro h; rw [h] at h1; cases h1)]
  rw [lim64_eq] at h4
  exact parseM_ok l 0 h2 (by rw [← decN_eq]; omega)
theorem parse_no (l : List UInt8) (h : numB l = false) (h0 : (decide (1 < l.length) && decide (l.headD 0 = 48)) = false) : Go.Lib.parseUintB 64 l = .syntax ∨ Go.Lib.parseUintB 64 l = .range := by
  by_cases he : l = []
  · subst he; exact .inl rfl
  · rw [parse_of l he]
    refine parseM_no l 0 (fun ⟨h2, h3⟩ => ?_) (by omega)
    have : numB l = true := by
      rw [numB, h0, h2, lim64_eq, decN_eq, decide_eq_true (by omega)]
      cases l with
      | nil => exact absurd rfl he
      | cons c r => rfl
    rw [h] at this; cases this
end Go.Proofs.YtchbnkepmeelkaaGreatDoor.Lx
/- Tests of bytes, the program's and the document's. -/
namespace Go.Proofs.YtchbnkepmeelkaaGreatDoor.Lx
open Go.RowKit

theorem ret_bool {a b : Bool} (h : a = b) : Ending.returned (.bool a) = Ending.returned (.bool b) := by rw [h]
theorem bytes_ext {a b : ByteArray} (h : a.data.toList = b.data.toList) : a = b := by
  obtain ⟨⟨x⟩⟩ := a; obtain ⟨⟨y⟩⟩ := b; cases h; rfl
/-- a text out of its bytes -/
def str (l : List UInt8) : ByteArray := ⟨l.toArray⟩
theorem str_data (l : List UInt8) : (str l).data.toList = l := rfl

theorem let_any (c : UInt8) (w : World) : Calls Tryz.prog 182 #[.int .u8 (c.toNat : Int)] w fun e w' => e = .returned (.bool (isLet c)) ∧ w = w' := by
  have hb : c.toNat < 256 := c.toNat_lt
  unfold isLet
  by_cases h1 : 97 ≤ c.toNat
  · by_cases h2 : c.toNat ≤ 122
    · have e1 : decide ((97 : Int) ≤ (c.toNat : Int)) = true := decide_eq_true (by omega)
      have e2 : decide ((c.toNat : Int) ≤ 122) = true := decide_eq_true (by omega)
      go_enter Tryz.func182, Tryz.ntmps182
      go_wp2
      go_ret
      exact ⟨by simp [h1, h2], rfl⟩
    · have e1 : decide ((97 : Int) ≤ (c.toNat : Int)) = true := decide_eq_true (by omega)
      have e2 : decide ((c.toNat : Int) ≤ 122) = false := decide_eq_false (by omega)
      go_enter Tryz.func182, Tryz.ntmps182
      go_wp2
      go_ret
      exact ⟨by simp [h1, h2], rfl⟩
  · have e1 : decide ((97 : Int) ≤ (c.toNat : Int)) = false := decide_eq_false (by omega)
    go_enter Tryz.func182, Tryz.ntmps182
    go_wp2
    go_ret
    exact ⟨by simp [h1], rfl⟩

theorem dig_any (c : UInt8) (w : World) : Calls Tryz.prog 234 #[.int .u8 (c.toNat : Int)] w fun e w' => e = .returned (.bool (isDig c)) ∧ w = w' := by
  have hb : c.toNat < 256 := c.toNat_lt
  unfold isDig
  by_cases h1 : 48 ≤ c.toNat
  · by_cases h2 : c.toNat ≤ 57
    · have e1 : decide ((48 : Int) ≤ (c.toNat : Int)) = true := decide_eq_true (by omega)
      have e2 : decide ((c.toNat : Int) ≤ 57) = true := decide_eq_true (by omega)
      go_enter Tryz.func234, Tryz.ntmps234
      go_wp2
      go_ret
      exact ⟨by simp [h1, h2], rfl⟩
    · have e1 : decide ((48 : Int) ≤ (c.toNat : Int)) = true := decide_eq_true (by omega)
      have e2 : decide ((c.toNat : Int) ≤ 57) = false := decide_eq_false (by omega)
      go_enter Tryz.func234, Tryz.ntmps234
      go_wp2
      go_ret
      exact ⟨by simp [h1, h2], rfl⟩
  · have e1 : decide ((48 : Int) ≤ (c.toNat : Int)) = false := decide_eq_false (by omega)
    go_enter Tryz.func234, Tryz.ntmps234
    go_wp2
    go_ret
    exact ⟨by simp [h1], rfl⟩

theorem part_any (c : UInt8) (w : World) : Calls Tryz.prog 184 #[.int .u8 (c.toNat : Int)] w fun e w' => e = .returned (.bool (isPart c)) ∧ w = w' := by
  have HA := Lib.hid (fun w => let_any c w)
  have HD := Lib.hid (fun w => dig_any c w)
  have h95 : decide (c.toNat = 95) = ((c.toNat : Int) == 95) := by rw [Bool.eq_iff_iff]; simp; omega
  unfold isPart
  rw [h95]
  clear h95
  generalize isLet c = x at HA
  generalize isDig c = y at HD
  generalize e : ((c.toNat : Int) == 95) = z
  cases x <;> cases y <;> cases z <;>
  · go_enter Tryz.func184, Tryz.ntmps184
    go_wp2_with (first | (go_at_call 182; refine (HA.out _).mono ?_; rintro e w' ⟨rfl, rfl⟩) | (go_at_call 234; refine (HD.out _).mono ?_; rintro e w' ⟨rfl, rfl⟩))
    go_ret
    exact ⟨rfl, rfl⟩

theorem note_any (c : UInt8) (w : World) : Calls Tryz.prog 243 #[.int .u8 (c.toNat : Int)] w fun e w' => e = .returned (.bool (isNote c)) ∧ w = w' := by
  have h10 : isNote c = ((c.toNat : Int) != 10) := by rw [Bool.eq_iff_iff]; simp [isNote]; omega
  rw [h10]
  go_enter Tryz.func243, Tryz.ntmps243
  go_wp2
  go_ret
  exact ⟨rfl, rfl⟩
end Go.Proofs.YtchbnkepmeelkaaGreatDoor.Lx
/- Own words, the program's and the document's. -/
namespace Go.Proofs.YtchbnkepmeelkaaGreatDoor.Lx
open Go.RowKit

theorem own_split (l : List UInt8) : ownB l = ((l == [97, 114, 114, 97, 121]) || ((l == [101, 108, 115, 101]) || ((l == [102, 110]) || ((l == [102, 111, 114]) || ((l == [105, 102]) || ((l == [112, 105, 99, 107]) || ((l == [114, 101, 103, 105, 111, 110]) || ((l == [115, 101, 99, 114, 101, 116]) || ((l == [115, 116, 97, 99, 107]) || ((l == [118, 97, 114]) || ((l == [119, 104, 105, 108, 101])))))))))))  ) := by
  rw [Bool.eq_iff_iff]
  simp only [ownB, ownWords, List.mem_cons, List.not_mem_nil, or_false, decide_eq_true_eq, Bool.or_eq_true, beq_iff_eq]
theorem own_any (s : ByteArray) (w : World) : Calls Tryz.prog 183 #[.string s] w fun e w' => e = .returned (.bool (ownB s.data.toList)) ∧ w = w' := by
  rw [own_split, ← Go.Lib.toList_data]
  generalize e0 : (s.toList == [97, 114, 114, 97, 121]) = x0
  generalize e1 : (s.toList == [101, 108, 115, 101]) = x1
  generalize e2 : (s.toList == [102, 110]) = x2
  generalize e3 : (s.toList == [102, 111, 114]) = x3
  generalize e4 : (s.toList == [105, 102]) = x4
  generalize e5 : (s.toList == [112, 105, 99, 107]) = x5
  generalize e6 : (s.toList == [114, 101, 103, 105, 111, 110]) = x6
  generalize e7 : (s.toList == [115, 101, 99, 114, 101, 116]) = x7
  generalize e8 : (s.toList == [115, 116, 97, 99, 107]) = x8
  generalize e9 : (s.toList == [118, 97, 114]) = x9
  generalize e10 : (s.toList == [119, 104, 105, 108, 101]) = x10
  cases x0
  case true =>
    go_enter Tryz.func183, Tryz.ntmps183
    go_wp2
    go_ret
    exact ⟨rfl, rfl⟩
  cases x1
  case true =>
    go_enter Tryz.func183, Tryz.ntmps183
    go_wp2
    go_ret
    exact ⟨rfl, rfl⟩
  cases x2
  case true =>
    go_enter Tryz.func183, Tryz.ntmps183
    go_wp2
    go_ret
    exact ⟨rfl, rfl⟩
  cases x3
  case true =>
    go_enter Tryz.func183, Tryz.ntmps183
    go_wp2
    go_ret
    exact ⟨rfl, rfl⟩
  cases x4
  case true =>
    go_enter Tryz.func183, Tryz.ntmps183
    go_wp2
    go_ret
    exact ⟨rfl, rfl⟩
  cases x5
  case true =>
    go_enter Tryz.func183, Tryz.ntmps183
    go_wp2
    go_ret
    exact ⟨rfl, rfl⟩
  cases x6
  case true =>
    go_enter Tryz.func183, Tryz.ntmps183
    go_wp2
    go_ret
    exact ⟨rfl, rfl⟩
  cases x7
  case true =>
    go_enter Tryz.func183, Tryz.ntmps183
    go_wp2
    go_ret
    exact ⟨rfl, rfl⟩
  cases x8
  case true =>
    go_enter Tryz.func183, Tryz.ntmps183
    go_wp2
    go_ret
    exact ⟨rfl, rfl⟩
  cases x9
  case true =>
    go_enter Tryz.func183, Tryz.ntmps183
    go_wp2
    go_ret
    exact ⟨rfl, rfl⟩
  cases x10
  case true =>
    go_enter Tryz.func183, Tryz.ntmps183
    go_wp2
    go_ret
    exact ⟨rfl, rfl⟩
  go_enter Tryz.func183, Tryz.ntmps183
  go_wp2
  go_ret
  exact ⟨rfl, rfl⟩

def noneOf (l : List UInt8) (k : Nat) : Prop := ∀ x ∈ ownWords.take k, (x == l) = false
theorem noneOf.step {l : List UInt8} {k : Nat} (h : noneOf l k) (x : List UInt8) (hx : ownWords[k]? = some x) (he : (x == l) = false) : noneOf l (k + 1) := by
  intro y hy
  rw [List.take_add_one, hx] at hy
  rcases List.mem_append.1 hy with h1 | h1
  · exact h y h1
  · simp at h1; subst h1; exact he
theorem noneOf.no {l : List UInt8} (h : noneOf l 11) : ownB l = false := by
  refine decide_eq_false fun hm => ?_
  have := h l hm
  simp at this
end Go.Proofs.YtchbnkepmeelkaaGreatDoor.Lx
/- Names, the program's and the document's. -/
namespace Go.Proofs.YtchbnkepmeelkaaGreatDoor.Lx
open Go.RowKit

theorem size_len (s : ByteArray) : s.size = s.data.toList.length := by rw [Array.length_toList]; rfl
theorem name_yes {l : List UInt8} (h0 : 0 < l.length) (h1 : l.length ≤ 16) (h2 : isLet (l.headD 0) = true) (h3 : ownB l = false) (h4 : (l.take l.length).all isPart = true) : nameB l = true := by
  rw [List.take_length] at h4
  cases l with
  | nil => simp at h0
  | cons c r => simp only [nameB, h2, h3, h4, decide_eq_true h1]; rfl
theorem head_get (l : List UInt8) (h : 0 < l.length) : l.headD 0 = l[0] := by
  cases l with
  | nil => simp at h
  | cons c r => rfl

end Go.Proofs.YtchbnkepmeelkaaGreatDoor.Lx
