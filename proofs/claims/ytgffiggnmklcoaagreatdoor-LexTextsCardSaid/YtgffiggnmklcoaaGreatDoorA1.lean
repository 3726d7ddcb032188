/- Bytes, words, names, numbers: plainly. -/
import Derived.Lib.ParseIntB
namespace Go.Proofs.YtgffiggnmklcoaaGreatDoor

def isLet (c : UInt8) : Bool := decide (97 ≤ c.toNat) && decide (c.toNat ≤ 122)
def isDig (c : UInt8) : Bool := decide (48 ≤ c.toNat) && decide (c.toNat ≤ 57)
def isPart (c : UInt8) : Bool := isLet c || isDig c || decide (c.toNat = 95)
def isNote (c : UInt8) : Bool := !decide (c.toNat = 10)

/-- the language's own words -/
def ownWords : List (List UInt8) := [[97, 114, 114, 97, 121], [101, 108, 115, 101], [102, 110], [102, 111, 114], [105, 102], [112, 105, 99, 107], [114, 101, 103, 105, 111, 110], [115, 101, 99, 114, 101, 116], [115, 116, 97, 99, 107], [118, 97, 114], [119, 104, 105, 108, 101]]
def ownB (l : List UInt8) : Bool := decide (l ∈ ownWords)
def nameB (l : List UInt8) : Bool := !l.isEmpty && decide (l.length ≤ 16) && isLet (l.headD 0) && !ownB l && l.all isPart

/-- a decimal number's value -/
def decN (l : List UInt8) : Nat := l.foldl (fun n c => n * 10 + (c.toNat - 48)) 0
def lim64 : Nat := 2 ^ 64
def numB (l : List UInt8) : Bool := !l.isEmpty && l.all isDig && !(decide (1 < l.length) && decide (l.headD 0 = 48)) && decide (decN l < lim64)
/-- what Number answers: the word, the error -/
def numV (l : List UInt8) : Nat := if numB l then decN l else 0
def numE (l : List UInt8) : Nat := if numB l then 0 else 15

theorem decN_snoc (l : List UInt8) (c : UInt8) : decN (l ++ [c]) = decN l * 10 + (c.toNat - 48) := by simp [decN]
theorem foldl_ge (l : List UInt8) (n : Nat) : n ≤ l.foldl (fun n c => n * 10 + (c.toNat - 48)) n := by
  induction l generalizing n with
  | nil => exact Nat.le_refl _
  | cons c r ih => exact Nat.le_trans (show n ≤ n * 10 + (c.toNat - 48) by omega) (ih _)
theorem decN_append_le (l r : List UInt8) : decN l ≤ decN (l ++ r) := by
  unfold decN; rw [List.foldl_append]; exact foldl_ge r _

/-- a number of that many digits, the first of which is no nought, is that great -/
theorem foldl_pow (l : List UInt8) (n : Nat) : n * 10 ^ l.length ≤ l.foldl (fun n c => n * 10 + (c.toNat - 48)) n := by
  induction l generalizing n with
  | nil => simp
  | cons c r ih =>
    refine Nat.le_trans ?_ (ih _)
    rw [List.length_cons, Nat.pow_succ', ← Nat.mul_assoc]
    exact Nat.mul_le_mul_right _ (show n * 10 ≤ n * 10 + (c.toNat - 48) by omega)

theorem decN_cons (c : UInt8) (r : List UInt8) : decN (c :: r) = r.foldl (fun n c => n * 10 + (c.toNat - 48)) (c.toNat - 48) := by simp [decN]
theorem decN_long (c : UInt8) (r : List UInt8) (hd : isDig c = true) (h0 : c ≠ 48) (h20 : 20 ≤ r.length) : lim64 ≤ decN (c :: r) := by
  have h1 : 1 ≤ c.toNat - 48 := by
    have : c.toNat ≠ 48 := fun h => h0 (UInt8.toNat_inj.1 (by rw [h]; rfl))
    simp [isDig] at hd; omega
  have h2 := foldl_pow r (c.toNat - 48)
  rw [decN_cons]
  refine Nat.le_trans ?_ h2
  refine Nat.le_trans (?_ : lim64 ≤ 1 * 10 ^ 20) (Nat.mul_le_mul h1 (Nat.pow_le_pow_right (by omega) h20))
  decide

/-- ParseUint's own -/
theorem parse_of (l : List UInt8) (h : l ≠ []) : Go.Lib.parseUintB 64 l = Go.Lib.parseUintM (2 ^ 64 - 1) 0 l := by simp [Go.Lib.parseUintB, h]
abbrev stepN (n : Nat) (c : UInt8) : Nat := n * 10 + (c.toNat - 48)
theorem isDig_iff (c : UInt8) : isDig c = true ↔ 48 ≤ c.toNat ∧ c.toNat ≤ 57 := by simp [isDig]
theorem parseM_ok (l : List UInt8) (a : Nat) (hd : l.all isDig = true) (hb : l.foldl stepN a ≤ 18446744073709551615) : Go.Lib.parseUintM 18446744073709551615 a l = .ok (l.foldl stepN a) := by
  induction l generalizing a with
  | nil => rfl
  | cons c r ih =>
    simp only [List.all_cons, Bool.and_eq_true] at hd
    have h1 := foldl_ge r (stepN a c)
    have h2 : r.foldl stepN (stepN a c) ≤ 18446744073709551615 := hb
    have h3 : stepN a c ≤ 18446744073709551615 := Nat.le_trans h1 h2
    have h4 : stepN a c = a * 10 + (c.toNat - 48) := rfl
    rw [Go.Lib.parseUintM, if_pos ((isDig_iff c).1 hd.1), if_neg (by omega), if_neg (by omega)]
    exact ih _ hd.2 hb
theorem parseM_no (l : List UInt8) (a : Nat) (h : ¬ (l.all isDig = true ∧ l.foldl stepN a ≤ 18446744073709551615)) (ha : a ≤ 18446744073709551615) : Go.Lib.parseUintM 18446744073709551615 a l = .syntax ∨ Go.Lib.parseUintM 18446744073709551615 a l = .range := by
  induction l generalizing a with
  | nil => exact absurd ⟨rfl, ha⟩ h
  | cons c r ih =>
    rw [Go.Lib.parseUintM]
    by_cases h1 : 48 ≤ c.toNat ∧ c.toNat ≤ 57
    · rw [if_pos h1]
      by_cases h2 : 1844674407370955162 ≤ a
      · rw [if_pos h2]; exact .inr rfl
      · rw [if_neg h2]
        by_cases h3 : 18446744073709551615 < a * 10 + (c.toNat - 48)
        · rw [if_pos h3]; exact .inr rfl
        · rw [if_neg h3]
          refine ih _ (fun hh => h ⟨?_, hh.2⟩) (by omega)
          rw [List.all_cons, hh.1, (isDig_iff c).2 h1]; rfl
    · rw [if_neg h1]; exact .inl rfl
theorem lim64_eq : lim64 = 18446744073709551616 := by decide
theorem decN_eq (l : List UInt8) : decN l = l.foldl stepN 0 := rfl

/-- what ParseUint finds in a text that is no nought ahead of others -/
theorem parse_yes (l : List UInt8) (h : numB l = true) : Go.Lib.parseUintB 64 l = .ok (decN l) := by
  simp only [numB, Bool.and_eq_true, Bool.not_eq_true', decide_eq_true_eq] at h
  obtain ⟨⟨⟨h1, h2⟩, _⟩, h4⟩ := h
  rw [parse_of l (by intro h; rw [h] at h1; cases h1)]
  rw [lim64_eq] at h4
  exact parseM_ok l 0 h2 (by rw [← decN_eq]; omega)
theorem parse_no (l : List UInt8) (h : numB l = false) (h0 : (decide (1 < l.length) && decide (l.headD 0 = 48)) = false) : Go.Lib.parseUintB 64 l = .syntax ∨ Go.Lib.parseUintB 64 l = .range := by
  by_cases he : l = []
  · subst he; exact .inl rfl
  · rw [parse_of l he]
    refine parseM_no l 0 (fun ⟨h2, h3⟩ => ?_) (by omega)
    have : numB l = true := by
      rw [numB, h0, h2, lim64_eq, decN_eq, decide_eq_true (by omega)]
      cases l with
      | nil => exact absurd rfl he
      | cons c r => rfl
    rw [h] at this; cases this
end Go.Proofs.YtgffiggnmklcoaaGreatDoor
