/- A text's tokens, plainly. -/
import Derived.Test.YtgffiggnmklcoaaGreatDoorE1
namespace Go.Proofs.YtgffiggnmklcoaaGreatDoor

/-- line and column behind a beginning -/
def lcF (a : Nat × Nat) (c : UInt8) : Nat × Nat := if c.toNat = 10 then (a.1 + 1, 1) else (a.1, a.2 + 1)
def lc (p : List UInt8) : Nat × Nat := p.foldl lcF (1, 1)
/-- a token -/
structure Tk where
  kind : Nat
  text : List UInt8
  word : Nat
  line : Nat
  col : Nat
deriving DecidableEq
/-- the token with which a text begins: kind, text, number; the error -/
def oneK (r : List UInt8) : Nat := if isPart (r.headD 0) then wordK (r.takeWhile isPart) else 4
def oneT (r : List UInt8) : List UInt8 := if isPart (r.headD 0) then r.takeWhile isPart else r.take (signLen r)
def oneX (r : List UInt8) : Nat := if isPart (r.headD 0) then wordX (r.takeWhile isPart) else 0
def oneE (r : List UInt8) : Nat := if isPart (r.headD 0) then wordE (r.takeWhile isPart) else if signLen r = 0 then 15 else 0
def isBlank (c : UInt8) : Bool := decide (c.toNat = 10) || decide (c.toNat = 32) || decide (c.toNat = 9) || decide (c.toNat = 13)
def tokAt (l : List UInt8) (at' : Nat) : Tk := ⟨oneK (l.drop at'), oneT (l.drop at'), oneX (l.drop at'), (lc (l.take at')).1, (lc (l.take at')).2⟩
/-- the tokens from a place on, each with its place; the first place that is wrong, and why -/
def lexF (l : List UInt8) : Nat → Nat → List (Nat × Tk) × Option (Nat × Nat)
  | 0, _ => ([], none)
  | f + 1, a =>
    if l.length ≤ a then ([], none)
    else if isBlank ((l.drop a).headD 0) then lexF l f (a + 1)
    else if ((l.drop a).headD 0).toNat = 35 then lexF l f (a + runLen isNote (l.drop a))
    else if oneE (l.drop a) ≠ 0 then ([], some (a, oneE (l.drop a)))
    else ((a, tokAt l a) :: (lexF l f (a + (oneT (l.drop a)).length)).1, (lexF l f (a + (oneT (l.drop a)).length)).2)
def lexAll (l : List UInt8) : List (Nat × Tk) × Option (Nat × Nat) := lexF l l.length 0

theorem lc_snoc (p : List UInt8) (c : UInt8) : lc (p ++ [c]) = lcF (lc p) c := by simp [lc]
theorem lc_run (p q : List UInt8) (h : q.all isNote = true) : lc (p ++ q) = ((lc p).1, (lc p).2 + q.length) := by
  induction q generalizing p with
  | nil => simp
  | cons c r ih =>
    rw [List.all_cons, Bool.and_eq_true] at h
    have h1 : c.toNat ≠ 10 := by simpa [isNote] using h.1
    have e : p ++ c :: r = (p ++ [c]) ++ r := by simp
    rw [e, ih _ h.2, lc_snoc, lcF, if_neg h1]
    simp; omega
theorem take_add (l : List UInt8) (a n : Nat) : l.take (a + n) = l.take a ++ (l.drop a).take n := by rw [List.take_add]
theorem lc_take_run {l : List UInt8} {a n : Nat} (h : ((l.drop a).take n).all isNote = true) (hn : a + n ≤ l.length) : lc (l.take (a + n)) = ((lc (l.take a)).1, (lc (l.take a)).2 + n) := by
  rw [take_add, lc_run _ _ h, List.length_take, List.length_drop, Nat.min_eq_left (by omega)]
theorem lc_take_succ {l : List UInt8} {a : Nat} (h : a < l.length) : lc (l.take (a + 1)) = lcF (lc (l.take a)) l[a] := by
  rw [List.take_succ_eq_append_getElem h, lc_snoc]
theorem lc_le (p : List UInt8) : 1 ≤ (lc p).1 ∧ (lc p).1 ≤ p.length + 1 ∧ 1 ≤ (lc p).2 ∧ (lc p).2 ≤ p.length + 1 := by
  suffices h : ∀ (p : List UInt8) (a b n : Nat), 1 ≤ a → a ≤ n → 1 ≤ b → b ≤ n → 1 ≤ (p.foldl lcF (a, b)).1 ∧ (p.foldl lcF (a, b)).1 ≤ p.length + n ∧ 1 ≤ (p.foldl lcF (a, b)).2 ∧ (p.foldl lcF (a, b)).2 ≤ p.length + n from by
    have := h p 1 1 1 (by omega) (by omega) (by omega) (by omega)
    exact this
  intro p
  induction p with
  | nil => intro a b n h1 h2 h3 h4; exact ⟨h1, by simpa using h2, h3, by simpa using h4⟩
  | cons c r ih =>
    intro a b n h1 h2 h3 h4
    rw [List.foldl_cons, List.length_cons]
    by_cases hc : c.toNat = 10
    · have e : lcF (a, b) c = (a + 1, 1) := by rw [lcF, if_pos hc]
      rw [e]
      have := ih (a + 1) 1 (n + 1) (by omega) (by omega) (by omega) (by omega)
      omega
    · have e : lcF (a, b) c = (a, b + 1) := by rw [lcF, if_neg hc]
      rw [e]
      have := ih a (b + 1) (n + 1) (by omega) (by omega) (by omega) (by omega)
      omega

theorem isNote_part {c : UInt8} (h : isPart c = true) : isNote c = true := by
  simp [isPart, isLet, isDig, isNote] at *; omega
theorem takeWhile_take (f : UInt8 → Bool) (r : List UInt8) : r.takeWhile f = r.take (runLen f r) := by
  unfold runLen
  have h := List.takeWhile_append_dropWhile (p := f) (l := r)
  exact (List.prefix_iff_eq_take.1 (List.takeWhile_prefix f))
theorem all_takeWhile (f : UInt8 → Bool) (r : List UInt8) : (r.takeWhile f).all f = true := by
  induction r with
  | nil => rfl
  | cons c r ih =>
    rw [List.takeWhile_cons]
    cases h : f c with
    | false => rfl
    | true => simp only [if_true, List.all_cons, h, Bool.true_and]; exact ih
theorem all_note {r : List UInt8} (h : r.all isPart = true) : r.all isNote = true := by
  rw [List.all_eq_true] at *
  exact fun x hx => isNote_part (h x hx)
theorem signT_note : signT.all (fun x => x.all isNote) = true := by decide
theorem signDown_mem (l : List UInt8) (n : Nat) (h : signDown l n ≠ 0) : l.take (signDown l n) ∈ signT := by
  induction n with
  | zero => exact absurd rfl h
  | succ n ih =>
    unfold signDown at h ⊢
    split at h
    · rename_i hm; rw [if_pos hm]; exact hm
    · rename_i hm; rw [if_neg hm]; exact ih h
theorem sign_note (l : List UInt8) : (l.take (signLen l)).all isNote = true := by
  by_cases h : signLen l = 0
  · rw [h]; rfl
  · exact (List.all_eq_true.1 signT_note) _ (signDown_mem l _ h)
/-- a token's text is the text's beginning -/
def oneN (r : List UInt8) : Nat := if isPart (r.headD 0) then runLen isPart r else signLen r
theorem oneT_take (r : List UInt8) (_h : oneE r = 0) : oneT r = r.take (oneN r) := by
  unfold oneT oneN
  split
  · exact takeWhile_take _ _
  · rfl
theorem oneN_le (r : List UInt8) : oneN r ≤ r.length := by
  unfold oneN
  split
  · exact runLen_le _ _
  · exact signLen_le _
theorem oneT_len (r : List UInt8) : (oneT r).length = oneN r := by
  unfold oneT oneN
  split
  · rfl
  · rw [List.length_take, Nat.min_eq_left (signLen_le _)]
theorem oneT_note (r : List UInt8) : (r.take (oneN r)).all isNote = true := by
  unfold oneN
  split
  · rw [← takeWhile_take]; exact all_note (all_takeWhile _ _)
  · exact sign_note _
theorem oneN_pos {r : List UInt8} (h0 : r ≠ []) (h : oneE r = 0) : 0 < oneN r := by
  unfold oneN
  unfold oneE at h
  cases r with
  | nil => exact absurd rfl h0
  | cons c r =>
    split
    · rename_i hp
      have : isPart c = true := hp
      simp [runLen, this]
    · rename_i hp
      rw [if_neg hp] at h
      split at h
      · cases h
      · omega
end Go.Proofs.YtgffiggnmklcoaaGreatDoor
