/- LxE1, LxF1, LxF2, LxF3 as one. -/
import Derived.Test.YtchbnkepmeelkaaGreatDoorLB
import Derived.OneCell
import Derived.Outline
import Derived.Deep.LoopGhost
import Derived.BigFrame
/- Bytes are passed. -/
namespace Go.Proofs.YtchbnkepmeelkaaGreatDoor.Lx
open Go.RowKit

/-- all but one block as it was -/
structure But (g : Nat) (w w' : World) : Prop where
  os : w'.os = w.os
  tape : w'.tape = w.tape
  output : w'.output = w.output
  size : w.heap.size ≤ w'.heap.size
  block : ∀ k, k < w.heap.size → k ≠ g → w'.heap[k]? = w.heap[k]?
theorem But.refl (g : Nat) (w : World) : But g w w := ⟨rfl, rfl, rfl, Nat.le_refl _, fun _ _ _ => rfl⟩
theorem But.trans {g : Nat} {a b c : World} (h : But g a b) (k : But g b c) : But g a c :=
  ⟨k.os.trans h.os, k.tape.trans h.tape, k.output.trans h.output, Nat.le_trans h.size k.size, fun i hi hn => (k.block i (Nat.lt_of_lt_of_le hi h.size) hn).trans (h.block i hi hn)⟩
theorem But.of_below {g : Nat} {w w' : World} (h : Below w.heap.size w w') : But g w w' := ⟨h.os, h.tape, h.output, h.size, fun k hk _ => h.block k hk⟩
theorem But.below {g B : Nat} {w w' : World} (h : But g w w') (hB : B ≤ g) (hs : B ≤ w.heap.size) : Below B w w' :=
  ⟨h.os, h.tape, h.output, h.size, fun k hk => h.block k (by omega) (by omega)⟩
theorem But.setCell {g : Nat} {a w : World} (h : But g a w) (o : Nat) (v : Value) : But g a (w.setCell ⟨g, o, none⟩ v) :=
  h.trans ⟨rfl, rfl, rfl, by simp [World.setCell], fun k _ hn => Below.heap_setCell _ _ _ _ hn⟩
theorem But.cell {g : Nat} {w w' : World} (h : But g w w') {p : Addr} (hp : p.block < w.heap.size) (hn : p.block ≠ g) : w'.cell? p = w.cell? p := World.cell?_of_block (w := w) (h.block p.block hp hn)
theorem But.frozen {g : Nat} {w w' : World} (h : But g w w') {p : Addr} (hp : p.block < w.heap.size) (hn : p.block ≠ g) : w'.frozen? p = w.frozen? p := World.frozen?_of_block (w := w) (h.block p.block hp hn)

/-- how many bytes stand together from a place on -/
def runLen (f : UInt8 → Bool) (l : List UInt8) : Nat := (l.takeWhile f).length

theorem run_snoc {f : UInt8 → Bool} {l : List UInt8} {k : Nat} (h : (l.take k).all f = true) (hk : k < l.length) (hc : f l[k] = true) : (l.take (k + 1)).all f = true := by
  rw [List.take_succ_eq_append_getElem hk, List.all_append, h]; simp [hc]
theorem run_at {f : UInt8 → Bool} {l : List UInt8} {k : Nat} (h : (l.take k).all f = true) (hk : k ≤ l.length) (hs : ∀ h : k < l.length, f l[k] = false) : runLen f l = k := by
  induction l generalizing k with
  | nil => simp at hk; subst hk; rfl
  | cons c r ih =>
    cases k with
    | zero =>
      have := hs (by simp)
      simp at this
      simp [runLen, this]
    | succ k =>
      simp only [List.take_succ_cons, List.all_cons, Bool.and_eq_true] at h
      have := ih h.2 (by simpa using hk) (fun h' => hs (Nat.succ_lt_succ h'))
      simp only [runLen, List.takeWhile_cons, h.1, if_true, List.length_cons] at this ⊢
      omega
theorem runLen_le (f : UInt8 → Bool) (l : List UInt8) : runLen f l ≤ l.length := by
  unfold runLen; exact (List.takeWhile_prefix f).length_le

set_option maxRecDepth 100000 in
set_option maxHeartbeats 3200000 in
theorem passWord_any (s : ByteArray) (a ba bt : Nat) (w : World) (hs : s.size ≤ 281474976710656) (ha : a ≤ s.size) (hA : w.heap[ba]? = some (.cells #[.int .i64 a] 3 (0, 0))) (hT : w.cell? ⟨bt, 0, none⟩ = some (.string s)) (hne : bt ≠ ba) :
    Calls Tryz.prog 241 #[.func (.func 184) #[] #[], .pointer (some ⟨ba, 0, none⟩), .pointer (some ⟨bt, 0, none⟩)] w fun e w' =>
      (e = .returned (.string (s.extract a (a + runLen isPart (s.data.toList.drop a)))) ∧ w'.heap[ba]? = some (.cells #[.int .i64 ((a + runLen isPart (s.data.toList.drop a) : Nat) : Int)] 3 (0, 0))) ∧ But ba w w' := by
  have c0 := cell_of_one hA
  have HT := Lib.hid (And.intro hT (World.block_lt_of_cell? w _ hT))
  have HA := Lib.hid hA
  have HNe := Lib.hid hne
  clear hA hT hne
  go_enter Tryz.func241, Tryz.ntmps241
  go_wp2_with fail
  clear c0
  go_loopg [7] (s.size - a) (fun g x wr => ∃ j : Nat, a + j + g = s.size ∧ Hid (((s.data.toList.drop a).take j).all isPart = true) ∧ Hid (wr.heap[ba]? = some (.cells #[.int .i64 ((a + j : Nat) : Int)] 3 (0, 0))) ∧ Hid (But ba w wr))
  case atStart => exact ⟨0, by omega, Lib.hid rfl, HA, Lib.hid (But.refl _ _)⟩
  case round =>
    obtain ⟨j, hj, hP, hA, hB⟩ := hrel
    have cA := cell_of_one hA.out
    have fA := free_of_one hA.out
    have cT := (hB.out.cell (p := ⟨bt, 0, none⟩) HT.out.2 HNe.out).trans HT.out.1
    have hlen : (s.data.toList.drop a).length = s.size - a := by rw [List.length_drop, ← size_len]
    obtain ⟨q, hq⟩ : ∃ q, q = a + j := ⟨_, rfl⟩
    rw [← hq] at cA hj
    by_cases hlt : q < s.size
    · have hjl : j < (s.data.toList.drop a).length := by omega
      have hg : (s.data.toList.drop a)[j] = s[q]'hlt := by subst hq; rw [List.getElem_drop]; rfl
      have HC := Lib.hid (fun w => part_any (s[q]'hlt) w)
      cases hc : isPart (s[q]'hlt)
      · have HF := Lib.hid (run_at hP.out (by omega) (fun _ => by rw [hg]; exact hc))
        have HF2 := Lib.hid (show ((q : Nat) : Int) = ((a + runLen isPart (s.data.toList.drop a) : Nat) : Int) ∧ q = a + runLen isPart (s.data.toList.drop a) by rw [HF.out, hq]; exact ⟨rfl, rfl⟩)
        have HQ := Lib.hid hq
        have haq : a ≤ q := by omega
        have hqs : q ≤ s.size := by omega
        rw [hc] at HC
        clear hc hlen hjl hg hq hj
        go_wp2_with fail
        refine (HC.out _).mono ?_
        rintro e w' ⟨rfl, rfl⟩
        go_wp2_with fail
        go_ret
        exact ⟨⟨by rw [← HF2.out.2]; rfl, by rw [← HF2.out.1, HQ.out]; exact hA.out⟩, hB.out⟩
      · have HS := Lib.hid (run_snoc hP.out hjl (by rw [hg]; exact hc))
        have HQ := Lib.hid hq
        have HJ := Lib.hid hj
        rw [hc] at HC
        clear hc hlen hjl hg hq hj
        go_wp2_with fail
        refine (HC.out _).mono ?_
        rintro e w' ⟨rfl, rfl⟩
        go_wp2_with fail
        have HJ2 := HJ.out
        obtain ⟨g', hg'⟩ : ∃ g', gk = g' + 1 := ⟨gk - 1, by omega⟩
        subst hg'
        go_roundg g'
        case rel => exact ⟨j + 1, by have := HQ.out; omega, HS, Lib.hid (by have h := one_setCell (u := .int .i64 ((q : Int) + 1)) hA.out; have e : ((q : Nat) : Int) + 1 = ((a + (j + 1) : Nat) : Int) := (by have := HQ.out; omega); rw [e] at h ⊢; exact h), Lib.hid (hB.out.setCell _ _)⟩
        case measure => omega
    · have hq2 : q = s.size := by omega
      have HF := Lib.hid (run_at hP.out (by omega) (fun h => absurd h (by omega)))
      have HF2 := Lib.hid (show ((q : Nat) : Int) = ((a + runLen isPart (s.data.toList.drop a) : Nat) : Int) ∧ q = a + runLen isPart (s.data.toList.drop a) by rw [HF.out, hq]; exact ⟨rfl, rfl⟩)
      have HQ := Lib.hid hq
      have haq : a ≤ q := by omega
      have hqs : q ≤ s.size := by omega
      clear hlen hq hj hq2
      go_wp2_with fail
      go_ret
      exact ⟨⟨by rw [← HF2.out.2]; rfl, by rw [← HF2.out.1, HQ.out]; exact hA.out⟩, hB.out⟩

set_option maxRecDepth 100000 in
set_option maxHeartbeats 3200000 in
theorem passNote_any (s : ByteArray) (a ba bt : Nat) (w : World) (hs : s.size ≤ 281474976710656) (ha : a ≤ s.size) (hA : w.heap[ba]? = some (.cells #[.int .i64 a] 3 (0, 0))) (hT : w.cell? ⟨bt, 0, none⟩ = some (.string s)) (hne : bt ≠ ba) :
    Calls Tryz.prog 241 #[.func (.func 243) #[] #[], .pointer (some ⟨ba, 0, none⟩), .pointer (some ⟨bt, 0, none⟩)] w fun e w' =>
      (e = .returned (.string (s.extract a (a + runLen isNote (s.data.toList.drop a)))) ∧ w'.heap[ba]? = some (.cells #[.int .i64 ((a + runLen isNote (s.data.toList.drop a) : Nat) : Int)] 3 (0, 0))) ∧ But ba w w' := by
  have c0 := cell_of_one hA
  have HT := Lib.hid (And.intro hT (World.block_lt_of_cell? w _ hT))
  have HA := Lib.hid hA
  have HNe := Lib.hid hne
  clear hA hT hne
  go_enter Tryz.func241, Tryz.ntmps241
  go_wp2_with fail
  clear c0
  go_loopg [7] (s.size - a) (fun g x wr => ∃ j : Nat, a + j + g = s.size ∧ Hid (((s.data.toList.drop a).take j).all isNote = true) ∧ Hid (wr.heap[ba]? = some (.cells #[.int .i64 ((a + j : Nat) : Int)] 3 (0, 0))) ∧ Hid (But ba w wr))
  case atStart => exact ⟨0, by omega, Lib.hid rfl, HA, Lib.hid (But.refl _ _)⟩
  case round =>
    obtain ⟨j, hj, hP, hA, hB⟩ := hrel
    have cA := cell_of_one hA.out
    have fA := free_of_one hA.out
    have cT := (hB.out.cell (p := ⟨bt, 0, none⟩) HT.out.2 HNe.out).trans HT.out.1
    have hlen : (s.data.toList.drop a).length = s.size - a := by rw [List.length_drop, ← size_len]
    obtain ⟨q, hq⟩ : ∃ q, q = a + j := ⟨_, rfl⟩
    rw [← hq] at cA hj
    by_cases hlt : q < s.size
    · have hjl : j < (s.data.toList.drop a).length := by omega
      have hg : (s.data.toList.drop a)[j] = s[q]'hlt := by subst hq; rw [List.getElem_drop]; rfl
      have HC := Lib.hid (fun w => note_any (s[q]'hlt) w)
      cases hc : isNote (s[q]'hlt)
      · have HF := Lib.hid (run_at hP.out (by omega) (fun _ => by rw [hg]; exact hc))
        have HF2 := Lib.hid (show ((q : Nat) : Int) = ((a + runLen isNote (s.data.toList.drop a) : Nat) : Int) ∧ q = a + runLen isNote (s.data.toList.drop a) by rw [HF.out, hq]; exact ⟨rfl, rfl⟩)
        have HQ := Lib.hid hq
        have haq : a ≤ q := by omega
        have hqs : q ≤ s.size := by omega
        rw [hc] at HC
        clear hc hlen hjl hg hq hj
        go_wp2_with fail
        refine (HC.out _).mono ?_
        rintro e w' ⟨rfl, rfl⟩
        go_wp2_with fail
        go_ret
        exact ⟨⟨by rw [← HF2.out.2]; rfl, by rw [← HF2.out.1, HQ.out]; exact hA.out⟩, hB.out⟩
      · have HS := Lib.hid (run_snoc hP.out hjl (by rw [hg]; exact hc))
        have HQ := Lib.hid hq
        have HJ := Lib.hid hj
        rw [hc] at HC
        clear hc hlen hjl hg hq hj
        go_wp2_with fail
        refine (HC.out _).mono ?_
        rintro e w' ⟨rfl, rfl⟩
        go_wp2_with fail
        have HJ2 := HJ.out
        obtain ⟨g', hg'⟩ : ∃ g', gk = g' + 1 := ⟨gk - 1, by omega⟩
        subst hg'
        go_roundg g'
        case rel => exact ⟨j + 1, by have := HQ.out; omega, HS, Lib.hid (by have h := one_setCell (u := .int .i64 ((q : Int) + 1)) hA.out; have e : ((q : Nat) : Int) + 1 = ((a + (j + 1) : Nat) : Int) := (by have := HQ.out; omega); rw [e] at h ⊢; exact h), Lib.hid (hB.out.setCell _ _)⟩
        case measure => omega
    · have hq2 : q = s.size := by omega
      have HF := Lib.hid (run_at hP.out (by omega) (fun h => absurd h (by omega)))
      have HF2 := Lib.hid (show ((q : Nat) : Int) = ((a + runLen isNote (s.data.toList.drop a) : Nat) : Int) ∧ q = a + runLen isNote (s.data.toList.drop a) by rw [HF.out, hq]; exact ⟨rfl, rfl⟩)
      have HQ := Lib.hid hq
      have haq : a ≤ q := by omega
      have hqs : q ≤ s.size := by omega
      clear hlen hq hj hq2
      go_wp2_with fail
      go_ret
      exact ⟨⟨by rw [← HF2.out.2]; rfl, by rw [← HF2.out.1, HQ.out]; exact hA.out⟩, hB.out⟩
end Go.Proofs.YtchbnkepmeelkaaGreatDoor.Lx
/- A text's tokens, plainly. -/
namespace Go.Proofs.YtchbnkepmeelkaaGreatDoor.Lx

/-- line and column behind a beginning -/
def lcF (a : Nat × Nat) (c : UInt8) : Nat × Nat := if c.toNat = 10 then (a.1 + 1, 1) else (a.1, a.2 + 1)
def lc (p : List UInt8) : Nat × Nat := p.foldl lcF (1, 1)
/-- a token -/
structure Tk where
  kind : Nat
  text : List UInt8
  word : Nat
  line : Nat
  col : Nat
deriving DecidableEq
/-- the token with which a text begins: kind, text, number; the error -/
def oneK (r : List UInt8) : Nat := if isPart (r.headD 0) then wordK (r.takeWhile isPart) else 4
def oneT (r : List UInt8) : List UInt8 := if isPart (r.headD 0) then r.takeWhile isPart else r.take (signLen r)
def oneX (r : List UInt8) : Nat := if isPart (r.headD 0) then wordX (r.takeWhile isPart) else 0
def oneE (r : List UInt8) : Nat := if isPart (r.headD 0) then wordE (r.takeWhile isPart) else if signLen r = 0 then 15 else 0
def isBlank (c : UInt8) : Bool := decide (c.toNat = 10) || decide (c.toNat = 32) || decide (c.toNat = 9) || decide (c.toNat = 13)
def tokAt (l : List UInt8) (at' : Nat) : Tk := ⟨oneK (l.drop at'), oneT (l.drop at'), oneX (l.drop at'), (lc (l.take at')).1, (lc (l.take at')).2⟩
/-- the tokens from a place on, each with its place; the first place that is wrong, and why -/
def lexF (l : List UInt8) : Nat → Nat → List (Nat × Tk) × Option (Nat × Nat)
  | 0, _ => ([], none)
  | f + 1, a =>
    if l.length ≤ a then ([], none)
    else if isBlank ((l.drop a).headD 0) then lexF l f (a + 1)
    else if ((l.drop a).headD 0).toNat = 35 then lexF l f (a + runLen isNote (l.drop a))
    else if oneE (l.drop a) ≠ 0 then ([], some (a, oneE (l.drop a)))
    else ((a, tokAt l a) :: (lexF l f (a + (oneT (l.drop a)).length)).1, (lexF l f (a + (oneT (l.drop a)).length)).2)
def lexAll (l : List UInt8) : List (Nat × Tk) × Option (Nat × Nat) := lexF l l.length 0

theorem lc_snoc (p : List UInt8) (c : UInt8) : lc (p ++ [c]) = lcF (lc p) c := by simp [lc]
theorem lc_run (p q : List UInt8) (h : q.all isNote = true) : lc (p ++ q) = ((lc p).1, (lc p).2 + q.length) := by
  induction q generalizing p with
  | nil => simp
  | cons c r ih =>
    rw [List.all_cons, Bool.and_eq_true] at h
    have h1 : c.toNat ≠ 10 := by simpa [isNote] using h.1
    have e : p ++ c :: r = (p ++ [c]) ++ r := by simp
    rw [e, ih _ h.2, lc_snoc, lcF, if_neg h1]
    simp; omega
theorem take_add (l : List UInt8) (a n : Nat) : l.take (a + n) = l.take a ++ (l.drop a).take n := by rw [List.take_add]
theorem lc_take_run {l : List UInt8} {a n : Nat} (h : ((l.drop a).take n).all isNote = true) (hn : a + n ≤ l.length) : lc (l.take (a + n)) = ((lc (l.take a)).1, (lc (l.take a)).2 + n) := by
  rw [take_add, lc_run _ _ h, List.length_take, List.length_drop, Nat.min_eq_left (by omega)]
theorem lc_take_succ {l : List UInt8} {a : Nat} (h : a < l.length) : lc (l.take (a + 1)) = lcF (lc (l.take a)) l[a] := by
  rw [List.take_succ_eq_append_getElem h, lc_snoc]
theorem lc_le (p : List UInt8) : 1 ≤ (lc p).1 ∧ (lc p).1 ≤ p.length + 1 ∧ 1 ≤ (lc p).2 ∧ (lc p).2 ≤ p.length + 1 := by
  suffices h : ∀ (p : List UInt8) (a b n : Nat), 1 ≤ a → a ≤ n → 1 ≤ b → b ≤ n → 1 ≤ (p.foldl lcF (a, b)).1 ∧ (p.foldl lcF (a, b)).1 ≤ p.length + n ∧ 1 ≤ (p.foldl lcF (a, b)).2 ∧ (p.foldl lcF (a, b)).2 ≤ p.length + n from by
    have := h p 1 1 1 (by omega) (by omega) (by omega) (by omega)
    exact this
  intro p
  induction p with
  | nil => intro a b n h1 h2 h3 h4; exact ⟨h1, by simpa using h2, h3, by simpa using h4⟩
  | cons c r ih =>
    intro a b n h1 h2 h3 h4
    rw [List.foldl_cons, List.length_cons]
    by_cases hc : c.toNat = 10
    · have e : lcF (a, b) c = (a + 1, 1) := by rw [lcF, if_pos hc]
      rw [e]
      have := ih (a + 1) 1 (n + 1) (by omega) (by omega) (by omega) (by omega)
      omega
    · have e : lcF (a, b) c = (a, b + 1) := by rw [lcF, if_neg hc]
      rw [e]
      have := ih a (b + 1) (n + 1) (by omega) (by omega) (by omega) (by omega)
      omega

theorem isNote_part {c : UInt8} (h : isPart c = true) : isNote c = true := by
  simp [isPart, isLet, isDig, isNote] at *; omega
theorem takeWhile_take (f : UInt8 → Bool) (r : List UInt8) : r.takeWhile f = r.take (runLen f r) := by
  unfold runLen
  have h := List.takeWhile_append_dropWhile (p := f) (l := r)
  exact (List.prefix_iff_eq_take.1 (List.takeWhile_prefix f))
theorem all_takeWhile (f : UInt8 → Bool) (r : List UInt8) : (r.takeWhile f).all f = true := by
  induction r with
  | nil => rfl
  | cons c r ih =>
    rw [List.takeWhile_cons]
    cases h : f c with
    | false => rfl
    | true => simp only [if_true, List.all_cons, h, Bool.true_and]; exact ih
theorem all_note {r : List UInt8} (h : r.all isPart = true) : r.all isNote = true := by
  rw [List.all_eq_true] at *
  exact fun x hx => isNote_part (h x hx)
theorem signT_note : signT.all (fun x => x.all isNote) = true := by decide
theorem signDown_mem (l : List UInt8) (n : Nat) (h : signDown l n ≠ 0) : l.take (signDown l n) ∈ signT := by
  induction n with
  | zero => exact absurd rfl h
  | succ n ih =>
    unfold signDown at h ⊢
    split at h
    · rename_i hm; rw [if_pos hm]; exact hm
    · rename_i hm; rw [if_neg hm]; exact ih h
theorem sign_note (l : List UInt8) : (l.take (signLen l)).all isNote = true := by
  by_cases h : signLen l = 0
  · rw [h]; rfl
  · exact (List.all_eq_true.1 signT_note) _ (signDown_mem l _ h)
/-- a token's text is the text's beginning -/
def oneN (r : List UInt8) : Nat := if isPart (r.headD 0) then runLen isPart r else signLen r
theorem oneN_le (r : List UInt8) : oneN r ≤ r.length := by
  unfold oneN
  split
  · exact runLen_le _ _
  · exact signLen_le _
theorem oneT_len (r : List UInt8) : (oneT r).length = oneN r := by
  unfold oneT oneN
  split
  · rfl
  · rw [List.length_take, Nat.min_eq_left (signLen_le _)]
theorem oneT_note (r : List UInt8) : (r.take (oneN r)).all isNote = true := by
  unfold oneN
  split
  · rw [← takeWhile_take]; exact all_note (all_takeWhile _ _)
  · exact sign_note _
theorem oneN_pos {r : List UInt8} (h0 : r ≠ []) (h : oneE r = 0) : 0 < oneN r := by
  unfold oneN
  unfold oneE at h
  cases r with
  | nil => exact absurd rfl h0
  | cons c r =>
    split
    · rename_i hp
      have : isPart c = true := hp
      simp [runLen, this]
    · rename_i hp
      rw [if_neg hp] at h
      split at h
      · cases h
      · omega
end Go.Proofs.YtchbnkepmeelkaaGreatDoor.Lx
/- A token is laid behind the others. -/
namespace Go.Proofs.YtchbnkepmeelkaaGreatDoor.Lx
open Go.RowKit

/-- a token's cells -/
def tokC (t : Tk) : List Value := [.int .i64 t.kind, .string (str t.text), .int .u64 t.word, .int .i64 t.line, .int .i64 t.col]
def toksC (ts : List Tk) : List Value := ts.flatMap tokC
theorem info_tok : (Tryz.prog.info? 156).map (fun i => (i.zero, i.size, i.bytes)) = some (some (.agg #[.int .i64 0, .string ⟨#[]⟩, .int .u64 0, .int .i64 0, .int .i64 0]), 5, 48) := by kernel_rfl
theorem toksC_snoc (ts : List Tk) (t : Tk) : toksC (ts ++ [t]) = toksC ts ++ tokC t := by simp [toksC]
theorem toksC_len (ts : List Tk) : (toksC ts).length = ts.length * 5 := by
  induction ts with
  | nil => rfl
  | cons t r ih => simp only [toksC, List.flatMap_cons, List.length_append, List.length_cons] at ih ⊢; rw [ih]; simp [tokC]; omega

/-- the list that the variable at c has -/
def TokL (w : World) (B c : Nat) (ts : List Tk) : Prop := ∃ v, w.heap[c]? = some (.cells #[v] 85 (0, 0)) ∧ w.ownsRow B 156 5 v ts.length (toksC ts)
def notTok : Obj → Prop
  | .cells _ t _ => t ≠ 156
  | _ => True
/-- all is as it was, but the variable at c, and rows of tokens from B on -/
structure Kp (B c : Nat) (w w' : World) : Prop where
  os : w'.os = w.os
  tape : w'.tape = w.tape
  output : w'.output = w.output
  size : w.heap.size ≤ w'.heap.size
  block : ∀ k o, w.heap[k]? = some o → k ≠ c → (k < B ∨ notTok o) → w'.heap[k]? = some o
theorem Kp.refl (B c : Nat) (w : World) : Kp B c w w := ⟨rfl, rfl, rfl, Nat.le_refl _, fun _ _ h _ _ => h⟩
theorem Kp.trans {B c : Nat} {x y z : World} (h : Kp B c x y) (k : Kp B c y z) : Kp B c x z :=
  ⟨k.os.trans h.os, k.tape.trans h.tape, k.output.trans h.output, Nat.le_trans h.size k.size, fun i o hi hn hB => k.block i o (h.block i o hi hn hB) hn hB⟩
theorem Kp.of_below {B c : Nat} {w w' : World} (h : Below w.heap.size w w') : Kp B c w w' :=
  ⟨h.os, h.tape, h.output, h.size, fun k _ hk _ _ => (h.block k (lt_of_block hk)).trans hk⟩
theorem Kp.below {B c : Nat} {w w' : World} (h : Kp B c w w') (hc : B ≤ c) (hs : B ≤ w.heap.size) : Below B w w' :=
  ⟨h.os, h.tape, h.output, h.size, fun k hk => by
    have hlt : k < w.heap.size := by omega
    rw [Array.getElem?_eq_getElem hlt]
    exact h.block k _ (Array.getElem?_eq_getElem hlt) (by omega) (.inl hk)⟩
theorem TokL.below {w w' : World} {B c : Nat} {ts : List Tk} (h : TokL w B c ts) (hB : Below w.heap.size w w') : TokL w' B c ts := by
  obtain ⟨v, h1, h2, h3⟩ := h
  refine ⟨v, (hB.block c (lt_of_block h1)).trans h1, h2, ?_⟩
  rcases h3 with h3 | ⟨g, cap, cur, q1, q2, q3, q4⟩
  · exact .inl h3
  · exact .inr ⟨g, cap, cur, q1, q2, (hB.block g (lt_of_block q3)).trans q3, q4⟩
theorem TokL.but {w w' : World} {B c g : Nat} {ts : List Tk} {o : Obj} (h : TokL w B c ts) (hg : w.heap[g]? = some o) (ho : notTok o) (hc : g ≠ c) (hB : But g w w') : TokL w' B c ts := by
  obtain ⟨v, h1, h2, h3⟩ := h
  refine ⟨v, (hB.block c (lt_of_block h1) (Ne.symm hc)).trans h1, h2, ?_⟩
  rcases h3 with h3 | ⟨r, cap, cur, q1, q2, q3, q4⟩
  · exact .inl h3
  · refine .inr ⟨r, cap, cur, q1, q2, (hB.block r (lt_of_block q3) ?_).trans q3, q4⟩
    rintro rfl
    rw [q3] at hg; cases hg
    exact ho rfl
theorem TokL.nil {w : World} {B c : Nat} (h : w.heap[c]? = some (.cells #[.slice none 0 0] 85 (0, 0))) : TokL w B c [] :=
  ⟨_, h, rfl, .inl ⟨rfl, rfl⟩⟩

theorem own_form {w : World} {base size n : Nat} {e : TypeId} {v : Value} {xs : List Value} (h : w.ownsRow base e size v n xs) (hn : 0 < n) : ∃ g cap, v = .slice (some ⟨g, 0, none⟩) n cap := by
  rcases h.2 with ⟨_, h0⟩ | ⟨g, cap, cur, hv, _⟩
  · omega
  · exact ⟨g, cap, hv⟩
theorem Kp.grown {B c : Nat} {w w1 : World} {row : Option Nat} (hg : w.grownBy w1 row) (hr : ∀ k, row = some k → B ≤ k ∧ ∃ cur, w.heap[k]? = some (.cells cur 156 (0, 0))) : Kp B c w w1 :=
  ⟨hg.os, hg.tape, hg.output, hg.size, fun k o hk hn hor => by
    rw [hg.block k (lt_of_block hk) ?_]
    · exact hk
    · intro e
      obtain ⟨h1, cur, h2⟩ := hr k e.symm
      rw [hk] at h2; cases h2
      rcases hor with h | h
      · omega
      · exact h rfl⟩
theorem Kp.setCell {B c : Nat} {w w1 : World} (h : Kp B c w w1) (v : Value) : Kp B c w (w1.setCell ⟨c, 0, none⟩ v) :=
  ⟨h.os, h.tape, h.output, by simp [World.setCell]; exact h.size, fun k o hk hn hor => by rw [Below.heap_setCell _ _ _ _ hn]; exact h.block k o hk hn hor⟩
theorem own_row {w : World} {B n : Nat} {v : Value} {xs : List Value} (h : w.ownsRow B 156 5 v n xs) : ∀ k, v.ownBlock = some k → B ≤ k ∧ ∃ cur, w.heap[k]? = some (.cells cur 156 (0, 0)) := by
  intro k hk
  rcases h.2 with ⟨rfl, _⟩ | ⟨g, cap, cur, rfl, hg, hh, _⟩
  · cases hk
  · have : g = k := by simpa [Value.ownBlock] using hk
    subst this
    exact ⟨hg, cur, hh⟩

set_option maxRecDepth 100000 in
set_option maxHeartbeats 3200000 in
theorem all1_any (ts : List Tk) (t : Tk) (at' : Int) (B c : Nat) (w : World) (h : TokL w B c ts) (hl : ts.length ≤ 1000000) (hB : B ≤ w.heap.size) :
    Calls Tryz.prog 214 #[.int .i64 at', .agg #[.int .i64 t.kind, .string (str t.text), .int .u64 t.word, .int .i64 t.line, .int .i64 t.col], .pointer (some ⟨c, 0, none⟩)] w fun e w' =>
      e = .returned (.bool true) ∧ TokL w' B c (ts ++ [t]) ∧ Kp B c w w' := by
  obtain ⟨v, hc, hown⟩ := h
  obtain ⟨i0, hi, hz0, hz1, hz2⟩ := info_parts info_tok
  have hcl := lt_of_block hc
  have c0 := cell_of_one hc
  have f0 := free_of_one hc
  have HC := Lib.hid hc
  have HL := Lib.hid (toksC_len ts)
  clear hc
  go_enter Tryz.func214, Tryz.ntmps214
  go_wp2_with (at_builtin; refine wpList_append_own _ rfl _ _ 85 rfl B 156 i0 (.agg #[.int .i64 0, .string ⟨#[]⟩, .int .u64 0, .int .i64 0, .int .i64 0]) 5 48 Tryz.underlying85 hi hz0 hz1 hz2 rfl (by decide) _ _ _ rfl ((hown.alloc _).alloc _) ⟨w.heap.size + 1, 0, none⟩ 1 1 (tokC t) rfl rfl ?c1 ?c2 ?c3 ?c4 ?c5 ?_)
  case c1 => intro j u hj; match j, hj with
    | 0, hj => simp [tokC] at hj; subst hj; simp [go_sem, Addr.add]
    | 1, hj => simp [tokC] at hj; subst hj; simp [go_sem, Addr.add]
    | 2, hj => simp [tokC] at hj; subst hj; simp [go_sem, Addr.add]
    | 3, hj => simp [tokC] at hj; subst hj; simp [go_sem, Addr.add]
    | 4, hj => simp [tokC] at hj; subst hj; simp [go_sem, Addr.add]
  case c2 => intro u hu; simp [tokC] at hu; rcases hu with rfl | rfl | rfl | rfl | rfl <;> rfl
  case c3 => unfold maxLen; omega
  case c4 => omega
  case c5 => simp; omega
  intro v' w1 hown' hgrow _
  obtain ⟨gg, cc, rfl⟩ := own_form hown' (by omega)
  have hn : some c ≠ v.ownBlock := by
    rcases hown.2 with ⟨rfl, _⟩ | ⟨g, cap, cur, rfl, _, hg, _⟩
    · intro e; cases e
    · intro e
      have e : c = g := by simpa [Value.ownBlock] using e
      subst e
      have := HC.out
      rw [hg] at this; cases this
  have hb1 : w1.heap[c]? = some (.cells #[v] 85 (0, 0)) := by
    rw [hgrow.block c (by simp; omega) hn, Below.heap_alloc _ _ _ (by simp; omega), Below.heap_alloc _ _ _ hcl]; exact HC.out
  have c1 := cell_of_one hb1
  have f1 := free_of_one hb1
  have hc' : c ≠ gg := by
    rintro rfl
    obtain ⟨_, cur, h2⟩ := own_row hown' c rfl
    rw [hb1] at h2; cases h2
  have HK := Lib.hid ((Kp.of_below (B := B) (c := c) (((Below.refl _ w).alloc (Nat.le_refl _) _).alloc (by simp) _)).trans (Kp.grown hgrow (own_row ((hown.alloc _).alloc _))))
  have HO := Lib.hid hown'
  have HB := Lib.hid hb1
  have HC' := Lib.hid hc'
  clear hown hown' hgrow hi hz0 hz1 hz2 c0 f0 hb1 hn hc'
  go_wp2_with fail
  go_ret
  refine ⟨rfl, ⟨_, one_setCell HB.out, ?_⟩, HK.out.setCell _⟩
  rw [List.length_append, toksC_snoc]
  exact ownsRow_setCell_other HO.out (fun e => HC'.out (by simpa [Value.ownBlock] using e.symm)) _
end Go.Proofs.YtchbnkepmeelkaaGreatDoor.Lx
/- How a scan goes on, plainly, and what lies in memory. -/
namespace Go.Proofs.YtchbnkepmeelkaaGreatDoor.Lx
open Go.RowKit

def wrongV (a e : Nat) : Value := .iface 282 (.agg #[.int .i64 a, .int .i64 e])
def errV : Option (Nat × Nat) → Value
  | none => .nilIface
  | some (a, e) => wrongV a e

/-- where a scan stands, plainly -/
structure PlainSt (l : List UInt8) (a f L la : Nat) (ds : List (Nat × Tk)) : Prop where
  le : a ≤ l.length
  fuel : l.length ≤ a + f
  line : L = (lc (l.take a)).1
  col : la + (lc (l.take a)).2 = a + 1
  lex : lexAll l = (ds ++ (lexF l f a).1, (lexF l f a).2)
  len : ds.length ≤ a
theorem PlainSt.start (l : List UInt8) : PlainSt l 0 l.length 1 0 [] :=
  ⟨Nat.zero_le _, by omega, rfl, rfl, rfl, Nat.le_refl _⟩
theorem PlainSt.over {l : List UInt8} {a f L la : Nat} {ds : List (Nat × Tk)} (h : PlainSt l a f L la ds) (ha : l.length ≤ a) : lexAll l = (ds, none) := by
  rw [h.lex]
  cases f with
  | zero => simp [lexF]
  | succ f => rw [lexF, if_pos ha]; simp
theorem drop_head {l : List UInt8} {a : Nat} (ha : a < l.length) : (l.drop a).headD 0 = l[a] := by
  rw [List.drop_eq_getElem_cons ha]; rfl
theorem PlainSt.fuel1 {l : List UInt8} {a f L la : Nat} {ds : List (Nat × Tk)} (h : PlainSt l a f L la ds) (ha : a < l.length) : ∃ g, f = g + 1 := ⟨f - 1, by have := h.fuel; omega⟩
theorem PlainSt.blank {l : List UInt8} {a f L la : Nat} {ds : List (Nat × Tk)} (h : PlainSt l a f L la ds) (ha : a < l.length) (hb : isBlank l[a] = true) (h10 : l[a].toNat ≠ 10) : ∃ f', PlainSt l (a + 1) f' L la ds := by
  obtain ⟨g, rfl⟩ := h.fuel1 ha
  have e : lc (l.take (a + 1)) = ((lc (l.take a)).1, (lc (l.take a)).2 + 1) := by rw [lc_take_succ ha, lcF, if_neg h10]
  have h1 := h.fuel; have h2 := h.col; have h3 := h.len; have h4 := h.line
  refine ⟨g, ha, by omega, by rw [e]; exact h4, by rw [e]; show la + ((lc (l.take a)).2 + 1) = _; omega, ?_, by omega⟩
  rw [h.lex, lexF, if_neg (by omega), drop_head ha, if_pos hb]
theorem PlainSt.newline {l : List UInt8} {a f L la : Nat} {ds : List (Nat × Tk)} (h : PlainSt l a f L la ds) (ha : a < l.length) (h10 : l[a].toNat = 10) : ∃ f', PlainSt l (a + 1) f' (L + 1) (a + 1) ds := by
  obtain ⟨g, rfl⟩ := h.fuel1 ha
  have e : lc (l.take (a + 1)) = ((lc (l.take a)).1 + 1, 1) := by rw [lc_take_succ ha, lcF, if_pos h10]
  have h1 := h.fuel; have h3 := h.len; have h4 := h.line
  refine ⟨g, ha, by omega, by rw [e, h4], by rw [e], ?_, by omega⟩
  rw [h.lex, lexF, if_neg (by omega), drop_head ha, if_pos (by simp [isBlank, h10])]
theorem PlainSt.note {l : List UInt8} {a f L la : Nat} {ds : List (Nat × Tk)} (h : PlainSt l a f L la ds) (ha : a < l.length) (h35 : l[a].toNat = 35) : ∃ f', PlainSt l (a + runLen isNote (l.drop a)) f' L la ds := by
  obtain ⟨g, rfl⟩ := h.fuel1 ha
  have hr := runLen_le isNote (l.drop a)
  rw [List.length_drop] at hr
  have hp : 0 < runLen isNote (l.drop a) := by
    rw [List.drop_eq_getElem_cons ha, runLen, List.takeWhile_cons, if_pos (by simp [isNote, h35])]; simp
  have e := lc_take_run (l := l) (a := a) (n := runLen isNote (l.drop a)) (by rw [← takeWhile_take]; exact all_takeWhile _ _) (by omega)
  have h1 := h.fuel; have h2 := h.col; have h3 := h.len; have h4 := h.line
  refine ⟨g, by omega, by omega, by rw [e]; exact h4, by rw [e]; show la + ((lc (l.take a)).2 + _) = _; omega, ?_, by omega⟩
  rw [h.lex, lexF, if_neg (by omega), drop_head ha, if_neg (by simp [isBlank, h35]), if_pos h35]
theorem PlainSt.token {l : List UInt8} {a f L la : Nat} {ds : List (Nat × Tk)} (h : PlainSt l a f L la ds) (ha : a < l.length) (hb : isBlank l[a] = false) (h35 : l[a].toNat ≠ 35) (he : oneE (l.drop a) = 0) :
    ∃ f', PlainSt l (a + oneN (l.drop a)) f' L la (ds ++ [(a, tokAt l a)]) := by
  obtain ⟨g, rfl⟩ := h.fuel1 ha
  have hr := oneN_le (l.drop a)
  rw [List.length_drop] at hr
  have hp := oneN_pos (r := l.drop a) (by intro e; have := congrArg List.length e; rw [List.length_drop] at this; simp at this; omega) he
  have e := lc_take_run (l := l) (a := a) (n := oneN (l.drop a)) (oneT_note _) (by omega)
  have h1 := h.fuel; have h2 := h.col; have h3 := h.len; have h4 := h.line
  refine ⟨g, by omega, by omega, by rw [e]; exact h4, by rw [e]; show la + ((lc (l.take a)).2 + _) = _; omega, ?_, by simp; omega⟩
  rw [h.lex, lexF, if_neg (by omega), drop_head ha, if_neg (by simp [hb]), if_neg h35, if_neg (by simp [he]), oneT_len]
  simp
theorem PlainSt.wrong {l : List UInt8} {a f L la : Nat} {ds : List (Nat × Tk)} (h : PlainSt l a f L la ds) (ha : a < l.length) (hb : isBlank l[a] = false) (h35 : l[a].toNat ≠ 35) (he : oneE (l.drop a) ≠ 0) : lexAll l = (ds, some (a, oneE (l.drop a))) := by
  obtain ⟨g, rfl⟩ := h.fuel1 ha
  rw [h.lex, lexF, if_neg (by omega), drop_head ha, if_neg (by simp [hb]), if_neg h35, if_pos he]
  simp
theorem PlainSt.tok_eq {l : List UInt8} {a f L la : Nat} {ds : List (Nat × Tk)} (h : PlainSt l a f L la ds) : ∃ C, tokAt l a = ⟨oneK (l.drop a), oneT (l.drop a), oneX (l.drop a), L, C⟩ ∧ (C : Int) = (a : Int) - (la : Int) + 1 ∧ L ≤ a + 1 ∧ la ≤ a := by
  have h1 := lc_le (l.take a)
  have h2 := h.col
  have h3 := h.line
  have h4 := h.le
  rw [List.length_take] at h1
  exact ⟨(lc (l.take a)).2, by rw [tokAt, h3], by omega, by omega, by omega⟩
theorem PlainSt.bounds {l : List UInt8} {a f L la : Nat} {ds : List (Nat × Tk)} (h : PlainSt l a f L la ds) : L ≤ a + 1 ∧ la ≤ a ∧ ds.length ≤ a := by
  obtain ⟨C, _, _, h1, h2⟩ := h.tok_eq
  exact ⟨h1, h2, h.len⟩

theorem But.setNew {g : Nat} {a w : World} (h : But g a w) {p : Addr} (hp : a.heap.size ≤ p.block) (v : Value) : But g a (w.setCell p v) :=
  ⟨h.os, h.tape, h.output, by simp [World.setCell]; exact h.size, fun k hk hn => by
    rw [Below.heap_setCell _ _ _ _ (by omega)]; exact h.block k hk hn⟩
theorem But.later {g : Nat} {a w w' : World} (h : But g a w) (hb : Below w.heap.size w w') : But g a w' := h.trans (But.of_below hb)

/-- what the token's makers answer -/
theorem word_drop (s : ByteArray) (a : Nat) (_h : isPart ((s.data.toList.drop a).headD 0) = true) : (s.extract a (a + runLen isPart (s.data.toList.drop a))).data.toList = (s.data.toList.drop a).takeWhile isPart := by
  rw [Lib.extract_data, takeWhile_take, Nat.add_sub_cancel_left]
theorem word_ok {s : ByteArray} {a : Nat} (h : isPart ((s.data.toList.drop a).headD 0) = true) (he : oneE (s.data.toList.drop a) = 0) :
    wordV (s.extract a (a + runLen isPart (s.data.toList.drop a))) = .returned (.tuple #[.agg #[.int .i64 (oneK (s.data.toList.drop a)), .string (str (oneT (s.data.toList.drop a))), .int .u64 (oneX (s.data.toList.drop a)), .int .i64 0, .int .i64 0], .int .i64 0]) := by
  have e1 : wordE ((s.data.toList.drop a).takeWhile isPart) = 0 := by rw [oneE, if_pos h] at he; exact he
  refine word_of ?_ ?_ ?_ ?_
  · rw [word_drop s a h, oneK, if_pos h]
  · rw [word_drop s a h, oneX, if_pos h]
  · rw [word_drop s a h, e1]
  · rw [word_drop s a h, oneT, if_pos h, wordT, if_pos e1]
theorem word_er {s : ByteArray} {a : Nat} (h : isPart ((s.data.toList.drop a).headD 0) = true) (_he : oneE (s.data.toList.drop a) ≠ 0) :
    ∃ (k : Nat) (t : ByteArray) (x : Nat), wordV (s.extract a (a + runLen isPart (s.data.toList.drop a))) = .returned (.tuple #[.agg #[.int .i64 k, .string t, .int .u64 x, .int .i64 0, .int .i64 0], .int .i64 (oneE (s.data.toList.drop a))]) :=
  ⟨_, _, _, word_of rfl rfl (by rw [word_drop s a h, oneE, if_pos h]) rfl⟩
theorem sign_drop (s : ByteArray) (a : Nat) : (s.extract a s.size).data.toList = s.data.toList.drop a := Lib.extract_to_end s a
theorem sign_ok {s : ByteArray} {a : Nat} (h : isPart ((s.data.toList.drop a).headD 0) = false) (he : oneE (s.data.toList.drop a) = 0) :
    signV (s.extract a s.size) = .returned (.tuple #[.agg #[.int .i64 (oneK (s.data.toList.drop a)), .string (str (oneT (s.data.toList.drop a))), .int .u64 (oneX (s.data.toList.drop a)), .int .i64 0, .int .i64 0], .int .i64 0]) := by
  have e1 : signLen (s.data.toList.drop a) ≠ 0 := by
    intro e0
    rw [oneE, h, if_neg (by decide), if_pos e0] at he; cases he
  have e2 : (s.extract a s.size).extract 0 (signLen (s.data.toList.drop a)) = str ((s.data.toList.drop a).take (signLen (s.data.toList.drop a))) := bytes_ext (by rw [extract_take, sign_drop]; rfl)
  rw [signV, sign_drop, if_neg e1, e2, oneK, oneT, oneX, h]; rfl
theorem sign_er {s : ByteArray} {a : Nat} (h : isPart ((s.data.toList.drop a).headD 0) = false) (he : oneE (s.data.toList.drop a) ≠ 0) :
    signV (s.extract a s.size) = .returned (.tuple #[.agg #[.int .i64 0, .string ⟨#[]⟩, .int .u64 0, .int .i64 0, .int .i64 0], .int .i64 15]) ∧ oneE (s.data.toList.drop a) = 15 := by
  have e1 : signLen (s.data.toList.drop a) = 0 := by
    rw [oneE, h, if_neg (by decide)] at he
    by_cases h0 : signLen (s.data.toList.drop a) = 0
    · exact h0
    · rw [if_neg h0] at he; exact absurd rfl he
  exact ⟨signV_no (by rw [sign_drop]; exact e1), by rw [oneE, h, if_neg (by decide), if_pos e1]⟩

/-- what lies in memory -/
structure WorldSt (s : ByteArray) (w wr : World) (B c ba bt m a : Nat) (ts : List Tk) : Prop where
  toks : TokL wr B c ts
  atc : wr.heap[ba]? = some (.cells #[.int .i64 a] 3 (0, 0))
  txt : wr.heap[bt]? = some (.cells #[.string s] 9 (0, 0))
  mp : wr.heap[m]? = some (smap signT)
  keep : Kp B c w wr
  ne1 : ba ≠ c
  ne2 : bt ≠ ba
  ne3 : m ≠ ba
  bB : B ≤ w.heap.size ∧ B ≤ c ∧ w.heap.size ≤ ba
theorem WorldSt.move {s : ByteArray} {w wr w2 : World} {B c ba bt m a a' : Nat} {ts : List Tk} (h : WorldSt s w wr B c ba bt m a ts) (hb : But ba wr w2) (ha : w2.heap[ba]? = some (.cells #[.int .i64 a'] 3 (0, 0))) : WorldSt s w w2 B c ba bt m a' ts :=
  ⟨h.toks.but h.atc (by show 3 ≠ 156; decide) h.ne1 hb, ha, (hb.block bt (lt_of_block h.txt) h.ne2).trans h.txt, (hb.block m (lt_of_block h.mp) h.ne3).trans h.mp,
   ⟨hb.os.trans h.keep.os, hb.tape.trans h.keep.tape, hb.output.trans h.keep.output, Nat.le_trans h.keep.size hb.size, fun k o hk hn hor => by
      have hlt := lt_of_block hk
      have h1 := h.keep.block k o hk hn hor
      exact (hb.block k (lt_of_block h1) (by have := h.bB; omega)).trans h1⟩,
   h.ne1, h.ne2, h.ne3, h.bB⟩
theorem WorldSt.show {s : ByteArray} {w wr w2 : World} {B c ba bt m a : Nat} {ts ts' : List Tk} (h : WorldSt s w wr B c ba bt m a ts) (hT : TokL w2 B c ts') (hk : Kp B c wr w2) (h2 : bt ≠ c) (h3 : m ≠ c) : WorldSt s w w2 B c ba bt m a ts' :=
  ⟨hT, hk.block _ _ h.atc h.ne1 (.inr (by show 3 ≠ 156; decide)), hk.block _ _ h.txt h2 (.inr (by show 9 ≠ 156; decide)), hk.block _ _ h.mp h3 (.inr trivial), h.keep.trans hk, h.ne1, h.ne2, h.ne3, h.bB⟩
/-- a token's five cells, laid anew -/
structure TokCells (w : World) (g : Nat) (v0 v1 v2 v3 v4 : Value) : Prop where
  c0 : w.cell? ⟨g, 0, none⟩ = some v0
  c1 : w.cell? ⟨g, 1, none⟩ = some v1
  c2 : w.cell? ⟨g, 2, none⟩ = some v2
  c3 : w.cell? ⟨g, 3, none⟩ = some v3
  c4 : w.cell? ⟨g, 4, none⟩ = some v4
  z0 : w.frozen? ⟨g, 0, none⟩ = false
  z1 : w.frozen? ⟨g, 1, none⟩ = false
  z2 : w.frozen? ⟨g, 2, none⟩ = false
  z3 : w.frozen? ⟨g, 3, none⟩ = false
  z4 : w.frozen? ⟨g, 4, none⟩ = false
theorem TokCells.set {w : World} {g : Nat} {u0 u1 u2 u3 u4 : Value} (h : TokCells w g u0 u1 u2 u3 u4) (v0 v1 v2 v3 v4 : Value) :
    TokCells (((((w.setCell ⟨g, 0, none⟩ v0).setCell ⟨g, 1, none⟩ v1).setCell ⟨g, 2, none⟩ v2).setCell ⟨g, 3, none⟩ v3).setCell ⟨g, 4, none⟩ v4) g v0 v1 v2 v3 v4 := by
  obtain ⟨c0, c1, c2, c3, c4, z0, z1, z2, z3, z4⟩ := h
  constructor <;> simp [go_sem, c0, c1, c2, c3, c4, z0, z1, z2, z3, z4]
theorem TokCells.place {w : World} {g : Nat} {u0 u1 u2 u3 u4 : Value} (h : TokCells w g u0 u1 u2 u3 u4) (v3 v4 : Value) :
    TokCells ((w.setCell ⟨g, 3, none⟩ v3).setCell ⟨g, 4, none⟩ v4) g u0 u1 u2 v3 v4 := by
  obtain ⟨c0, c1, c2, c3, c4, z0, z1, z2, z3, z4⟩ := h
  constructor <;> simp [go_sem, c0, c1, c2, c3, c4, z0, z1, z2, z3, z4]
theorem heap_5 (w : World) (g k : Nat) (hk : k ≠ g) (v0 v1 v2 v3 v4 : Value) : ((((((w.setCell ⟨g, 0, none⟩ v0).setCell ⟨g, 1, none⟩ v1).setCell ⟨g, 2, none⟩ v2).setCell ⟨g, 3, none⟩ v3).setCell ⟨g, 4, none⟩ v4)).heap[k]? = w.heap[k]? := by
  rw [Below.heap_setCell _ _ _ _ hk, Below.heap_setCell _ _ _ _ hk, Below.heap_setCell _ _ _ _ hk, Below.heap_setCell _ _ _ _ hk, Below.heap_setCell _ _ _ _ hk]
theorem heap_2 (w : World) (g k i j : Nat) (hk : k ≠ g) (v3 v4 : Value) : ((w.setCell ⟨g, i, none⟩ v3).setCell ⟨g, j, none⟩ v4).heap[k]? = w.heap[k]? := by
  rw [Below.heap_setCell _ _ _ _ hk, Below.heap_setCell _ _ _ _ hk]
theorem TokCells.later {wr w2 : World} {ba : Nat} {o : Obj} (hbaz : ba < wr.heap.size) (hB : But ba (wr.alloc o) w2) {v0 v1 v2 v3 v4 : Value} (h : TokCells (wr.alloc o) wr.heap.size v0 v1 v2 v3 v4) : TokCells w2 wr.heap.size v0 v1 v2 v3 v4 := by
  obtain ⟨c0, c1, c2, c3, c4, z0, z1, z2, z3, z4⟩ := h
  have hn : wr.heap.size ≠ ba := Nat.ne_of_gt hbaz
  have hz : wr.heap.size < (wr.alloc o).heap.size := by simp
  exact ⟨(hB.cell (p := ⟨wr.heap.size, 0, none⟩) hz hn).trans c0, (hB.cell (p := ⟨wr.heap.size, 1, none⟩) hz hn).trans c1, (hB.cell (p := ⟨wr.heap.size, 2, none⟩) hz hn).trans c2, (hB.cell (p := ⟨wr.heap.size, 3, none⟩) hz hn).trans c3, (hB.cell (p := ⟨wr.heap.size, 4, none⟩) hz hn).trans c4,
    (hB.frozen (p := ⟨wr.heap.size, 0, none⟩) hz hn).trans z0, (hB.frozen (p := ⟨wr.heap.size, 1, none⟩) hz hn).trans z1, (hB.frozen (p := ⟨wr.heap.size, 2, none⟩) hz hn).trans z2, (hB.frozen (p := ⟨wr.heap.size, 3, none⟩) hz hn).trans z3, (hB.frozen (p := ⟨wr.heap.size, 4, none⟩) hz hn).trans z4⟩
theorem TokCells.other {w : World} {g b : Nat} {u0 u1 u2 u3 u4 : Value} (h : TokCells w g u0 u1 u2 u3 u4) (hn : g ≠ b) (v : Value) : TokCells (w.setCell ⟨b, 0, none⟩ v) g u0 u1 u2 u3 u4 := by
  obtain ⟨c0, c1, c2, c3, c4, z0, z1, z2, z3, z4⟩ := h
  have hne : ∀ i : Nat, (⟨b, 0, none⟩ : Addr) ≠ ⟨g, i, none⟩ := fun i e => hn (by cases e; rfl)
  exact ⟨(World.cell?_setCell_other _ _ _ _ (hne 0)).trans c0, (World.cell?_setCell_other _ _ _ _ (hne 1)).trans c1, (World.cell?_setCell_other _ _ _ _ (hne 2)).trans c2, (World.cell?_setCell_other _ _ _ _ (hne 3)).trans c3, (World.cell?_setCell_other _ _ _ _ (hne 4)).trans c4,
    by rw [World.frozen?_setCell]; exact z0, by rw [World.frozen?_setCell]; exact z1, by rw [World.frozen?_setCell]; exact z2, by rw [World.frozen?_setCell]; exact z3, by rw [World.frozen?_setCell]; exact z4⟩
theorem TokCells.new (w : World) : TokCells (w.alloc (.cells #[.int .i64 0, .string ⟨#[]⟩, .int .u64 0, .int .i64 0, .int .i64 0] 156)) w.heap.size (.int .i64 0) (.string ⟨#[]⟩) (.int .u64 0) (.int .i64 0) (.int .i64 0) := by
  constructor <;> simp [go_sem]
end Go.Proofs.YtchbnkepmeelkaaGreatDoor.Lx
