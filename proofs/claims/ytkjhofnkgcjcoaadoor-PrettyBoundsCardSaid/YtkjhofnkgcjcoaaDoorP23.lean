/- Unlike expressions have unlike texts, whatever stands behind them. -/
import Derived.Test.YtkjhofnkgcjcoaaDoorP18
namespace Go.Proofs.YtkjhofnkgcjcoaaDoor
open Go.RowKit

/-- how a text goes on behind an expression: not with a sign of a word, nor [ nor ( -/
def Stop (r : List UInt8) : Prop := ∀ c s, r = c :: s → isPart c = false ∧ c ≠ 91 ∧ c ≠ 40
theorem stop_of {c : UInt8} (s : List UInt8) (h : isPart c = false) (h1 : c ≠ 91) (h2 : c ≠ 40) : Stop (c :: s) := fun _ _ e => by cases e; exact ⟨h, h1, h2⟩
def Brk (r : List UInt8) : Prop := ∀ c s, r = c :: s → isPart c = false
theorem brk_of {c : UInt8} (s : List UInt8) (h : isPart c = false) : Brk (c :: s) := fun _ _ e => by cases e; exact h
theorem Stop.brk {r : List UInt8} (h : Stop r) : Brk r := fun c s e => (h c s e).1
/-- a word, and what stands behind it -/
theorem word_cut : ∀ (a b r s : List UInt8), a.all isPart = true → b.all isPart = true → Brk r → Brk s → a ++ r = b ++ s → a = b ∧ r = s
  | [], [], _, _, _, _, _, _, h => ⟨rfl, h⟩
  | [], y :: b, r, s, _, hb, hr, _, h => by
    simp only [List.nil_append, List.cons_append] at h
    simp only [List.all_cons, Bool.and_eq_true] at hb
    rw [hr _ _ h] at hb; cases hb.1
  | x :: a, [], r, s, ha, _, _, hs, h => by
    simp only [List.nil_append, List.cons_append] at h
    simp only [List.all_cons, Bool.and_eq_true] at ha
    rw [hs _ _ h.symm] at ha; cases ha.1
  | x :: a, y :: b, r, s, ha, hb, hr, hs, h => by
    simp only [List.cons_append, List.cons.injEq] at h
    simp only [List.all_cons, Bool.and_eq_true] at ha hb
    obtain ⟨hE, hF⟩ := h; subst hE; have h := hF; clear hF
    obtain ⟨hE, hF⟩ := word_cut a b r s ha.2 hb.2 hr hs h; clear h; subst hE; have h := hF; clear hF
    exact ⟨rfl, h⟩
theorem name_parts {nm : List UInt8} (h : nameB nm = true) : nm.all isPart = true ∧ (∃ c s, nm = c :: s ∧ isLet c = true) ∧ ownB nm = false := by
  cases nm with
  | nil => exact absurd h (by decide)
  | cons c s =>
    simp only [nameB, Bool.and_eq_true, Bool.not_eq_true'] at h
    exact ⟨h.2, ⟨c, s, rfl, h.1.1.2⟩, h.1.2⟩
theorem digit_ofNat {k : Nat} (h : k < 10) : isDig (UInt8.ofNat (48 + k)) = true := by
  rcases k with _ | _ | _ | _ | _ | _ | _ | _ | _ | _ | k
  all_goals first | rfl | omega
theorem dig_part {c : UInt8} (h : isDig c = true) : isPart c = true := by simp [isPart, h]
theorem dec_digits : ∀ (n x : Nat), x < n → (Lib.decDigits x).all isDig = true ∧ Lib.decDigits x ≠ []
  | 0, _, h => absurd h (Nat.not_lt_zero _)
  | n + 1, x, h => by
    rw [Lib.decDigits]
    split
    · rename_i h1
      exact ⟨by rw [List.all_cons, digit_ofNat h1]; rfl, by simp⟩
    · rename_i h1
      have := dec_digits n (x / 10) (by omega)
      exact ⟨by rw [List.all_append, this.1, List.all_cons, digit_ofNat (Nat.mod_lt x (by omega : 10 > 0))]; rfl, by simp⟩
theorem all_part_of_dig {l : List UInt8} (h : l.all isDig = true) : l.all isPart = true := by
  rw [List.all_eq_true] at h ⊢
  exact fun c hc => dig_part (h c hc)
theorem dec_parts (x : Nat) : (Lib.decDigits x).all isPart = true ∧ ∃ c s, Lib.decDigits x = c :: s ∧ isDig c = true := by
  have h := dec_digits (x + 1) x (Nat.lt_succ_self x)
  refine ⟨all_part_of_dig h.1, ?_⟩
  cases hd : Lib.decDigits x with
  | nil => exact absurd hd h.2
  | cons c s =>
    rw [hd, List.all_cons, Bool.and_eq_true] at h
    exact ⟨c, s, rfl, h.1.1⟩
theorem dec_inj : ∀ (n x y : Nat), x < n → Lib.decDigits x = Lib.decDigits y → x = y
  | 0, _, _, h, _ => absurd h (Nat.not_lt_zero _)
  | n + 1, x, y, h, e => by
    have last : ∀ {a b : List UInt8} {c d : UInt8}, a ++ [c] = b ++ [d] → a = b ∧ c = d := fun h => by
      have := List.append_inj' h rfl
      exact ⟨this.1, by simpa using this.2⟩
    have ofn : ∀ {a b : Nat}, a < 10 → b < 10 → UInt8.ofNat (48 + a) = UInt8.ofNat (48 + b) → a = b := fun ha hb h => by
      have := congrArg UInt8.toNat h
      simp only [UInt8.toNat_ofNat'] at this
      omega
    by_cases hx : x < 10
    · by_cases hy : y < 10
      · rw [Lib.decDigits, dif_pos hx, Lib.decDigits, dif_pos hy] at e
        exact ofn hx hy (by simpa using e)
      · rw [Lib.decDigits, dif_pos hx] at e
        conv at e => rhs; rw [Lib.decDigits, dif_neg hy]
        have := last (a := []) e
        exact absurd this.1.symm (dec_digits (y / 10 + 1) _ (Nat.lt_succ_self _)).2
    · by_cases hy : y < 10
      · rw [Lib.decDigits, dif_neg hx] at e
        conv at e => rhs; rw [Lib.decDigits, dif_pos hy]
        have := last (b := []) e
        exact absurd this.1 (dec_digits (x / 10 + 1) _ (Nat.lt_succ_self _)).2
      · rw [Lib.decDigits, dif_neg hx] at e
        conv at e => rhs; rw [Lib.decDigits, dif_neg hy]
        have h2 := last e
        have h3 := dec_inj n (x / 10) (y / 10) (by omega) h2.1
        have h4 := ofn (Nat.mod_lt x (by omega : 10 > 0)) (Nat.mod_lt y (by omega : 10 > 0)) h2.2
        omega
theorem dec_cut {x y : Nat} {r s : List UInt8} (hr : Brk r) (hs : Brk s) (h : Lib.decDigits x ++ r = Lib.decDigits y ++ s) : x = y ∧ r = s := by
  have := word_cut _ _ _ _ (dec_parts x).1 (dec_parts y).1 hr hs h
  exact ⟨dec_inj _ x y (Nat.lt_succ_self x) this.1, this.2⟩
theorem let_not_dig {c : UInt8} (h : isLet c = true) (k : isDig c = true) : False := by
  simp only [isLet, isDig, Bool.and_eq_true, decide_eq_true_eq] at h k; omega
theorem let_ne {c : UInt8} (h : isLet c = true) : c ≠ 126 ∧ c ≠ 45 ∧ c ≠ 40 ∧ c ≠ 41 ∧ c ≠ 125 ∧ c ≠ 9 ∧ c ≠ 10 ∧ c ≠ 32 := by
  refine ⟨?_, ?_, ?_, ?_, ?_, ?_, ?_, ?_⟩ <;> (intro e; subst e; revert h; decide)
theorem dig_ne {c : UInt8} (h : isDig c = true) : c ≠ 126 ∧ c ≠ 45 ∧ c ≠ 40 ∧ c ≠ 41 ∧ c ≠ 125 ∧ c ≠ 9 ∧ c ≠ 10 ∧ c ≠ 32 := by
  refine ⟨?_, ?_, ?_, ?_, ?_, ?_, ?_, ?_⟩ <;> (intro e; subst e; revert h; decide)
/-- signs have no blank, and no two have one text -/
theorem sign_cut {o p : Int} (h1 : 6 ≤ o) (h2 : o ≤ 20) (h3 : 6 ≤ p) (h4 : p ≤ 20) {r s : List UInt8} (h : signOf o ++ 32 :: r = signOf p ++ 32 :: s) : o = p ∧ r = s := by
  have hc : ∀ (a b r s : List UInt8), (∀ c ∈ a, c ≠ 32) → (∀ c ∈ b, c ≠ 32) → a ++ 32 :: r = b ++ 32 :: s → a = b ∧ r = s := by
    intro a
    induction a with
    | nil =>
      intro b r s _ hb h
      cases b with
      | nil => simp only [List.nil_append, List.cons.injEq, true_and] at h; exact ⟨rfl, h⟩
      | cons y b => simp only [List.nil_append, List.cons_append, List.cons.injEq] at h; exact absurd h.1.symm (hb y (by simp))
    | cons x a ih =>
      intro b r s ha hb h
      cases b with
      | nil => simp only [List.nil_append, List.cons_append, List.cons.injEq] at h; exact absurd h.1 (ha x (by simp))
      | cons y b =>
        simp only [List.cons_append, List.cons.injEq] at h
        obtain ⟨hE, hF⟩ := h; subst hE; have h := hF; clear hF
        obtain ⟨hE, hF⟩ := ih b r s (fun c hc => ha c (by simp [hc])) (fun c hc => hb c (by simp [hc])) h; clear h; subst hE; have h := hF; clear hF
        exact ⟨rfl, h⟩
  have all : ∀ (o : Int), 6 ≤ o → o ≤ 20 → ∀ c ∈ signOf o, c ≠ 32 := fun o h1 h2 => by
    rcases fifteen h1 h2 with rfl | rfl | rfl | rfl | rfl | rfl | rfl | rfl | rfl | rfl | rfl | rfl | rfl | rfl | rfl <;> decide
  obtain ⟨h5, h6⟩ := hc _ _ _ _ (all o h1 h2) (all p h3 h4) h
  refine ⟨?_, h6⟩
  rcases fifteen h1 h2 with rfl | rfl | rfl | rfl | rfl | rfl | rfl | rfl | rfl | rfl | rfl | rfl | rfl | rfl | rfl <;>
    rcases fifteen h3 h4 with rfl | rfl | rfl | rfl | rfl | rfl | rfl | rfl | rfl | rfl | rfl | rfl | rfl | rfl | rfl <;>
    first | rfl | (revert h5; decide)

/-- the forms of expressions that can be told -/
inductive Sh : Ex → List UInt8 → Prop where
  | const (wd : Nat) : Sh (.mk 1 wd [] .nil) (Lib.decDigits wd)
  | var (nm : List UInt8) (h : nameB nm = true) : Sh (.mk 2 0 nm .nil) nm
  | index (nm : List UInt8) (h : nameB nm = true) (y : Ex) (hy : y.may = true) : Sh (.mk 3 0 nm (.cons y .nil)) (nm ++ 91 :: (y.text ++ [93]))
  | not (y : Ex) (hy : y.may = true) : Sh (.mk 4 0 [] (.cons y .nil)) (126 :: y.text)
  | neg (y : Ex) (hy : y.may = true) : Sh (.mk 5 0 [] (.cons y .nil)) (45 :: y.text)
  | pick (x y z : Ex) (hx : x.may = true) (hy : y.may = true) (hz : z.may = true) : Sh (.mk 21 0 [] (.cons x (.cons y (.cons z .nil)))) ([112, 105, 99, 107] ++ 40 :: (x.text ++ 44 :: 32 :: (y.text ++ 44 :: 32 :: (z.text ++ [41]))))
  | two (op : Int) (h1 : 6 ≤ op) (h2 : op ≤ 20) (x y : Ex) (hx : x.may = true) (hy : y.may = true) : Sh (.mk op 0 [] (.cons x (.cons y .nil))) (40 :: (x.text ++ 32 :: (signOf op ++ 32 :: (y.text ++ [41]))))
theorem Exs.len_zero {a : Exs} (h : a.len = 0) : a = .nil := by cases a with | nil => rfl | cons => simp [Exs.len] at h
theorem Exs.three {l : Exs} (h : l.len = 3) : ∃ x y z, l = .cons x (.cons y (.cons z .nil)) := by
  cases l with
  | nil => cases h
  | cons x l => obtain ⟨y, z, rfl⟩ := Exs.two (l := l) (by simp only [Exs.len] at h; omega); exact ⟨x, y, z, rfl⟩
theorem empty_nil {l : List UInt8} (h : l.isEmpty = true) : l = [] := by cases l with | nil => rfl | cons => cases h
theorem Ex.shape {x : Ex} (h : x.may = true) : Sh x x.text := by
  obtain ⟨op, wd, nm, ar⟩ := x
  rw [Ex.may, Bool.and_eq_true, Bool.and_eq_true, decide_eq_true_eq] at h
  obtain ⟨⟨hlen, hma⟩, hok⟩ := h
  have hop : op ≤ 0 ∨ 22 ≤ op ∨ op = 1 ∨ op = 2 ∨ op = 3 ∨ op = 4 ∨ op = 5 ∨ op = 21 ∨ (6 ≤ op ∧ op ≤ 20) := by omega
  rcases hop with h | h | rfl | rfl | rfl | rfl | rfl | rfl | ⟨h6, h20⟩
  · rw [okOp, if_neg (by omega), if_neg (by omega), if_neg (by omega)] at hok; cases hok
  · rw [okOp, if_neg (by omega), if_neg (by omega), if_neg (by omega)] at hok; cases hok
  · obtain rfl := Exs.len_zero hlen
    rw [okOp, if_pos rfl] at hok
    obtain rfl := empty_nil hok
    exact Sh.const wd
  · obtain rfl := Exs.len_zero hlen
    rw [okOp, if_neg (by decide), if_pos (by decide), Bool.and_eq_true, decide_eq_true_eq] at hok
    obtain ⟨rfl, hn⟩ := hok
    exact Sh.var nm hn
  · obtain ⟨y, rfl⟩ := Exs.one hlen
    rw [okOp, if_neg (by decide), if_pos (by decide), Bool.and_eq_true, decide_eq_true_eq] at hok
    obtain ⟨rfl, hn⟩ := hok
    rw [Exs.may, Bool.and_eq_true] at hma
    have := Sh.index nm hn y hma.1
    rw [show (Ex.mk 3 0 nm (.cons y .nil)).text = nm ++ 91 :: (y.text ++ [93]) by simp [Ex.text, textOf, Exs.texts]]
    exact this
  · obtain ⟨y, rfl⟩ := Exs.one hlen
    rw [okOp, if_neg (by decide), if_neg (by decide), if_pos (by decide), Bool.and_eq_true, decide_eq_true_eq] at hok
    obtain ⟨rfl, hn⟩ := hok
    obtain rfl := empty_nil hn
    rw [Exs.may, Bool.and_eq_true] at hma
    rw [show (Ex.mk 4 0 [] (.cons y .nil)).text = 126 :: y.text by simp [Ex.text, textOf, Exs.texts]]
    exact Sh.not y hma.1
  · obtain ⟨y, rfl⟩ := Exs.one hlen
    rw [okOp, if_neg (by decide), if_neg (by decide), if_pos (by decide), Bool.and_eq_true, decide_eq_true_eq] at hok
    obtain ⟨rfl, hn⟩ := hok
    obtain rfl := empty_nil hn
    rw [Exs.may, Bool.and_eq_true] at hma
    rw [show (Ex.mk 5 0 [] (.cons y .nil)).text = 45 :: y.text by simp [Ex.text, textOf, Exs.texts]]
    exact Sh.neg y hma.1
  · obtain ⟨x, y, z, rfl⟩ := Exs.three hlen
    rw [okOp, if_neg (by decide), if_neg (by decide), if_pos (by decide), Bool.and_eq_true, decide_eq_true_eq] at hok
    obtain ⟨rfl, hn⟩ := hok
    obtain rfl := empty_nil hn
    simp only [Exs.may, Bool.and_eq_true] at hma
    rw [show (Ex.mk 21 0 [] (.cons x (.cons y (.cons z .nil)))).text = [112, 105, 99, 107] ++ 40 :: (x.text ++ 44 :: 32 :: (y.text ++ 44 :: 32 :: (z.text ++ [41]))) by
      simp [Ex.text, textOf, Exs.texts, Lib.join_cons, Lib.joinTail]]
    exact Sh.pick x y z hma.1 hma.2.1 hma.2.2.1
  · have hl2 : ar.len = 2 := by rw [hlen, argsN, if_neg (by omega), if_pos ⟨h6, h20⟩]
    obtain ⟨x, y, rfl⟩ := Exs.two hl2
    rw [okOp, if_neg (by omega), if_neg (by omega), if_pos (by omega), Bool.and_eq_true, decide_eq_true_eq] at hok
    obtain ⟨rfl, hn⟩ := hok
    obtain rfl := empty_nil hn
    simp only [Exs.may, Bool.and_eq_true] at hma
    rw [show (Ex.mk op 0 [] (.cons x (.cons y .nil))).text = 40 :: (x.text ++ 32 :: (signOf op ++ 32 :: (y.text ++ [41]))) by
      rw [Ex.text, textOf, if_neg (by omega), if_neg (by omega), if_neg (by omega), if_neg (by omega), if_neg (by omega), if_neg (by omega)]; simp [Exs.texts]]
    exact Sh.two op h6 h20 x y hma.1 hma.2.1
theorem pick_own : ownB [112, 105, 99, 107] = true := by decide
/-- how an expression's text begins -/
theorem Sh.head {x : Ex} {t : List UInt8} (h : Sh x t) : ∃ c s, t = c :: s ∧ c ≠ 41 ∧ c ≠ 125 ∧ c ≠ 9 := by
  cases h with
  | const wd => obtain ⟨_, c, s, e, hd⟩ := dec_parts wd; rw [e]; exact ⟨c, s, rfl, (dig_ne hd).2.2.2.1, (dig_ne hd).2.2.2.2.1, (dig_ne hd).2.2.2.2.2.1⟩
  | var nm h => obtain ⟨_, ⟨c, s, rfl, hd⟩, _⟩ := name_parts h; exact ⟨c, s, rfl, (let_ne hd).2.2.2.1, (let_ne hd).2.2.2.2.1, (let_ne hd).2.2.2.2.2.1⟩
  | index nm h y hy => obtain ⟨_, ⟨c, s, rfl, hd⟩, _⟩ := name_parts h; exact ⟨c, _, rfl, (let_ne hd).2.2.2.1, (let_ne hd).2.2.2.2.1, (let_ne hd).2.2.2.2.2.1⟩
  | not y hy => exact ⟨_, _, rfl, by decide, by decide, by decide⟩
  | neg y hy => exact ⟨_, _, rfl, by decide, by decide, by decide⟩
  | pick x y z hx hy hz => exact ⟨_, _, rfl, by decide, by decide, by decide⟩
  | two op h1 h2 x y hx hy => exact ⟨_, _, rfl, by decide, by decide, by decide⟩
theorem s93 (r : List UInt8) : Stop (93 :: r) := stop_of r (by decide) (by decide) (by decide)
theorem s44 (r : List UInt8) : Stop (44 :: r) := stop_of r (by decide) (by decide) (by decide)
theorem s41 (r : List UInt8) : Stop (41 :: r) := stop_of r (by decide) (by decide) (by decide)
theorem s32 (r : List UInt8) : Stop (32 :: r) := stop_of r (by decide) (by decide) (by decide)
theorem s59 (r : List UInt8) : Stop (59 :: r) := stop_of r (by decide) (by decide) (by decide)
theorem b91 (r : List UInt8) : Brk (91 :: r) := brk_of r (by decide)
theorem b40 (r : List UInt8) : Brk (40 :: r) := brk_of r (by decide)
theorem b32 (r : List UInt8) : Brk (32 :: r) := brk_of r (by decide)
theorem b44 (r : List UInt8) : Brk (44 :: r) := brk_of r (by decide)
theorem pick_parts : ([112, 105, 99, 107] : List UInt8).all isPart = true := by decide
theorem not_pick {nm : List UInt8} (h : nameB nm = true) (e : nm = [112, 105, 99, 107]) : False := by
  have := (name_parts h).2.2; rw [e, pick_own] at this; cases this
theorem let_dig_no {nm r s : List UInt8} {n : Nat} (h : nameB nm = true) (e : nm ++ r = Lib.decDigits n ++ s) : False := by
  obtain ⟨_, ⟨c, s1, rfl, hd⟩, _⟩ := name_parts h
  obtain ⟨_, c2, s2, e2, hd2⟩ := dec_parts n
  rw [e2] at e; simp only [List.cons_append, List.cons.injEq] at e
  obtain ⟨rfl, _⟩ := e
  exact let_not_dig hd hd2
theorem let_sign_no {nm r s : List UInt8} {c : UInt8} (h : nameB nm = true) (hc : c = 126 ∨ c = 45 ∨ c = 40) (e : nm ++ r = c :: s) : False := by
  obtain ⟨_, ⟨d, s1, rfl, hd⟩, _⟩ := name_parts h
  simp only [List.cons_append, List.cons.injEq] at e
  obtain ⟨rfl, _⟩ := e
  have := let_ne hd
  rcases hc with rfl | rfl | rfl
  · exact this.1 rfl
  · exact this.2.1 rfl
  · exact this.2.2.1 rfl
theorem dig_sign_no {r s : List UInt8} {c : UInt8} {n : Nat} (hc : c = 126 ∨ c = 45 ∨ c = 40 ∨ c = 112) (e : Lib.decDigits n ++ r = c :: s) : False := by
  obtain ⟨_, d, s2, e2, hd⟩ := dec_parts n
  rw [e2] at e
  simp only [List.cons_append, List.cons.injEq] at e
  obtain ⟨rfl, _⟩ := e
  have := dig_ne hd
  rcases hc with rfl | rfl | rfl | rfl
  · exact this.1 rfl
  · exact this.2.1 rfl
  · exact this.2.2.1 rfl
  · revert hd; decide
/-- unlike expressions have unlike texts, whatever stands behind them -/
theorem Ex.cut : ∀ (n : Nat) (x y : Ex) (r s : List UInt8), x.size < n → x.may = true → y.may = true → Stop r → Stop s → x.text ++ r = y.text ++ s → x = y ∧ r = s
  | 0, _, _, _, _, h, _, _, _, _, _ => absurd h (Nat.not_lt_zero _)
  | n + 1, x, y, r, s, hsz, hx, hy, hr, hs, h => by
    have ih := Ex.cut n
    have Hx := Ex.shape hx
    have Hy := Ex.shape hy
    clear hx hy
    generalize x.text = t at *
    generalize y.text = u at *
    cases Hx with
    | const wd =>
      cases Hy with
      | const wd' =>
        obtain ⟨hE, hF⟩ := dec_cut hr.brk hs.brk h; clear h; subst hE; have h := hF; clear hF
        exact ⟨rfl, h⟩
      | var nm hn => exact (let_dig_no hn h.symm).elim
      | index nm hn y hy => rw [List.append_assoc] at h; exact (let_dig_no hn h.symm).elim
      | not y hy => exact (dig_sign_no (.inl rfl) h).elim
      | neg y hy => exact (dig_sign_no (.inr (.inl rfl)) h).elim
      | pick x y z hx hy hz => exact (dig_sign_no (.inr (.inr (.inr rfl))) h).elim
      | two op h1 h2 x y hx hy => exact (dig_sign_no (.inr (.inr (.inl rfl))) h).elim
    | var nm hn =>
      cases Hy with
      | const wd' => exact (let_dig_no hn h).elim
      | var nm' hn' =>
        obtain ⟨hE, hF⟩ := word_cut _ _ _ _ (name_parts hn).1 (name_parts hn').1 hr.brk hs.brk h; clear h; subst hE; have h := hF; clear hF
        exact ⟨rfl, h⟩
      | index nm' hn' y hy =>
        rw [List.append_assoc] at h
        obtain ⟨hE, hF⟩ := word_cut _ _ _ _ (name_parts hn).1 (name_parts hn').1 hr.brk (b91 _) h; clear h; subst hE; have h := hF; clear hF
        exact absurd rfl (hr _ _ h).2.1
      | not y hy => exact (let_sign_no hn (.inl rfl) h).elim
      | neg y hy => exact (let_sign_no hn (.inr (.inl rfl)) h).elim
      | pick x y z hx hy hz =>
        rw [List.append_assoc] at h
        exact (not_pick hn (word_cut _ _ _ _ (name_parts hn).1 pick_parts hr.brk (b40 _) h).1).elim
      | two op h1 h2 x y hx hy => exact (let_sign_no hn (.inr (.inr rfl)) h).elim
    | index nm hn x hx =>
      rw [List.append_assoc] at h
      cases Hy with
      | const wd' => exact (let_dig_no hn h).elim
      | var nm' hn' =>
        obtain ⟨hE, hF⟩ := word_cut _ _ _ _ (name_parts hn).1 (name_parts hn').1 (b91 _) hs.brk h; clear h; subst hE; have h := hF; clear hF
        exact absurd rfl (hs _ _ h.symm).2.1
      | index nm' hn' y hy =>
        simp only [List.cons_append, List.append_assoc, List.nil_append] at h
        obtain ⟨hE, hF⟩ := word_cut _ _ _ _ (name_parts hn).1 (name_parts hn').1 (b91 _) (b91 _) h; clear h; subst hE; have h := hF; clear hF
        simp only [List.cons.injEq, true_and] at h
        obtain ⟨hE, hF⟩ := ih x y _ _ (by simp only [Ex.size, Exs.size] at hsz; omega) hx hy (s93 _) (s93 _) h; clear h; subst hE; have h := hF; clear hF
        simp only [List.cons.injEq, true_and] at h
        exact ⟨rfl, h⟩
      | not y hy => exact (let_sign_no hn (.inl rfl) h).elim
      | neg y hy => exact (let_sign_no hn (.inr (.inl rfl)) h).elim
      | pick x y z hx hy hz =>
        rw [List.append_assoc] at h
        exact (not_pick hn (word_cut _ _ _ _ (name_parts hn).1 pick_parts (b91 _) (b40 _) h).1).elim
      | two op h1 h2 x y hx hy => exact (let_sign_no hn (.inr (.inr rfl)) h).elim
    | not x hx =>
      cases Hy with
      | const wd' => exact (dig_sign_no (.inl rfl) h.symm).elim
      | var nm' hn' => exact (let_sign_no hn' (.inl rfl) h.symm).elim
      | index nm' hn' y hy => rw [List.append_assoc] at h; exact (let_sign_no hn' (.inl rfl) h.symm).elim
      | not y hy =>
        simp only [List.cons_append, List.cons.injEq, true_and] at h
        obtain ⟨hE, hF⟩ := ih x y _ _ (by simp only [Ex.size, Exs.size] at hsz; omega) hx hy hr hs h; clear h; subst hE; have h := hF; clear hF
        exact ⟨rfl, h⟩
      | neg y hy => simp at h
      | pick x y z hx hy hz => simp at h
      | two op h1 h2 x y hx hy => simp at h
    | neg x hx =>
      cases Hy with
      | const wd' => exact (dig_sign_no (.inr (.inl rfl)) h.symm).elim
      | var nm' hn' => exact (let_sign_no hn' (.inr (.inl rfl)) h.symm).elim
      | index nm' hn' y hy => rw [List.append_assoc] at h; exact (let_sign_no hn' (.inr (.inl rfl)) h.symm).elim
      | not y hy => simp at h
      | neg y hy =>
        simp only [List.cons_append, List.cons.injEq, true_and] at h
        obtain ⟨hE, hF⟩ := ih x y _ _ (by simp only [Ex.size, Exs.size] at hsz; omega) hx hy hr hs h; clear h; subst hE; have h := hF; clear hF
        exact ⟨rfl, h⟩
      | pick x y z hx hy hz => simp at h
      | two op h1 h2 x y hx hy => simp at h
    | pick x1 x2 x3 hx1 hx2 hx3 =>
      cases Hy with
      | const wd' => exact (dig_sign_no (.inr (.inr (.inr rfl))) h.symm).elim
      | var nm' hn' =>
        rw [List.append_assoc] at h
        exact (not_pick hn' (word_cut _ _ _ _ pick_parts (name_parts hn').1 (b40 _) hs.brk h).1.symm).elim
      | index nm' hn' y hy =>
        rw [List.append_assoc, List.append_assoc] at h
        exact (not_pick hn' (word_cut _ _ _ _ pick_parts (name_parts hn').1 (b40 _) (b91 _) h).1.symm).elim
      | not y hy => simp at h
      | neg y hy => simp at h
      | pick y1 y2 y3 hy1 hy2 hy3 =>
        rw [List.append_assoc, List.append_assoc] at h
        simp only [List.cons_append, List.append_assoc, List.nil_append] at h
        simp only [List.cons.injEq, true_and] at h
        obtain ⟨hE, hF⟩ := ih x1 y1 _ _ (by simp only [Ex.size, Exs.size] at hsz; omega) hx1 hy1 (s44 _) (s44 _) h; clear h; subst hE; have h := hF; clear hF
        simp only [List.cons.injEq, true_and] at h
        obtain ⟨hE, hF⟩ := ih x2 y2 _ _ (by simp only [Ex.size, Exs.size] at hsz; omega) hx2 hy2 (s44 _) (s44 _) h; clear h; subst hE; have h := hF; clear hF
        simp only [List.cons.injEq, true_and] at h
        obtain ⟨hE, hF⟩ := ih x3 y3 _ _ (by simp only [Ex.size, Exs.size] at hsz; omega) hx3 hy3 (s41 _) (s41 _) h; clear h; subst hE; have h := hF; clear hF
        simp only [List.cons.injEq, true_and] at h
        exact ⟨rfl, h⟩
      | two op h1 h2 x y hx hy => simp at h
    | two op h1 h2 x1 x2 hx1 hx2 =>
      cases Hy with
      | const wd' => exact (dig_sign_no (.inr (.inr (.inl rfl))) h.symm).elim
      | var nm' hn' => exact (let_sign_no hn' (.inr (.inr rfl)) h.symm).elim
      | index nm' hn' y hy => rw [List.append_assoc] at h; exact (let_sign_no hn' (.inr (.inr rfl)) h.symm).elim
      | not y hy => simp at h
      | neg y hy => simp at h
      | pick y1 y2 y3 hy1 hy2 hy3 => simp at h
      | two op' h1' h2' y1 y2 hy1 hy2 =>
        simp only [List.cons_append, List.cons.injEq, true_and, List.append_assoc, List.nil_append] at h
        obtain ⟨hE, hF⟩ := ih x1 y1 _ _ (by simp only [Ex.size, Exs.size] at hsz; omega) hx1 hy1 (s32 _) (s32 _) h; clear h; subst hE; have h := hF; clear hF
        simp only [List.cons.injEq, true_and] at h
        obtain ⟨hE, hF⟩ := sign_cut h1 h2 h1' h2' h; clear h; subst hE; have h := hF; clear hF
        obtain ⟨hE, hF⟩ := ih x2 y2 _ _ (by simp only [Ex.size, Exs.size] at hsz; omega) hx2 hy2 (s41 _) (s41 _) h; clear h; subst hE; have h := hF; clear hF
        simp only [List.cons.injEq, true_and] at h
        exact ⟨rfl, h⟩
theorem ex_cut {x y : Ex} {r s : List UInt8} (hx : x.may = true) (hy : y.may = true) (hr : Stop r) (hs : Stop s) (h : x.text ++ r = y.text ++ s) : x = y ∧ r = s :=
  Ex.cut _ x y r s (Nat.lt_succ_self _) hx hy hr hs h
end Go.Proofs.YtkjhofnkgcjcoaaDoor
/- Unlike programs that can be told have unlike lines and unlike texts. -/
namespace Go.Proofs.YtkjhofnkgcjcoaaDoor
open Go.RowKit

theorem joinTail_cons (x : List UInt8) (r : List (List UInt8)) : Lib.joinTail [44, 32] (x :: r) = 44 :: 32 :: (x ++ Lib.joinTail [44, 32] r) := by simp [Lib.joinTail]
theorem joinTail_nil : Lib.joinTail [44, 32] [] = [] := rfl
theorem tail_stop (ts : List (List UInt8)) {c : UInt8} (s : List UInt8) (h : Stop (c :: s)) : Stop (Lib.joinTail [44, 32] ts ++ c :: s) := by
  cases ts with
  | nil => exact h
  | cons x r => rw [joinTail_cons]; exact s44 _
theorem argsTail_cut : ∀ (a b : Exs) (r s : List UInt8), a.may = true → b.may = true → Lib.joinTail [44, 32] a.texts ++ 41 :: r = Lib.joinTail [44, 32] b.texts ++ 41 :: s → a = b ∧ r = s
  | .nil, .nil, r, s, _, _, h => by simp only [Exs.texts, joinTail_nil, List.nil_append, List.cons.injEq, true_and] at h; exact ⟨rfl, h⟩
  | .nil, .cons y b, r, s, _, _, h => by simp [Exs.texts, joinTail_nil, joinTail_cons] at h
  | .cons x a, .nil, r, s, _, _, h => by simp [Exs.texts, joinTail_nil, joinTail_cons] at h
  | .cons x a, .cons y b, r, s, ha, hb, h => by
    simp only [Exs.texts, joinTail_cons, List.cons_append, List.append_assoc, List.cons.injEq, true_and] at h
    rw [Exs.may, Bool.and_eq_true] at ha hb
    obtain ⟨h1, h2⟩ := ex_cut ha.1 hb.1 (tail_stop _ _ (s41 _)) (tail_stop _ _ (s41 _)) h
    obtain ⟨h3, h4⟩ := argsTail_cut a b r s ha.2 hb.2 h2
    exact ⟨by rw [h1, h3], h4⟩
theorem args_cut {a b : Exs} {r s : List UInt8} (ha : a.may = true) (hb : b.may = true) (h : Lib.join a.texts [44, 32] ++ 41 :: r = Lib.join b.texts [44, 32] ++ 41 :: s) : a = b ∧ r = s := by
  cases a with
  | nil =>
    cases b with
    | nil => simp only [Exs.texts, Lib.join_nil, List.nil_append, List.cons.injEq, true_and] at h; exact ⟨rfl, h⟩
    | cons y b =>
      rw [Exs.may, Bool.and_eq_true] at hb
      obtain ⟨c, t, e, hc, _⟩ := (Ex.shape hb.1).head
      simp only [Exs.texts, Lib.join_nil, Lib.join_cons, e, List.nil_append, List.cons_append, List.cons.injEq] at h
      exact absurd h.1.symm hc
  | cons x a =>
    rw [Exs.may, Bool.and_eq_true] at ha
    cases b with
    | nil =>
      obtain ⟨c, t, e, hc, _⟩ := (Ex.shape ha.1).head
      simp only [Exs.texts, Lib.join_nil, Lib.join_cons, e, List.nil_append, List.cons_append, List.cons.injEq] at h
      exact absurd h.1 hc
    | cons y b =>
      rw [Exs.may, Bool.and_eq_true] at hb
      simp only [Exs.texts, Lib.join_cons, List.append_assoc] at h
      obtain ⟨h1, h2⟩ := ex_cut ha.1 hb.1 (tail_stop _ _ (s41 _)) (tail_stop _ _ (s41 _)) h
      obtain ⟨h3, h4⟩ := argsTail_cut a b r s ha.2 hb.2 h2
      exact ⟨by rw [h1, h3], h4⟩
theorem tail_brk (ts : List (List UInt8)) {c : UInt8} (s : List UInt8) (h : isPart c = false) : Brk (Lib.joinTail [44, 32] ts ++ c :: s) := by
  cases ts with
  | nil => exact brk_of _ h
  | cons x r => rw [joinTail_cons]; exact b44 _
theorem names_cut : ∀ (a b : List (List UInt8)) (r s : List UInt8), namesB a = true → namesB b = true → Lib.joinTail [44, 32] a ++ 32 :: r = Lib.joinTail [44, 32] b ++ 32 :: s → a = b ∧ r = s
  | [], [], r, s, _, _, h => by simp only [joinTail_nil, List.nil_append, List.cons.injEq, true_and] at h; exact ⟨rfl, h⟩
  | [], y :: b, r, s, _, _, h => by simp [joinTail_nil, joinTail_cons] at h
  | x :: a, [], r, s, _, _, h => by simp [joinTail_nil, joinTail_cons] at h
  | x :: a, y :: b, r, s, ha, hb, h => by
    simp only [joinTail_cons, List.cons_append, List.append_assoc, List.cons.injEq, true_and] at h
    simp only [namesB, List.all_cons, Bool.and_eq_true] at ha hb
    obtain ⟨h1, h2⟩ := word_cut _ _ _ _ (name_parts ha.1).1 (name_parts hb.1).1 (tail_brk _ _ (by decide)) (tail_brk _ _ (by decide)) h
    obtain ⟨h3, h4⟩ := names_cut a b r s ha.2 hb.2 h2
    exact ⟨by rw [h1, h3], h4⟩

/-- the forms of statements that can be told, and their first lines -/
inductive ShS : St → List UInt8 → Prop where
  | set (nm : List UInt8) (hn : nameB nm = true) (e : Ex) (he : e.may = true) : ShS (.mk 1 nm [] e E0 .nil 0 0 .nil .nil) (nm ++ 32 :: 61 :: 32 :: (e.text ++ [59]))
  | put (nm : List UInt8) (hn : nameB nm = true) (a : Ex) (ha : a.may = true) (e : Ex) (he : e.may = true) : ShS (.mk 2 nm [] e a .nil 0 0 .nil .nil) (nm ++ 91 :: (a.text ++ 93 :: 32 :: 61 :: 32 :: (e.text ++ [59])))
  | ifs (e : Ex) (he : e.may = true) (bd el : Sts) (hb : bd.may = true) (hl : el.may = true) : ShS (.mk 3 [] [] e E0 .nil 0 0 bd el) ([105, 102] ++ 32 :: (e.text ++ [32, 123]))
  | whl (e : Ex) (he : e.may = true) (bd : Sts) (hb : bd.may = true) : ShS (.mk 4 [] [] e E0 .nil 0 0 bd .nil) ([119, 104, 105, 108, 101] ++ 32 :: (e.text ++ [32, 123]))
  | for (nm : List UInt8) (hn : nameB nm = true) (lo hi : Nat) (bd : Sts) (hb : bd.may = true) : ShS (.mk 5 nm [] E0 E0 .nil lo hi bd .nil) ([102, 111, 114] ++ 32 :: (nm ++ 32 :: (Lib.decDigits lo ++ 32 :: (Lib.decDigits hi ++ [32, 123]))))
  | call (nm : List UInt8) (hn : nameB nm = true) (g : Exs) (hg : g.may = true) : ShS (.mk 6 nm [] E0 E0 g 0 0 .nil .nil) (nm ++ 40 :: (Lib.join g.texts [44, 32] ++ 41 :: [59]))
  | calls (n0 : List UInt8) (h0 : nameB n0 = true) (ns : List (List UInt8)) (hs : namesB ns = true) (nm : List UInt8) (hn : nameB nm = true) (g : Exs) (hg : g.may = true) :
    ShS (.mk 6 nm (n0 :: ns) E0 E0 g 0 0 .nil .nil) (n0 ++ (Lib.joinTail [44, 32] ns ++ 32 :: 61 :: 32 :: (nm ++ 40 :: (Lib.join g.texts [44, 32] ++ 41 :: [59]))))
theorem none_E0 {x : Ex} (h : x.none = true) : x = E0 := by
  obtain ⟨op, wd, nm, ar⟩ := x
  unfold Ex.none at h
  rw [Bool.and_eq_true, Bool.and_eq_true, Bool.and_eq_true] at h
  obtain ⟨h1, h2, h3, h4⟩ := h
  have k1 : op = 0 := of_decide_eq_true h1
  have k2 : wd = 0 := of_decide_eq_true h2
  have k4 : ar.len = 0 := of_decide_eq_true h4
  have k3 : nm = [] := empty_nil h3
  rw [k1, k2, k3, Exs.len_zero k4]; rfl
theorem Sts.len_zero {a : Sts} (h : a.len = 0) : a = .nil := by cases a with | nil => rfl | cons => simp [Sts.len] at h
theorem St.shape {x : St} (h : x.may = true) : ShS x x.first := by
  obtain ⟨kd, nm, ns, e, a, g, lo, hi, bd, el⟩ := x
  have hno : kd < 1 ∨ 6 < kd ∨ kd = 1 ∨ kd = 2 ∨ kd = 3 ∨ kd = 4 ∨ kd = 5 ∨ kd = 6 := by omega
  rcases hno with k | k | rfl | rfl | rfl | rfl | rfl | rfl
  · rw [st_may_no kd (.inl k)] at h; cases h
  · rw [st_may_no kd (.inr k)] at h; cases h
  · rw [st_may_1] at h
    simp only [Bool.and_eq_true, St.isZero, decide_eq_true_eq] at h
    obtain ⟨⟨hn, he⟩, _, _, h3, _, h5, h6, h7, h8, h9, h10⟩ := h
    obtain rfl := List.length_eq_zero_iff.1 h3
    obtain rfl := none_E0 h5
    obtain rfl := Exs.len_zero h6
    subst h7; subst h8
    obtain rfl := Sts.len_zero h9
    obtain rfl := Sts.len_zero h10
    rw [show (St.mk 1 nm [] e E0 .nil 0 0 .nil .nil).first = nm ++ 32 :: 61 :: 32 :: (e.text ++ [59]) by rw [← first_eq, firstT, if_pos rfl]; simp]
    exact ShS.set nm hn e he
  · rw [st_may_2] at h
    simp only [Bool.and_eq_true, St.isZero, decide_eq_true_eq] at h
    obtain ⟨⟨hn, ha, he⟩, _, _, h3, _, _, h6, h7, h8, h9, h10⟩ := h
    obtain rfl := List.length_eq_zero_iff.1 h3
    obtain rfl := Exs.len_zero h6
    subst h7; subst h8
    obtain rfl := Sts.len_zero h9
    obtain rfl := Sts.len_zero h10
    rw [show (St.mk 2 nm [] e a .nil 0 0 .nil .nil).first = nm ++ 91 :: (a.text ++ 93 :: 32 :: 61 :: 32 :: (e.text ++ [59])) by rw [← first_eq, firstT, if_neg (by decide), if_pos rfl]; simp]
    exact ShS.put nm hn a ha e he
  · rw [st_may_3] at h
    simp only [Bool.and_eq_true, St.isZero, decide_eq_true_eq] at h
    obtain ⟨⟨he, hb, hl⟩, _, h2, h3, _, h5, h6, h7, h8, _⟩ := h
    obtain rfl := empty_nil h2
    obtain rfl := List.length_eq_zero_iff.1 h3
    obtain rfl := none_E0 h5
    obtain rfl := Exs.len_zero h6
    subst h7; subst h8
    rw [show (St.mk 3 [] [] e E0 .nil 0 0 bd el).first = [105, 102] ++ 32 :: (e.text ++ [32, 123]) by rw [← first_eq, firstT, if_neg (by decide), if_neg (by decide), if_pos rfl]; simp]
    exact ShS.ifs e he bd el hb hl
  · rw [st_may_4] at h
    simp only [Bool.and_eq_true, St.isZero, decide_eq_true_eq] at h
    obtain ⟨⟨he, hb⟩, _, h2, h3, _, h5, h6, h7, h8, _, h10⟩ := h
    obtain rfl := empty_nil h2
    obtain rfl := List.length_eq_zero_iff.1 h3
    obtain rfl := none_E0 h5
    obtain rfl := Exs.len_zero h6
    subst h7; subst h8
    obtain rfl := Sts.len_zero h10
    rw [show (St.mk 4 [] [] e E0 .nil 0 0 bd .nil).first = [119, 104, 105, 108, 101] ++ 32 :: (e.text ++ [32, 123]) by rw [← first_eq, firstT, if_neg (by decide), if_neg (by decide), if_neg (by decide), if_pos rfl]; simp]
    exact ShS.whl e he bd hb
  · rw [st_may_5] at h
    simp only [Bool.and_eq_true, St.isZero, decide_eq_true_eq] at h
    obtain ⟨⟨hn, hb⟩, _, _, h3, h4, h5, h6, _, _, _, h10⟩ := h
    obtain rfl := List.length_eq_zero_iff.1 h3
    obtain rfl := none_E0 h4
    obtain rfl := none_E0 h5
    obtain rfl := Exs.len_zero h6
    obtain rfl := Sts.len_zero h10
    rw [show (St.mk 5 nm [] E0 E0 .nil lo hi bd .nil).first = [102, 111, 114] ++ 32 :: (nm ++ 32 :: (Lib.decDigits lo ++ 32 :: (Lib.decDigits hi ++ [32, 123]))) by rw [← first_eq, firstT, if_neg (by decide), if_neg (by decide), if_neg (by decide), if_neg (by decide), if_pos rfl]; simp]
    exact ShS.for nm hn lo hi bd hb
  · rw [st_may_6] at h
    simp only [Bool.and_eq_true, St.isZero, decide_eq_true_eq] at h
    obtain ⟨⟨hn, hs, hg⟩, _, _, _, h4, h5, _, h7, h8, h9, h10⟩ := h
    obtain rfl := none_E0 h4
    obtain rfl := none_E0 h5
    subst h7; subst h8
    obtain rfl := Sts.len_zero h9
    obtain rfl := Sts.len_zero h10
    cases ns with
    | nil =>
      rw [show (St.mk 6 nm [] E0 E0 g 0 0 .nil .nil).first = nm ++ 40 :: (Lib.join g.texts [44, 32] ++ 41 :: [59]) by
        rw [← first_eq, firstT, if_neg (by decide), if_neg (by decide), if_neg (by decide), if_neg (by decide), if_neg (by decide), if_pos (show ([] : List (List UInt8)).length = 0 from rfl)]; simp]
      exact ShS.call nm hn g hg
    | cons n0 ns =>
      simp only [namesB, List.all_cons, Bool.and_eq_true] at hs
      rw [show (St.mk 6 nm (n0 :: ns) E0 E0 g 0 0 .nil .nil).first = n0 ++ (Lib.joinTail [44, 32] ns ++ 32 :: 61 :: 32 :: (nm ++ 40 :: (Lib.join g.texts [44, 32] ++ 41 :: [59]))) by
        rw [← first_eq, firstT, if_neg (by decide), if_neg (by decide), if_neg (by decide), if_neg (by decide), if_neg (by decide), if_neg (by simp), Lib.join_cons]; simp]
      exact ShS.calls n0 hs.1 ns hs.2 nm hn g hg
/-- a line's first word, and what stands behind it -/
def Word0 (w t : List UInt8) : Prop := ∃ r, t = w ++ r ∧ w.all isPart = true ∧ Brk r
theorem Word0.uniq {w v t : List UInt8} (h : Word0 w t) (k : Word0 v t) : w = v := by
  obtain ⟨r, rfl, hw, hr⟩ := h
  obtain ⟨s, e, hv, hs⟩ := k
  exact (word_cut _ _ _ _ hw hv hr hs e).1
def kwB (w : List UInt8) : Bool := decide (w = [105, 102]) || (decide (w = [119, 104, 105, 108, 101]) || decide (w = [102, 111, 114]))
theorem ShS.word {x : St} {t : List UInt8} (h : ShS x t) : ∃ w, Word0 w t ∧ (nameB w = true ∨ kwB w = true) := by
  cases h with
  | set nm hn e he => exact ⟨nm, ⟨_, rfl, (name_parts hn).1, b32 _⟩, .inl hn⟩
  | put nm hn a ha e he => exact ⟨nm, ⟨_, rfl, (name_parts hn).1, b91 _⟩, .inl hn⟩
  | ifs e he bd el hb hl => exact ⟨_, ⟨_, rfl, by decide, b32 _⟩, .inr (by decide)⟩
  | whl e he bd hb => exact ⟨_, ⟨_, rfl, by decide, b32 _⟩, .inr (by decide)⟩
  | «for» nm hn lo hi bd hb => exact ⟨_, ⟨_, rfl, by decide, b32 _⟩, .inr (by decide)⟩
  | call nm hn g hg => exact ⟨nm, ⟨_, rfl, (name_parts hn).1, b40 _⟩, .inl hn⟩
  | calls n0 h0 ns hs nm hn g hg => exact ⟨n0, ⟨_, rfl, (name_parts h0).1, tail_brk _ _ (by decide)⟩, .inl h0⟩
theorem own_not {nm : List UInt8} (h : nameB nm = true) {w : List UInt8} (hw : ownB w = true) (e : nm = w) : False := by
  have := (name_parts h).2.2; rw [e, hw] at this; cases this
/-- what two statements have alike whose first lines are one -/
def Alike (x y : St) : Prop := x.kind = y.kind ∧ x.name = y.name ∧ x.names = y.names ∧ x.e = y.e ∧ x.a = y.a ∧ x.args = y.args ∧ x.low = y.low ∧ x.high = y.high
theorem set_calls {_e g0 : List UInt8} {x : Ex} (hx : x.may = true) {nm : List UInt8} (hn : nameB nm = true) (h : x.text ++ [59] = nm ++ 40 :: g0) : False := by
  have H := Ex.shape hx
  clear hx
  generalize x.text = t at *
  cases H with
  | const wd => exact let_dig_no hn h.symm
  | var nm' hn' =>
    obtain ⟨_, h2⟩ := word_cut _ _ _ _ (name_parts hn').1 (name_parts hn).1 (s59 []).brk (b40 _) h
    simp at h2
  | index nm' hn' y hy =>
    rw [List.append_assoc] at h
    obtain ⟨_, h2⟩ := word_cut _ _ _ _ (name_parts hn').1 (name_parts hn).1 (b91 _) (b40 _) h
    simp at h2
  | not y hy => exact let_sign_no hn (.inl rfl) h.symm
  | neg y hy => exact let_sign_no hn (.inr (.inl rfl)) h.symm
  | pick x y z hx hy hz =>
    rw [List.append_assoc] at h
    exact not_pick hn (word_cut _ _ _ _ pick_parts (name_parts hn).1 (b40 _) (b40 _) h).1.symm
  | two op h1 h2 x y hx hy => exact let_sign_no hn (.inr (.inr rfl)) h.symm
theorem b93 (r : List UInt8) : Brk (93 :: r) := brk_of r (by decide)
theorem ifP : ([105, 102] : List UInt8).all isPart = true := by decide
theorem whP : ([119, 104, 105, 108, 101] : List UInt8).all isPart = true := by decide
theorem foP : ([102, 111, 114] : List UInt8).all isPart = true := by decide
theorem ifO : ownB [105, 102] = true := by decide
theorem whO : ownB [119, 104, 105, 108, 101] = true := by decide
theorem foO : ownB [102, 111, 114] = true := by decide
theorem shs_alike {x y : St} {t u : List UInt8} (hx : ShS x t) (hy : ShS y u) (h : t = u) : Alike x y := by
  cases hx with
  | set nm hn e he =>
    cases hy with
    | set nm' hn' e' he' =>
      obtain ⟨h1, h2⟩ := word_cut _ _ _ _ (name_parts hn).1 (name_parts hn').1 (b32 _) (b32 _) h
      simp only [List.cons.injEq, true_and] at h2
      obtain ⟨h3, _⟩ := ex_cut he he' (s59 _) (s59 _) h2
      exact ⟨rfl, h1, rfl, h3, rfl, rfl, rfl, rfl⟩
    | put nm' hn' a' ha' e' he' => have := (word_cut _ _ _ _ (name_parts hn).1 (name_parts hn').1 (b32 _) (b91 _) h).2; simp at this
    | ifs e' he' bd' el' hb' hl' => exact (own_not hn ifO (word_cut _ _ _ _ (name_parts hn).1 ifP (b32 _) (b32 _) h).1).elim
    | whl e' he' bd' hb' => exact (own_not hn whO (word_cut _ _ _ _ (name_parts hn).1 whP (b32 _) (b32 _) h).1).elim
    | «for» nm' hn' lo' hi' bd' hb' => exact (own_not hn foO (word_cut _ _ _ _ (name_parts hn).1 foP (b32 _) (b32 _) h).1).elim
    | call nm' hn' g' hg' => have := (word_cut _ _ _ _ (name_parts hn).1 (name_parts hn').1 (b32 _) (b40 _) h).2; simp at this
    | calls n0 h0 ns hs nm' hn' g' hg' =>
      have h2 := (word_cut _ _ _ _ (name_parts hn).1 (name_parts h0).1 (b32 _) (tail_brk _ _ (by decide)) h).2
      cases ns with
      | nil =>
        simp only [joinTail_nil, List.nil_append, List.cons.injEq, true_and] at h2
        exact (set_calls (_e := []) he hn' h2).elim
      | cons n1 ns => simp [joinTail_cons] at h2
  | put nm hn a ha e he =>
    cases hy with
    | set nm' hn' e' he' => have := (word_cut _ _ _ _ (name_parts hn).1 (name_parts hn').1 (b91 _) (b32 _) h).2; simp at this
    | put nm' hn' a' ha' e' he' =>
      obtain ⟨h1, h2⟩ := word_cut _ _ _ _ (name_parts hn).1 (name_parts hn').1 (b91 _) (b91 _) h
      simp only [List.cons.injEq, true_and] at h2
      obtain ⟨h3, h4⟩ := ex_cut ha ha' (s93 _) (s93 _) h2
      simp only [List.cons.injEq, true_and] at h4
      obtain ⟨h5, _⟩ := ex_cut he he' (s59 _) (s59 _) h4
      exact ⟨rfl, h1, rfl, h5, h3, rfl, rfl, rfl⟩
    | ifs e' he' bd' el' hb' hl' => exact (own_not hn ifO (word_cut _ _ _ _ (name_parts hn).1 ifP (b91 _) (b32 _) h).1).elim
    | whl e' he' bd' hb' => exact (own_not hn whO (word_cut _ _ _ _ (name_parts hn).1 whP (b91 _) (b32 _) h).1).elim
    | «for» nm' hn' lo' hi' bd' hb' => exact (own_not hn foO (word_cut _ _ _ _ (name_parts hn).1 foP (b91 _) (b32 _) h).1).elim
    | call nm' hn' g' hg' => have := (word_cut _ _ _ _ (name_parts hn).1 (name_parts hn').1 (b91 _) (b40 _) h).2; simp at this
    | calls n0 h0 ns hs nm' hn' g' hg' =>
      have h2 := (word_cut _ _ _ _ (name_parts hn).1 (name_parts h0).1 (b91 _) (tail_brk _ _ (by decide)) h).2
      cases ns with
      | nil => simp [joinTail_nil] at h2
      | cons n1 ns => simp [joinTail_cons] at h2
  | ifs e he bd el hb hl =>
    cases hy with
    | set nm' hn' e' he' => exact (own_not hn' ifO (word_cut _ _ _ _ ifP (name_parts hn').1 (b32 _) (b32 _) h).1.symm).elim
    | put nm' hn' a' ha' e' he' => exact (own_not hn' ifO (word_cut _ _ _ _ ifP (name_parts hn').1 (b32 _) (b91 _) h).1.symm).elim
    | ifs e' he' bd' el' hb' hl' =>
      simp only [List.cons_append, List.nil_append, List.cons.injEq, true_and] at h
      obtain ⟨h3, _⟩ := ex_cut he he' (s32 _) (s32 _) h
      exact ⟨rfl, rfl, rfl, h3, rfl, rfl, rfl, rfl⟩
    | whl e' he' bd' hb' => simp at h
    | «for» nm' hn' lo' hi' bd' hb' => simp at h
    | call nm' hn' g' hg' => exact (own_not hn' ifO (word_cut _ _ _ _ ifP (name_parts hn').1 (b32 _) (b40 _) h).1.symm).elim
    | calls n0 h0 ns hs nm' hn' g' hg' => exact (own_not h0 ifO (word_cut _ _ _ _ ifP (name_parts h0).1 (b32 _) (tail_brk _ _ (by decide)) h).1.symm).elim
  | whl e he bd hb =>
    cases hy with
    | set nm' hn' e' he' => exact (own_not hn' whO (word_cut _ _ _ _ whP (name_parts hn').1 (b32 _) (b32 _) h).1.symm).elim
    | put nm' hn' a' ha' e' he' => exact (own_not hn' whO (word_cut _ _ _ _ whP (name_parts hn').1 (b32 _) (b91 _) h).1.symm).elim
    | ifs e' he' bd' el' hb' hl' => simp at h
    | whl e' he' bd' hb' =>
      simp only [List.cons_append, List.nil_append, List.cons.injEq, true_and] at h
      obtain ⟨h3, _⟩ := ex_cut he he' (s32 _) (s32 _) h
      exact ⟨rfl, rfl, rfl, h3, rfl, rfl, rfl, rfl⟩
    | «for» nm' hn' lo' hi' bd' hb' => simp at h
    | call nm' hn' g' hg' => exact (own_not hn' whO (word_cut _ _ _ _ whP (name_parts hn').1 (b32 _) (b40 _) h).1.symm).elim
    | calls n0 h0 ns hs nm' hn' g' hg' => exact (own_not h0 whO (word_cut _ _ _ _ whP (name_parts h0).1 (b32 _) (tail_brk _ _ (by decide)) h).1.symm).elim
  | «for» nm hn lo hi bd hb =>
    cases hy with
    | set nm' hn' e' he' => exact (own_not hn' foO (word_cut _ _ _ _ foP (name_parts hn').1 (b32 _) (b32 _) h).1.symm).elim
    | put nm' hn' a' ha' e' he' => exact (own_not hn' foO (word_cut _ _ _ _ foP (name_parts hn').1 (b32 _) (b91 _) h).1.symm).elim
    | ifs e' he' bd' el' hb' hl' => simp at h
    | whl e' he' bd' hb' => simp at h
    | «for» nm' hn' lo' hi' bd' hb' =>
      simp only [List.cons_append, List.nil_append, List.cons.injEq, true_and] at h
      obtain ⟨h1, h2⟩ := word_cut _ _ _ _ (name_parts hn).1 (name_parts hn').1 (b32 _) (b32 _) h
      simp only [List.cons.injEq, true_and] at h2
      obtain ⟨h3, h4⟩ := dec_cut (b32 _) (b32 _) h2
      simp only [List.cons.injEq, true_and] at h4
      obtain ⟨h5, _⟩ := dec_cut (b32 _) (b32 _) h4
      exact ⟨rfl, h1, rfl, rfl, rfl, rfl, h3, h5⟩
    | call nm' hn' g' hg' => exact (own_not hn' foO (word_cut _ _ _ _ foP (name_parts hn').1 (b32 _) (b40 _) h).1.symm).elim
    | calls n0 h0 ns hs nm' hn' g' hg' => exact (own_not h0 foO (word_cut _ _ _ _ foP (name_parts h0).1 (b32 _) (tail_brk _ _ (by decide)) h).1.symm).elim
  | call nm hn g hg =>
    cases hy with
    | set nm' hn' e' he' => have := (word_cut _ _ _ _ (name_parts hn).1 (name_parts hn').1 (b40 _) (b32 _) h).2; simp at this
    | put nm' hn' a' ha' e' he' => have := (word_cut _ _ _ _ (name_parts hn).1 (name_parts hn').1 (b40 _) (b91 _) h).2; simp at this
    | ifs e' he' bd' el' hb' hl' => exact (own_not hn ifO (word_cut _ _ _ _ (name_parts hn).1 ifP (b40 _) (b32 _) h).1).elim
    | whl e' he' bd' hb' => exact (own_not hn whO (word_cut _ _ _ _ (name_parts hn).1 whP (b40 _) (b32 _) h).1).elim
    | «for» nm' hn' lo' hi' bd' hb' => exact (own_not hn foO (word_cut _ _ _ _ (name_parts hn).1 foP (b40 _) (b32 _) h).1).elim
    | call nm' hn' g' hg' =>
      obtain ⟨h1, h2⟩ := word_cut _ _ _ _ (name_parts hn).1 (name_parts hn').1 (b40 _) (b40 _) h
      simp only [List.cons.injEq, true_and] at h2
      obtain ⟨h3, _⟩ := args_cut hg hg' h2
      exact ⟨rfl, h1, rfl, rfl, rfl, h3, rfl, rfl⟩
    | calls n0 h0 ns hs nm' hn' g' hg' =>
      have h2 := (word_cut _ _ _ _ (name_parts hn).1 (name_parts h0).1 (b40 _) (tail_brk _ _ (by decide)) h).2
      cases ns with
      | nil => simp [joinTail_nil] at h2
      | cons n1 ns => simp [joinTail_cons] at h2
  | calls n0 h0 ns hs nm hn g hg =>
    cases hy with
    | set nm' hn' e' he' =>
      have h2 := (word_cut _ _ _ _ (name_parts h0).1 (name_parts hn').1 (tail_brk _ _ (by decide)) (b32 _) h).2
      cases ns with
      | nil =>
        simp only [joinTail_nil, List.nil_append, List.cons.injEq, true_and] at h2
        exact (set_calls (_e := []) he' hn h2.symm).elim
      | cons n1 ns => simp [joinTail_cons] at h2
    | put nm' hn' a' ha' e' he' =>
      have h2 := (word_cut _ _ _ _ (name_parts h0).1 (name_parts hn').1 (tail_brk _ _ (by decide)) (b91 _) h).2
      cases ns with
      | nil => simp [joinTail_nil] at h2
      | cons n1 ns => simp [joinTail_cons] at h2
    | ifs e' he' bd' el' hb' hl' => exact (own_not h0 ifO (word_cut _ _ _ _ (name_parts h0).1 ifP (tail_brk _ _ (by decide)) (b32 _) h).1).elim
    | whl e' he' bd' hb' => exact (own_not h0 whO (word_cut _ _ _ _ (name_parts h0).1 whP (tail_brk _ _ (by decide)) (b32 _) h).1).elim
    | «for» nm' hn' lo' hi' bd' hb' => exact (own_not h0 foO (word_cut _ _ _ _ (name_parts h0).1 foP (tail_brk _ _ (by decide)) (b32 _) h).1).elim
    | call nm' hn' g' hg' =>
      have h2 := (word_cut _ _ _ _ (name_parts h0).1 (name_parts hn').1 (tail_brk _ _ (by decide)) (b40 _) h).2
      cases ns with
      | nil => simp [joinTail_nil] at h2
      | cons n1 ns => simp [joinTail_cons] at h2
    | calls n0' h0' ns' hs' nm' hn' g' hg' =>
      obtain ⟨h1, h2⟩ := word_cut _ _ _ _ (name_parts h0).1 (name_parts h0').1 (tail_brk _ _ (by decide)) (tail_brk _ _ (by decide)) h
      obtain ⟨h3, h4⟩ := names_cut _ _ _ _ hs hs' h2
      simp only [List.cons.injEq, true_and] at h4
      obtain ⟨h5, h6⟩ := word_cut _ _ _ _ (name_parts hn).1 (name_parts hn').1 (b40 _) (b40 _) h4
      simp only [List.cons.injEq, true_and] at h6
      obtain ⟨h7, _⟩ := args_cut hg hg' h6
      exact ⟨rfl, h5, by simp only [St.names, h1, h3], rfl, rfl, h7, rfl, rfl⟩
theorem first_alike {x y : St} (hx : x.may = true) (hy : y.may = true) (h : x.first = y.first) : Alike x y := shs_alike (St.shape hx) (St.shape hy) h

/-- what stands behind statements begins with a shut brace -/
def Close (r : List (Nat × List UInt8)) : Prop := ∀ y s, r = y :: s → y.2.headD 0 = 125
theorem close_of {y : Nat × List UInt8} (s : List (Nat × List UInt8)) (h : y.2.headD 0 = 125) : Close (y :: s) := fun _ _ e => by cases e; exact h
theorem may_block {kd : Int} {nm : List UInt8} {ns : List (List UInt8)} {e a : Ex} {g : Exs} {lo hi : Nat} {bd el : Sts} (h : (St.mk kd nm ns e a g lo hi bd el).may = true) : bd.may = true ∧ el.may = true ∧ ((kd = 3 ∨ kd = 4 ∨ kd = 5) ∨ (bd = .nil ∧ el = .nil)) := by
  have := St.shape h
  generalize (St.mk kd nm ns e a g lo hi bd el).first = t at *
  cases this with
  | set => exact ⟨rfl, rfl, .inr ⟨rfl, rfl⟩⟩
  | put => exact ⟨rfl, rfl, .inr ⟨rfl, rfl⟩⟩
  | ifs e he bd el hb hl => exact ⟨hb, hl, .inl (.inl rfl)⟩
  | whl e he bd hb => exact ⟨hb, rfl, .inl (.inr (.inl rfl))⟩
  | «for» nm hn lo hi bd hb => exact ⟨hb, rfl, .inl (.inr (.inr rfl))⟩
  | call => exact ⟨rfl, rfl, .inr ⟨rfl, rfl⟩⟩
  | calls => exact ⟨rfl, rfl, .inr ⟨rfl, rfl⟩⟩
theorem Sts.cut : ∀ (n : Nat) (l m : Sts) (t : Nat) (r s : List (Nat × List UInt8)), l.size < n → l.may = true → m.may = true → Close r → Close s → l.lines t ++ r = m.lines t ++ s → l = m ∧ r = s
  | 0, _, _, _, _, _, h, _, _, _, _, _ => absurd h (Nat.not_lt_zero _)
  | n + 1, .nil, .nil, t, r, s, _, _, _, _, _, h => ⟨rfl, h⟩
  | n + 1, .nil, .cons y m, t, r, s, _, _, hm, hr, _, h => by
    rw [Sts.may, Bool.and_eq_true] at hm
    obtain ⟨kd, nm, ns, e, a, g, lo, hi, bd, el⟩ := y
    simp only [Sts.lines, St.lines, List.nil_append, List.cons_append, first_eq] at h
    exact absurd (hr _ _ h) (first_braced hm.1).2.1
  | n + 1, .cons x l, .nil, t, r, s, _, hl, _, _, hs, h => by
    rw [Sts.may, Bool.and_eq_true] at hl
    obtain ⟨kd, nm, ns, e, a, g, lo, hi, bd, el⟩ := x
    simp only [Sts.lines, St.lines, List.nil_append, List.cons_append, first_eq] at h
    exact absurd (hs _ _ h.symm) (first_braced hl.1).2.1
  | n + 1, .cons x l, .cons y m, t, r, s, hsz, hl, hm, hr, hs, h => by
    have ih := Sts.cut n
    rw [Sts.may, Bool.and_eq_true] at hl hm
    obtain ⟨hx, hl⟩ := hl
    obtain ⟨hy, hm⟩ := hm
    obtain ⟨kd, nm, ns, e, a, g, lo, hi, bd, el⟩ := x
    obtain ⟨kd', nm', ns', e', a', g', lo', hi', bd', el'⟩ := y
    simp only [Sts.lines, St.lines, List.cons_append, List.append_assoc, List.cons.injEq, Prod.mk.injEq, true_and, first_eq] at h
    obtain ⟨h1, h2⟩ := h
    have hA := first_alike hx hy h1
    have B1 := may_block hx
    have B2 := may_block hy
    simp only [Alike, St.kind, St.name, St.names, St.e, St.a, St.args, St.low, St.high] at hA
    obtain ⟨rfl, rfl, rfl, rfl, rfl, rfl, rfl, rfl⟩ := hA
    clear h1 hx hy
    simp only [Sts.size, St.size] at hsz
    by_cases hk : kd = 3 ∨ kd = 4 ∨ kd = 5
    · rw [if_pos hk, if_pos hk] at h2
      simp only [List.append_assoc] at h2
      have hc : ∀ (z : Sts) (q : List (Nat × List UInt8)), Close ((if z.len = 0 then [] else (t, elseT) :: z.lines (t + 1)) ++ ([(t, [125])] ++ q)) := fun z q => by
        split
        · exact close_of _ rfl
        · exact close_of _ rfl
      obtain ⟨h3, h4⟩ := ih bd bd' (t + 1) _ _ (by omega) B1.1 B2.1 (hc _ _) (hc _ _) h2
      subst h3
      have hEl : el = el' ∧ l.lines t ++ r = m.lines t ++ s := by
        by_cases z1 : el.len = 0
        · by_cases z2 : el'.len = 0
          · rw [if_pos z1, if_pos z2] at h4
            simp only [List.nil_append, List.cons_append, List.cons.injEq, true_and] at h4
            exact ⟨by rw [Sts.len_zero z1, Sts.len_zero z2], h4⟩
          · rw [if_pos z1, if_neg z2] at h4
            simp [elseT] at h4
        · by_cases z2 : el'.len = 0
          · rw [if_neg z1, if_pos z2] at h4
            simp [elseT] at h4
          · rw [if_neg z1, if_neg z2] at h4
            simp only [List.cons_append, List.cons.injEq, true_and] at h4
            obtain ⟨h5, h6⟩ := ih el el' (t + 1) _ _ (by omega) B1.2.1 B2.2.1 (close_of _ rfl) (close_of _ rfl) h4
            simp only [List.nil_append, List.cons.injEq, true_and] at h6
            exact ⟨h5, h6⟩
      obtain ⟨h5, h6⟩ := hEl
      obtain ⟨h7, h8⟩ := ih l m t r s (by omega) hl hm hr hs h6
      exact ⟨by rw [h5, h7], h8⟩
    · rw [if_neg hk, if_neg hk] at h2
      simp only [List.nil_append] at h2
      obtain ⟨h7, h8⟩ := ih l m t r s (by omega) hl hm hr hs h2
      obtain ⟨b1, l1⟩ := B1.2.2.resolve_left hk
      obtain ⟨b2, l2⟩ := B2.2.2.resolve_left hk
      exact ⟨by rw [b1, l1, b2, l2, h7], h8⟩
end Go.Proofs.YtkjhofnkgcjcoaaDoor
