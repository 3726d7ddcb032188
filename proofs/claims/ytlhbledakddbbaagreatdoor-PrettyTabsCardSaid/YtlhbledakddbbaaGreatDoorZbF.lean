/- I1, I2, G3, J1, K1 as one. -/
import Derived.Laws.Cover1
import Derived.Laws.CopyRow
import Derived.Laws.Concat
import Derived.Test.YtlhbledakddbbaaGreatDoorZbE
/- Unlike expressions have unlike texts, whatever stands behind them. -/
namespace Go.Proofs.YtlhbledakddbbaaGreatDoor
open Go.RowKit

/-- how a text goes on behind an expression: not with a sign of a word, nor [ nor ( -/
def Stop (r : List UInt8) : Prop := ∀ c s, r = c :: s → isPart c = false ∧ c ≠ 91 ∧ c ≠ 40
theorem stop_of {c : UInt8} (s : List UInt8) (h : isPart c = false) (h1 : c ≠ 91) (h2 : c ≠ 40) : Stop (c :: s) := fun _ _ e => by cases e; exact ⟨h, h1, h2⟩
def Brk (r : List UInt8) : Prop := ∀ c s, r = c :: s → isPart c = false
theorem brk_of {c : UInt8} (s : List UInt8) (h : isPart c = false) : Brk (c :: s) := fun _ _ e => by cases e; exact h
theorem Stop.brk {r : List UInt8} (h : Stop r) : Brk r := fun c s e => (h c s e).1
/-- a word, and what stands behind it -/
theorem word_cut : ∀ (a b r s : List UInt8), a.all isPart = true → b.all isPart = true → Brk r → Brk s → a ++ r = b ++ s → a = b ∧ r = s
  | [], [], _, _, _, _, _, _, h => ⟨rfl, h⟩
  | [], y :: b, r, s, _, hb, hr, _, h => by
    simp only [List.nil_append, List.cons_append] at h
    simp only [List.all_cons, Bool.and_eq_true] at hb
    rw [hr _ _ h] at hb; cases hb.1
  | x :: a, [], r, s, ha, _, _, hs, h => by
    simp only [List.nil_append, List.cons_append] at h
    simp only [List.all_cons, Bool.and_eq_true] at ha
    rw [hs _ _ h.symm] at ha; cases ha.1
  | x :: a, y :: b, r, s, ha, hb, hr, hs, h => by
    simp only [List.cons_append, List.cons.injEq] at h
    simp only [List.all_cons, Bool.and_eq_true] at ha hb
    obtain ⟨hE, hF⟩ := h; subst hE; have h := hF; clear hF
    obtain ⟨hE, hF⟩ := word_cut a b r s ha.2 hb.2 hr hs h; clear h; subst hE; have h := hF; clear hF
    exact ⟨rfl, h⟩
theorem name_parts {nm : List UInt8} (h : nameB nm = true) : nm.all isPart = true ∧ (∃ c s, nm = c :: s ∧ isLet c = true) ∧ ownB nm = false := by
  cases nm with
  | nil => exact absurd h (by decide)
  | cons c s =>
    simp only [nameB, Bool.and_eq_true, Bool.not_eq_true'] at h
    exact ⟨h.2, ⟨c, s, rfl, h.1.1.2⟩, h.1.2⟩
theorem digit_ofNat {k : Nat} (h : k < 10) : isDig (UInt8.ofNat (48 + k)) = true := by
  rcases k with _ | _ | _ | _ | _ | _ | _ | _ | _ | _ | k
  all_goals first | rfl | omega
theorem dig_part {c : UInt8} (h : isDig c = true) : isPart c = true := by simp [isPart, h]
theorem dec_digits : ∀ (n x : Nat), x < n → (Lib.decDigits x).all isDig = true ∧ Lib.decDigits x ≠ []
  | 0, _, h => absurd h (Nat.not_lt_zero _)
  | n + 1, x, h => by
    rw [Lib.decDigits]
    split
    · rename_i h1
      exact ⟨by rw [List.all_cons, digit_ofNat h1]; rfl, by simp⟩
    · rename_i h1
      have := dec_digits n (x / 10) (by omega)
      exact ⟨by rw [List.all_append, this.1, List.all_cons, digit_ofNat (Nat.mod_lt x (by omega : 10 > 0))]; rfl, by simp⟩
theorem all_part_of_dig {l : List UInt8} (h : l.all isDig = true) : l.all isPart = true := by
  rw [List.all_eq_true] at h ⊢
  exact fun c hc => dig_part (h c hc)
theorem dec_parts (x : Nat) : (Lib.decDigits x).all isPart = true ∧ ∃ c s, Lib.decDigits x = c :: s ∧ isDig c = true := by
  have h := dec_digits (x + 1) x (Nat.lt_succ_self x)
  refine ⟨all_part_of_dig h.1, ?_⟩
  cases hd : Lib.decDigits x with
  | nil => exact absurd hd h.2
  | cons c s =>
    rw [hd, List.all_cons, Bool.and_eq_true] at h
    exact ⟨c, s, rfl, h.1.1⟩
theorem dec_inj : ∀ (n x y : Nat), x < n → Lib.decDigits x = Lib.decDigits y → x = y
  | 0, _, _, h, _ => absurd h (Nat.not_lt_zero _)
  | n + 1, x, y, h, e => by
    have last : ∀ {a b : List UInt8} {c d : UInt8}, a ++ [c] = b ++ [d] → a = b ∧ c = d := fun h => by
      have := List.append_inj' h rfl
      exact ⟨this.1, by simpa using this.2⟩
    have ofn : ∀ {a b : Nat}, a < 10 → b < 10 → UInt8.ofNat (48 + a) = UInt8.ofNat (48 + b) → a = b := fun ha hb h => by
      have := congrArg UInt8.toNat h
      simp only [UInt8.toNat_ofNat'] at this
      omega
    by_cases hx : x < 10
    · by_cases hy : y < 10
      · rw [Lib.decDigits, dif_pos hx, Lib.decDigits, dif_pos hy] at e
        exact ofn hx hy (by simpa using e)
      · rw [Lib.decDigits, dif_pos hx] at e
        conv at e => rhs; rw [Lib.decDigits, dif_neg hy]
        have := last (a := []) e
        exact absurd this.1.symm (dec_digits (y / 10 + 1) _ (Nat.lt_succ_self _)).2
    · by_cases hy : y < 10
      · rw [Lib.decDigits, dif_neg hx] at e
        conv at e => rhs; rw [Lib.decDigits, dif_pos hy]
        have := last (b := []) e
        exact absurd this.1 (dec_digits (x / 10 + 1) _ (Nat.lt_succ_self _)).2
      · rw [Lib.decDigits, dif_neg hx] at e
        conv at e => rhs; rw [Lib.decDigits, dif_neg hy]
        have h2 := last e
        have h3 := dec_inj n (x / 10) (y / 10) (by omega) h2.1
        have h4 := ofn (Nat.mod_lt x (by omega : 10 > 0)) (Nat.mod_lt y (by omega : 10 > 0)) h2.2
        omega
theorem dec_cut {x y : Nat} {r s : List UInt8} (hr : Brk r) (hs : Brk s) (h : Lib.decDigits x ++ r = Lib.decDigits y ++ s) : x = y ∧ r = s := by
  have := word_cut _ _ _ _ (dec_parts x).1 (dec_parts y).1 hr hs h
  exact ⟨dec_inj _ x y (Nat.lt_succ_self x) this.1, this.2⟩
theorem let_not_dig {c : UInt8} (h : isLet c = true) (k : isDig c = true) : False := by
  simp only [isLet, isDig, Bool.and_eq_true, decide_eq_true_eq] at h k; omega
theorem let_ne {c : UInt8} (h : isLet c = true) : c ≠ 126 ∧ c ≠ 45 ∧ c ≠ 40 ∧ c ≠ 41 ∧ c ≠ 125 ∧ c ≠ 9 ∧ c ≠ 10 ∧ c ≠ 32 := by
  refine ⟨?_, ?_, ?_, ?_, ?_, ?_, ?_, ?_⟩ <;> (intro e; subst e; revert h; decide)
theorem dig_ne {c : UInt8} (h : isDig c = true) : c ≠ 126 ∧ c ≠ 45 ∧ c ≠ 40 ∧ c ≠ 41 ∧ c ≠ 125 ∧ c ≠ 9 ∧ c ≠ 10 ∧ c ≠ 32 := by
  refine ⟨?_, ?_, ?_, ?_, ?_, ?_, ?_, ?_⟩ <;> (intro e; subst e; revert h; decide)
/-- signs have no blank, and no two have one text -/
theorem sign_cut {o p : Int} (h1 : 6 ≤ o) (h2 : o ≤ 20) (h3 : 6 ≤ p) (h4 : p ≤ 20) {r s : List UInt8} (h : signOf o ++ 32 :: r = signOf p ++ 32 :: s) : o = p ∧ r = s := by
  have hc : ∀ (a b r s : List UInt8), (∀ c ∈ a, c ≠ 32) → (∀ c ∈ b, c ≠ 32) → a ++ 32 :: r = b ++ 32 :: s → a = b ∧ r = s := by
    intro a
    induction a with
    | nil =>
      intro b r s _ hb h
      cases b with
      | nil => simp only [List.nil_append, List.cons.injEq, true_and] at h; exact ⟨rfl, h⟩
      | cons y b => simp only [List.nil_append, List.cons_append, List.cons.injEq] at h; exact absurd h.1.symm (hb y (by simp))
    | cons x a ih =>
      intro b r s ha hb h
      cases b with
      | nil => simp only [List.nil_append, List.cons_append, List.cons.injEq] at h; exact absurd h.1 (ha x (by simp))
      | cons y b =>
        simp only [List.cons_append, List.cons.injEq] at h
        obtain ⟨hE, hF⟩ := h; subst hE; have h := hF; clear hF
        obtain ⟨hE, hF⟩ := ih b r s (fun c hc => ha c (by simp [hc])) (fun c hc => hb c (by simp [hc])) h; clear h; subst hE; have h := hF; clear hF
        exact ⟨rfl, h⟩
  have all : ∀ (o : Int), 6 ≤ o → o ≤ 20 → ∀ c ∈ signOf o, c ≠ 32 := fun o h1 h2 => by
    rcases fifteen h1 h2 with rfl | rfl | rfl | rfl | rfl | rfl | rfl | rfl | rfl | rfl | rfl | rfl | rfl | rfl | rfl <;> decide
  obtain ⟨h5, h6⟩ := hc _ _ _ _ (all o h1 h2) (all p h3 h4) h
  refine ⟨?_, h6⟩
  rcases fifteen h1 h2 with rfl | rfl | rfl | rfl | rfl | rfl | rfl | rfl | rfl | rfl | rfl | rfl | rfl | rfl | rfl <;>
    rcases fifteen h3 h4 with rfl | rfl | rfl | rfl | rfl | rfl | rfl | rfl | rfl | rfl | rfl | rfl | rfl | rfl | rfl <;>
    first | rfl | (revert h5; decide)

/-- the forms of expressions that can be told -/
inductive Sh : Ex → List UInt8 → Prop where
  | const (wd : Nat) : Sh (.mk 1 wd [] .nil) (Lib.decDigits wd)
  | var (nm : List UInt8) (h : nameB nm = true) : Sh (.mk 2 0 nm .nil) nm
  | index (nm : List UInt8) (h : nameB nm = true) (y : Ex) (hy : y.may = true) : Sh (.mk 3 0 nm (.cons y .nil)) (nm ++ 91 :: (y.text ++ [93]))
  | not (y : Ex) (hy : y.may = true) : Sh (.mk 4 0 [] (.cons y .nil)) (126 :: y.text)
  | neg (y : Ex) (hy : y.may = true) : Sh (.mk 5 0 [] (.cons y .nil)) (45 :: y.text)
  | pick (x y z : Ex) (hx : x.may = true) (hy : y.may = true) (hz : z.may = true) : Sh (.mk 21 0 [] (.cons x (.cons y (.cons z .nil)))) ([112, 105, 99, 107] ++ 40 :: (x.text ++ 44 :: 32 :: (y.text ++ 44 :: 32 :: (z.text ++ [41]))))
  | two (op : Int) (h1 : 6 ≤ op) (h2 : op ≤ 20) (x y : Ex) (hx : x.may = true) (hy : y.may = true) : Sh (.mk op 0 [] (.cons x (.cons y .nil))) (40 :: (x.text ++ 32 :: (signOf op ++ 32 :: (y.text ++ [41]))))
theorem Exs.len_zero {a : Exs} (h : a.len = 0) : a = .nil := by cases a with | nil => rfl | cons => simp [Exs.len] at h
theorem Exs.three {l : Exs} (h : l.len = 3) : ∃ x y z, l = .cons x (.cons y (.cons z .nil)) := by
  cases l with
  | nil => cases h
  | cons x l => obtain ⟨y, z, rfl⟩ := Exs.two (l := l) (by simp only [Exs.len] at h; omega); exact ⟨x, y, z, rfl⟩
theorem empty_nil {l : List UInt8} (h : l.isEmpty = true) : l = [] := by cases l with | nil => rfl | cons => cases h
theorem Ex.shape {x : Ex} (h : x.may = true) : Sh x x.text := by
  obtain ⟨op, wd, nm, ar⟩ := x
  rw [Ex.may, Bool.and_eq_true, Bool.and_eq_true, decide_eq_true_eq] at h
  obtain ⟨⟨hlen, hma⟩, hok⟩ := h
  have hop : op ≤ 0 ∨ 22 ≤ op ∨ op = 1 ∨ op = 2 ∨ op = 3 ∨ op = 4 ∨ op = 5 ∨ op = 21 ∨ (6 ≤ op ∧ op ≤ 20) := by omega
  rcases hop with h | h | rfl | rfl | rfl | rfl | rfl | rfl | ⟨h6, h20⟩
  · rw [okOp, if_neg (by omega), if_neg (by omega), if_neg (by omega)] at hok; cases hok
  · rw [okOp, if_neg (by omega), if_neg (by omega), if_neg (by omega)] at hok; cases hok
  · obtain rfl := Exs.len_zero hlen
    rw [okOp, if_pos rfl] at hok
    obtain rfl := empty_nil hok
    exact Sh.const wd
  · obtain rfl := Exs.len_zero hlen
    rw [okOp, if_neg (by decide), if_pos (by decide), Bool.and_eq_true, decide_eq_true_eq] at hok
    obtain ⟨rfl, hn⟩ := hok
    exact Sh.var nm hn
  · obtain ⟨y, rfl⟩ := Exs.one hlen
    rw [okOp, if_neg (by decide), if_pos (by decide), Bool.and_eq_true, decide_eq_true_eq] at hok
    obtain ⟨rfl, hn⟩ := hok
    rw [Exs.may, Bool.and_eq_true] at hma
    have := Sh.index nm hn y hma.1
    rw [show (Ex.mk 3 0 nm (.cons y .nil)).text = nm ++ 91 :: (y.text ++ [93]) by simp [Ex.text, textOf, Exs.texts]]
    exact this
  · obtain ⟨y, rfl⟩ := Exs.one hlen
    rw [okOp, if_neg (by decide), if_neg (by decide), if_pos (by decide), Bool.and_eq_true, decide_eq_true_eq] at hok
    obtain ⟨rfl, hn⟩ := hok
    obtain rfl := empty_nil hn
    rw [Exs.may, Bool.and_eq_true] at hma
    rw [show (Ex.mk 4 0 [] (.cons y .nil)).text = 126 :: y.text by simp [Ex.text, textOf, Exs.texts]]
    exact Sh.not y hma.1
  · obtain ⟨y, rfl⟩ := Exs.one hlen
    rw [okOp, if_neg (by decide), if_neg (by decide), if_pos (by decide), Bool.and_eq_true, decide_eq_true_eq] at hok
    obtain ⟨rfl, hn⟩ := hok
    obtain rfl := empty_nil hn
    rw [Exs.may, Bool.and_eq_true] at hma
    rw [show (Ex.mk 5 0 [] (.cons y .nil)).text = 45 :: y.text by simp [Ex.text, textOf, Exs.texts]]
    exact Sh.neg y hma.1
  · obtain ⟨x, y, z, rfl⟩ := Exs.three hlen
    rw [okOp, if_neg (by decide), if_neg (by decide), if_pos (by decide), Bool.and_eq_true, decide_eq_true_eq] at hok
    obtain ⟨rfl, hn⟩ := hok
    obtain rfl := empty_nil hn
    simp only [Exs.may, Bool.and_eq_true] at hma
    rw [show (Ex.mk 21 0 [] (.cons x (.cons y (.cons z .nil)))).text = [112, 105, 99, 107] ++ 40 :: (x.text ++ 44 :: 32 :: (y.text ++ 44 :: 32 :: (z.text ++ [41]))) by
      simp [Ex.text, textOf, Exs.texts, Lib.join_cons, Lib.joinTail]]
    exact Sh.pick x y z hma.1 hma.2.1 hma.2.2.1
  · have hl2 : ar.len = 2 := by rw [hlen, argsN, if_neg (by omega), if_pos ⟨h6, h20⟩]
    obtain ⟨x, y, rfl⟩ := Exs.two hl2
    rw [okOp, if_neg (by omega), if_neg (by omega), if_pos (by omega), Bool.and_eq_true, decide_eq_true_eq] at hok
    obtain ⟨rfl, hn⟩ := hok
    obtain rfl := empty_nil hn
    simp only [Exs.may, Bool.and_eq_true] at hma
    rw [show (Ex.mk op 0 [] (.cons x (.cons y .nil))).text = 40 :: (x.text ++ 32 :: (signOf op ++ 32 :: (y.text ++ [41]))) by
      rw [Ex.text, textOf, if_neg (by omega), if_neg (by omega), if_neg (by omega), if_neg (by omega), if_neg (by omega), if_neg (by omega)]; simp [Exs.texts]]
    exact Sh.two op h6 h20 x y hma.1 hma.2.1
theorem pick_own : ownB [112, 105, 99, 107] = true := by decide
/-- how an expression's text begins -/
theorem Sh.head {x : Ex} {t : List UInt8} (h : Sh x t) : ∃ c s, t = c :: s ∧ c ≠ 41 ∧ c ≠ 125 ∧ c ≠ 9 := by
  cases h with
  | const wd => obtain ⟨_, c, s, e, hd⟩ := dec_parts wd; rw [e]; exact ⟨c, s, rfl, (dig_ne hd).2.2.2.1, (dig_ne hd).2.2.2.2.1, (dig_ne hd).2.2.2.2.2.1⟩
  | var nm h => obtain ⟨_, ⟨c, s, rfl, hd⟩, _⟩ := name_parts h; exact ⟨c, s, rfl, (let_ne hd).2.2.2.1, (let_ne hd).2.2.2.2.1, (let_ne hd).2.2.2.2.2.1⟩
  | index nm h y hy => obtain ⟨_, ⟨c, s, rfl, hd⟩, _⟩ := name_parts h; exact ⟨c, _, rfl, (let_ne hd).2.2.2.1, (let_ne hd).2.2.2.2.1, (let_ne hd).2.2.2.2.2.1⟩
  | not y hy => exact ⟨_, _, rfl, by decide, by decide, by decide⟩
  | neg y hy => exact ⟨_, _, rfl, by decide, by decide, by decide⟩
  | pick x y z hx hy hz => exact ⟨_, _, rfl, by decide, by decide, by decide⟩
  | two op h1 h2 x y hx hy => exact ⟨_, _, rfl, by decide, by decide, by decide⟩
theorem s93 (r : List UInt8) : Stop (93 :: r) := stop_of r (by decide) (by decide) (by decide)
theorem s44 (r : List UInt8) : Stop (44 :: r) := stop_of r (by decide) (by decide) (by decide)
theorem s41 (r : List UInt8) : Stop (41 :: r) := stop_of r (by decide) (by decide) (by decide)
theorem s32 (r : List UInt8) : Stop (32 :: r) := stop_of r (by decide) (by decide) (by decide)
theorem s59 (r : List UInt8) : Stop (59 :: r) := stop_of r (by decide) (by decide) (by decide)
theorem b91 (r : List UInt8) : Brk (91 :: r) := brk_of r (by decide)
theorem b40 (r : List UInt8) : Brk (40 :: r) := brk_of r (by decide)
theorem b32 (r : List UInt8) : Brk (32 :: r) := brk_of r (by decide)
theorem b44 (r : List UInt8) : Brk (44 :: r) := brk_of r (by decide)
theorem pick_parts : ([112, 105, 99, 107] : List UInt8).all isPart = true := by decide
theorem not_pick {nm : List UInt8} (h : nameB nm = true) (e : nm = [112, 105, 99, 107]) : False := by
  have := (name_parts h).2.2; rw [e, pick_own] at this; cases this
theorem let_dig_no {nm r s : List UInt8} {n : Nat} (h : nameB nm = true) (e : nm ++ r = Lib.decDigits n ++ s) : False := by
  obtain ⟨_, ⟨c, s1, rfl, hd⟩, _⟩ := name_parts h
  obtain ⟨_, c2, s2, e2, hd2⟩ := dec_parts n
  rw [e2] at e; simp only [List.cons_append, List.cons.injEq] at e
  obtain ⟨rfl, _⟩ := e
  exact let_not_dig hd hd2
theorem let_sign_no {nm r s : List UInt8} {c : UInt8} (h : nameB nm = true) (hc : c = 126 ∨ c = 45 ∨ c = 40) (e : nm ++ r = c :: s) : False := by
  obtain ⟨_, ⟨d, s1, rfl, hd⟩, _⟩ := name_parts h
  simp only [List.cons_append, List.cons.injEq] at e
  obtain ⟨rfl, _⟩ := e
  have := let_ne hd
  rcases hc with rfl | rfl | rfl
  · exact this.1 rfl
  · exact this.2.1 rfl
  · exact this.2.2.1 rfl
theorem dig_sign_no {r s : List UInt8} {c : UInt8} {n : Nat} (hc : c = 126 ∨ c = 45 ∨ c = 40 ∨ c = 112) (e : Lib.decDigits n ++ r = c :: s) : False := by
  obtain ⟨_, d, s2, e2, hd⟩ := dec_parts n
  rw [e2] at e
  simp only [List.cons_append, List.cons.injEq] at e
  obtain ⟨rfl, _⟩ := e
  have := dig_ne hd
  rcases hc with rfl | rfl | rfl | rfl
  · exact this.1 rfl
  · exact this.2.1 rfl
  · exact this.2.2.1 rfl
  · revert hd; decide
/-- unlike expressions have unlike texts, whatever stands behind them -/
theorem Ex.cut : ∀ (n : Nat) (x y : Ex) (r s : List UInt8), x.size < n → x.may = true → y.may = true → Stop r → Stop s → x.text ++ r = y.text ++ s → x = y ∧ r = s
  | 0, _, _, _, _, h, _, _, _, _, _ => absurd h (Nat.not_lt_zero _)
  | n + 1, x, y, r, s, hsz, hx, hy, hr, hs, h => by
    have ih := Ex.cut n
    have Hx := Ex.shape hx
    have Hy := Ex.shape hy
    clear hx hy
    generalize x.text = t at *
    generalize y.text = u at *
    cases Hx with
    | const wd =>
      cases Hy with
      | const wd' =>
        obtain ⟨hE, hF⟩ := dec_cut hr.brk hs.brk h; clear h; subst hE; have h := hF; clear hF
        exact ⟨rfl, h⟩
      | var nm hn => exact (let_dig_no hn h.symm).elim
      | index nm hn y hy => rw [List.append_assoc] at h; exact (let_dig_no hn h.symm).elim
      | not y hy => exact (dig_sign_no (.inl rfl) h).elim
      | neg y hy => exact (dig_sign_no (.inr (.inl rfl)) h).elim
      | pick x y z hx hy hz => exact (dig_sign_no (.inr (.inr (.inr rfl))) h).elim
      | two op h1 h2 x y hx hy => exact (dig_sign_no (.inr (.inr (.inl rfl))) h).elim
    | var nm hn =>
      cases Hy with
      | const wd' => exact (let_dig_no hn h).elim
      | var nm' hn' =>
        obtain ⟨hE, hF⟩ := word_cut _ _ _ _ (name_parts hn).1 (name_parts hn').1 hr.brk hs.brk h; clear h; subst hE; have h := hF; clear hF
        exact ⟨rfl, h⟩
      | index nm' hn' y hy =>
        rw [List.append_assoc] at h
        obtain ⟨hE, hF⟩ := word_cut _ _ _ _ (name_parts hn).1 (name_parts hn').1 hr.brk (b91 _) h; clear h; subst hE; have h := hF; clear hF
        exact absurd rfl (hr _ _ h).2.1
      | not y hy => exact (let_sign_no hn (.inl rfl) h).elim
      | neg y hy => exact (let_sign_no hn (.inr (.inl rfl)) h).elim
      | pick x y z hx hy hz =>
        rw [List.append_assoc] at h
        exact (not_pick hn (word_cut _ _ _ _ (name_parts hn).1 pick_parts hr.brk (b40 _) h).1).elim
      | two op h1 h2 x y hx hy => exact (let_sign_no hn (.inr (.inr rfl)) h).elim
    | index nm hn x hx =>
      rw [List.append_assoc] at h
      cases Hy with
      | const wd' => exact (let_dig_no hn h).elim
      | var nm' hn' =>
        obtain ⟨hE, hF⟩ := word_cut _ _ _ _ (name_parts hn).1 (name_parts hn').1 (b91 _) hs.brk h; clear h; subst hE; have h := hF; clear hF
        exact absurd rfl (hs _ _ h.symm).2.1
      | index nm' hn' y hy =>
        simp only [List.cons_append, List.append_assoc, List.nil_append] at h
        obtain ⟨hE, hF⟩ := word_cut _ _ _ _ (name_parts hn).1 (name_parts hn').1 (b91 _) (b91 _) h; clear h; subst hE; have h := hF; clear hF
        simp only [List.cons.injEq, true_and] at h
        obtain ⟨hE, hF⟩ := ih x y _ _ (by simp only [Ex.size, Exs.size] at hsz; omega) hx hy (s93 _) (s93 _) h; clear h; subst hE; have h := hF; clear hF
        simp only [List.cons.injEq, true_and] at h
        exact ⟨rfl, h⟩
      | not y hy => exact (let_sign_no hn (.inl rfl) h).elim
      | neg y hy => exact (let_sign_no hn (.inr (.inl rfl)) h).elim
      | pick x y z hx hy hz =>
        rw [List.append_assoc] at h
        exact (not_pick hn (word_cut _ _ _ _ (name_parts hn).1 pick_parts (b91 _) (b40 _) h).1).elim
      | two op h1 h2 x y hx hy => exact (let_sign_no hn (.inr (.inr rfl)) h).elim
    | not x hx =>
      cases Hy with
      | const wd' => exact (dig_sign_no (.inl rfl) h.symm).elim
      | var nm' hn' => exact (let_sign_no hn' (.inl rfl) h.symm).elim
      | index nm' hn' y hy => rw [List.append_assoc] at h; exact (let_sign_no hn' (.inl rfl) h.symm).elim
      | not y hy =>
        simp only [List.cons_append, List.cons.injEq, true_and] at h
        obtain ⟨hE, hF⟩ := ih x y _ _ (by simp only [Ex.size, Exs.size] at hsz; omega) hx hy hr hs h; clear h; subst hE; have h := hF; clear hF
        exact ⟨rfl, h⟩
      | neg y hy => simp at h
      | pick x y z hx hy hz => simp at h
      | two op h1 h2 x y hx hy => simp at h
    | neg x hx =>
      cases Hy with
      | const wd' => exact (dig_sign_no (.inr (.inl rfl)) h.symm).elim
      | var nm' hn' => exact (let_sign_no hn' (.inr (.inl rfl)) h.symm).elim
      | index nm' hn' y hy => rw [List.append_assoc] at h; exact (let_sign_no hn' (.inr (.inl rfl)) h.symm).elim
      | not y hy => simp at h
      | neg y hy =>
        simp only [List.cons_append, List.cons.injEq, true_and] at h
        obtain ⟨hE, hF⟩ := ih x y _ _ (by simp only [Ex.size, Exs.size] at hsz; omega) hx hy hr hs h; clear h; subst hE; have h := hF; clear hF
        exact ⟨rfl, h⟩
      | pick x y z hx hy hz => simp at h
      | two op h1 h2 x y hx hy => simp at h
    | pick x1 x2 x3 hx1 hx2 hx3 =>
      cases Hy with
      | const wd' => exact (dig_sign_no (.inr (.inr (.inr rfl))) h.symm).elim
      | var nm' hn' =>
        rw [List.append_assoc] at h
        exact (not_pick hn' (word_cut _ _ _ _ pick_parts (name_parts hn').1 (b40 _) hs.brk h).1.symm).elim
      | index nm' hn' y hy =>
        rw [List.append_assoc, List.append_assoc] at h
        exact (not_pick hn' (word_cut _ _ _ _ pick_parts (name_parts hn').1 (b40 _) (b91 _) h).1.symm).elim
      | not y hy => simp at h
      | neg y hy => simp at h
      | pick y1 y2 y3 hy1 hy2 hy3 =>
        rw [List.append_assoc, List.append_assoc] at h
        simp only [List.cons_append, List.append_assoc, List.nil_append] at h
        simp only [List.cons.injEq, true_and] at h
        obtain ⟨hE, hF⟩ := ih x1 y1 _ _ (by simp only [Ex.size, Exs.size] at hsz; omega) hx1 hy1 (s44 _) (s44 _) h; clear h; subst hE; have h := hF; clear hF
        simp only [List.cons.injEq, true_and] at h
        obtain ⟨hE, hF⟩ := ih x2 y2 _ _ (by simp only [Ex.size, Exs.size] at hsz; omega) hx2 hy2 (s44 _) (s44 _) h; clear h; subst hE; have h := hF; clear hF
        simp only [List.cons.injEq, true_and] at h
        obtain ⟨hE, hF⟩ := ih x3 y3 _ _ (by simp only [Ex.size, Exs.size] at hsz; omega) hx3 hy3 (s41 _) (s41 _) h; clear h; subst hE; have h := hF; clear hF
        simp only [List.cons.injEq, true_and] at h
        exact ⟨rfl, h⟩
      | two op h1 h2 x y hx hy => simp at h
    | two op h1 h2 x1 x2 hx1 hx2 =>
      cases Hy with
      | const wd' => exact (dig_sign_no (.inr (.inr (.inl rfl))) h.symm).elim
      | var nm' hn' => exact (let_sign_no hn' (.inr (.inr rfl)) h.symm).elim
      | index nm' hn' y hy => rw [List.append_assoc] at h; exact (let_sign_no hn' (.inr (.inr rfl)) h.symm).elim
      | not y hy => simp at h
      | neg y hy => simp at h
      | pick y1 y2 y3 hy1 hy2 hy3 => simp at h
      | two op' h1' h2' y1 y2 hy1 hy2 =>
        simp only [List.cons_append, List.cons.injEq, true_and, List.append_assoc, List.nil_append] at h
        obtain ⟨hE, hF⟩ := ih x1 y1 _ _ (by simp only [Ex.size, Exs.size] at hsz; omega) hx1 hy1 (s32 _) (s32 _) h; clear h; subst hE; have h := hF; clear hF
        simp only [List.cons.injEq, true_and] at h
        obtain ⟨hE, hF⟩ := sign_cut h1 h2 h1' h2' h; clear h; subst hE; have h := hF; clear hF
        obtain ⟨hE, hF⟩ := ih x2 y2 _ _ (by simp only [Ex.size, Exs.size] at hsz; omega) hx2 hy2 (s41 _) (s41 _) h; clear h; subst hE; have h := hF; clear hF
        simp only [List.cons.injEq, true_and] at h
        exact ⟨rfl, h⟩
theorem ex_cut {x y : Ex} {r s : List UInt8} (hx : x.may = true) (hy : y.may = true) (hr : Stop r) (hs : Stop s) (h : x.text ++ r = y.text ++ s) : x = y ∧ r = s :=
  Ex.cut _ x y r s (Nat.lt_succ_self _) hx hy hr hs h
end Go.Proofs.YtlhbledakddbbaaGreatDoor
/- Unlike programs that can be told have unlike lines and unlike texts. -/
namespace Go.Proofs.YtlhbledakddbbaaGreatDoor
open Go.RowKit

theorem joinTail_cons (x : List UInt8) (r : List (List UInt8)) : Lib.joinTail [44, 32] (x :: r) = 44 :: 32 :: (x ++ Lib.joinTail [44, 32] r) := by simp [Lib.joinTail]
theorem joinTail_nil : Lib.joinTail [44, 32] [] = [] := rfl
theorem tail_stop (ts : List (List UInt8)) {c : UInt8} (s : List UInt8) (h : Stop (c :: s)) : Stop (Lib.joinTail [44, 32] ts ++ c :: s) := by
  cases ts with
  | nil => exact h
  | cons x r => rw [joinTail_cons]; exact s44 _
theorem argsTail_cut : ∀ (a b : Exs) (r s : List UInt8), a.may = true → b.may = true → Lib.joinTail [44, 32] a.texts ++ 41 :: r = Lib.joinTail [44, 32] b.texts ++ 41 :: s → a = b ∧ r = s
  | .nil, .nil, r, s, _, _, h => by simp only [Exs.texts, joinTail_nil, List.nil_append, List.cons.injEq, true_and] at h; exact ⟨rfl, h⟩
  | .nil, .cons y b, r, s, _, _, h => by simp [Exs.texts, joinTail_nil, joinTail_cons] at h
  | .cons x a, .nil, r, s, _, _, h => by simp [Exs.texts, joinTail_nil, joinTail_cons] at h
  | .cons x a, .cons y b, r, s, ha, hb, h => by
    simp only [Exs.texts, joinTail_cons, List.cons_append, List.append_assoc, List.cons.injEq, true_and] at h
    rw [Exs.may, Bool.and_eq_true] at ha hb
    obtain ⟨h1, h2⟩ := ex_cut ha.1 hb.1 (tail_stop _ _ (s41 _)) (tail_stop _ _ (s41 _)) h
    obtain ⟨h3, h4⟩ := argsTail_cut a b r s ha.2 hb.2 h2
    exact ⟨by rw [h1, h3], h4⟩
theorem args_cut {a b : Exs} {r s : List UInt8} (ha : a.may = true) (hb : b.may = true) (h : Lib.join a.texts [44, 32] ++ 41 :: r = Lib.join b.texts [44, 32] ++ 41 :: s) : a = b ∧ r = s := by
  cases a with
  | nil =>
    cases b with
    | nil => simp only [Exs.texts, Lib.join_nil, List.nil_append, List.cons.injEq, true_and] at h; exact ⟨rfl, h⟩
    | cons y b =>
      rw [Exs.may, Bool.and_eq_true] at hb
      obtain ⟨c, t, e, hc, _⟩ := (Ex.shape hb.1).head
      simp only [Exs.texts, Lib.join_nil, Lib.join_cons, e, List.nil_append, List.cons_append, List.cons.injEq] at h
      exact absurd h.1.symm hc
  | cons x a =>
    rw [Exs.may, Bool.and_eq_true] at ha
    cases b with
    | nil =>
      obtain ⟨c, t, e, hc, _⟩ := (Ex.shape ha.1).head
      simp only [Exs.texts, Lib.join_nil, Lib.join_cons, e, List.nil_append, List.cons_append, List.cons.injEq] at h
      exact absurd h.1 hc
    | cons y b =>
      rw [Exs.may, Bool.and_eq_true] at hb
      simp only [Exs.texts, Lib.join_cons, List.append_assoc] at h
      obtain ⟨h1, h2⟩ := ex_cut ha.1 hb.1 (tail_stop _ _ (s41 _)) (tail_stop _ _ (s41 _)) h
      obtain ⟨h3, h4⟩ := argsTail_cut a b r s ha.2 hb.2 h2
      exact ⟨by rw [h1, h3], h4⟩
theorem tail_brk (ts : List (List UInt8)) {c : UInt8} (s : List UInt8) (h : isPart c = false) : Brk (Lib.joinTail [44, 32] ts ++ c :: s) := by
  cases ts with
  | nil => exact brk_of _ h
  | cons x r => rw [joinTail_cons]; exact b44 _
theorem names_cut : ∀ (a b : List (List UInt8)) (r s : List UInt8), namesB a = true → namesB b = true → Lib.joinTail [44, 32] a ++ 32 :: r = Lib.joinTail [44, 32] b ++ 32 :: s → a = b ∧ r = s
  | [], [], r, s, _, _, h => by simp only [joinTail_nil, List.nil_append, List.cons.injEq, true_and] at h; exact ⟨rfl, h⟩
  | [], y :: b, r, s, _, _, h => by simp [joinTail_nil, joinTail_cons] at h
  | x :: a, [], r, s, _, _, h => by simp [joinTail_nil, joinTail_cons] at h
  | x :: a, y :: b, r, s, ha, hb, h => by
    simp only [joinTail_cons, List.cons_append, List.append_assoc, List.cons.injEq, true_and] at h
    simp only [namesB, List.all_cons, Bool.and_eq_true] at ha hb
    obtain ⟨h1, h2⟩ := word_cut _ _ _ _ (name_parts ha.1).1 (name_parts hb.1).1 (tail_brk _ _ (by decide)) (tail_brk _ _ (by decide)) h
    obtain ⟨h3, h4⟩ := names_cut a b r s ha.2 hb.2 h2
    exact ⟨by rw [h1, h3], h4⟩

/-- the forms of statements that can be told, and their first lines -/
inductive ShS : St → List UInt8 → Prop where
  | set (nm : List UInt8) (hn : nameB nm = true) (e : Ex) (he : e.may = true) : ShS (.mk 1 nm [] e E0 .nil 0 0 .nil .nil) (nm ++ 32 :: 61 :: 32 :: (e.text ++ [59]))
  | put (nm : List UInt8) (hn : nameB nm = true) (a : Ex) (ha : a.may = true) (e : Ex) (he : e.may = true) : ShS (.mk 2 nm [] e a .nil 0 0 .nil .nil) (nm ++ 91 :: (a.text ++ 93 :: 32 :: 61 :: 32 :: (e.text ++ [59])))
  | ifs (e : Ex) (he : e.may = true) (bd el : Sts) (hb : bd.may = true) (hl : el.may = true) : ShS (.mk 3 [] [] e E0 .nil 0 0 bd el) ([105, 102] ++ 32 :: (e.text ++ [32, 123]))
  | whl (e : Ex) (he : e.may = true) (bd : Sts) (hb : bd.may = true) : ShS (.mk 4 [] [] e E0 .nil 0 0 bd .nil) ([119, 104, 105, 108, 101] ++ 32 :: (e.text ++ [32, 123]))
  | for (nm : List UInt8) (hn : nameB nm = true) (lo hi : Nat) (bd : Sts) (hb : bd.may = true) : ShS (.mk 5 nm [] E0 E0 .nil lo hi bd .nil) ([102, 111, 114] ++ 32 :: (nm ++ 32 :: (Lib.decDigits lo ++ 32 :: (Lib.decDigits hi ++ [32, 123]))))
  | call (nm : List UInt8) (hn : nameB nm = true) (g : Exs) (hg : g.may = true) : ShS (.mk 6 nm [] E0 E0 g 0 0 .nil .nil) (nm ++ 40 :: (Lib.join g.texts [44, 32] ++ 41 :: [59]))
  | calls (n0 : List UInt8) (h0 : nameB n0 = true) (ns : List (List UInt8)) (hs : namesB ns = true) (nm : List UInt8) (hn : nameB nm = true) (g : Exs) (hg : g.may = true) :
    ShS (.mk 6 nm (n0 :: ns) E0 E0 g 0 0 .nil .nil) (n0 ++ (Lib.joinTail [44, 32] ns ++ 32 :: 61 :: 32 :: (nm ++ 40 :: (Lib.join g.texts [44, 32] ++ 41 :: [59]))))
theorem none_E0 {x : Ex} (h : x.none = true) : x = E0 := by
  obtain ⟨op, wd, nm, ar⟩ := x
  unfold Ex.none at h
  rw [Bool.and_eq_true, Bool.and_eq_true, Bool.and_eq_true] at h
  obtain ⟨h1, h2, h3, h4⟩ := h
  have k1 : op = 0 := of_decide_eq_true h1
  have k2 : wd = 0 := of_decide_eq_true h2
  have k4 : ar.len = 0 := of_decide_eq_true h4
  have k3 : nm = [] := empty_nil h3
  rw [k1, k2, k3, Exs.len_zero k4]; rfl
theorem Sts.len_zero {a : Sts} (h : a.len = 0) : a = .nil := by cases a with | nil => rfl | cons => simp [Sts.len] at h
theorem St.shape {x : St} (h : x.may = true) : ShS x x.first := by
  obtain ⟨kd, nm, ns, e, a, g, lo, hi, bd, el⟩ := x
  have hno : kd < 1 ∨ 6 < kd ∨ kd = 1 ∨ kd = 2 ∨ kd = 3 ∨ kd = 4 ∨ kd = 5 ∨ kd = 6 := by omega
  rcases hno with k | k | rfl | rfl | rfl | rfl | rfl | rfl
  · rw [st_may_no kd (.inl k)] at h; cases h
  · rw [st_may_no kd (.inr k)] at h; cases h
  · rw [st_may_1] at h
    simp only [Bool.and_eq_true, St.isZero, decide_eq_true_eq] at h
    obtain ⟨⟨hn, he⟩, _, _, h3, _, h5, h6, h7, h8, h9, h10⟩ := h
    obtain rfl := List.length_eq_zero_iff.1 h3
    obtain rfl := none_E0 h5
    obtain rfl := Exs.len_zero h6
    subst h7; subst h8
    obtain rfl := Sts.len_zero h9
    obtain rfl := Sts.len_zero h10
    rw [show (St.mk 1 nm [] e E0 .nil 0 0 .nil .nil).first = nm ++ 32 :: 61 :: 32 :: (e.text ++ [59]) by rw [← first_eq, firstT, if_pos rfl]; simp]
    exact ShS.set nm hn e he
  · rw [st_may_2] at h
    simp only [Bool.and_eq_true, St.isZero, decide_eq_true_eq] at h
    obtain ⟨⟨hn, ha, he⟩, _, _, h3, _, _, h6, h7, h8, h9, h10⟩ := h
    obtain rfl := List.length_eq_zero_iff.1 h3
    obtain rfl := Exs.len_zero h6
    subst h7; subst h8
    obtain rfl := Sts.len_zero h9
    obtain rfl := Sts.len_zero h10
    rw [show (St.mk 2 nm [] e a .nil 0 0 .nil .nil).first = nm ++ 91 :: (a.text ++ 93 :: 32 :: 61 :: 32 :: (e.text ++ [59])) by rw [← first_eq, firstT, if_neg (by decide), if_pos rfl]; simp]
    exact ShS.put nm hn a ha e he
  · rw [st_may_3] at h
    simp only [Bool.and_eq_true, St.isZero, decide_eq_true_eq] at h
    obtain ⟨⟨he, hb, hl⟩, _, h2, h3, _, h5, h6, h7, h8, _⟩ := h
    obtain rfl := empty_nil h2
    obtain rfl := List.length_eq_zero_iff.1 h3
    obtain rfl := none_E0 h5
    obtain rfl := Exs.len_zero h6
    subst h7; subst h8
    rw [show (St.mk 3 [] [] e E0 .nil 0 0 bd el).first = [105, 102] ++ 32 :: (e.text ++ [32, 123]) by rw [← first_eq, firstT, if_neg (by decide), if_neg (by decide), if_pos rfl]; simp]
    exact ShS.ifs e he bd el hb hl
  · rw [st_may_4] at h
    simp only [Bool.and_eq_true, St.isZero, decide_eq_true_eq] at h
    obtain ⟨⟨he, hb⟩, _, h2, h3, _, h5, h6, h7, h8, _, h10⟩ := h
    obtain rfl := empty_nil h2
    obtain rfl := List.length_eq_zero_iff.1 h3
    obtain rfl := none_E0 h5
    obtain rfl := Exs.len_zero h6
    subst h7; subst h8
    obtain rfl := Sts.len_zero h10
    rw [show (St.mk 4 [] [] e E0 .nil 0 0 bd .nil).first = [119, 104, 105, 108, 101] ++ 32 :: (e.text ++ [32, 123]) by rw [← first_eq, firstT, if_neg (by decide), if_neg (by decide), if_neg (by decide), if_pos rfl]; simp]
    exact ShS.whl e he bd hb
  · rw [st_may_5] at h
    simp only [Bool.and_eq_true, St.isZero, decide_eq_true_eq] at h
    obtain ⟨⟨hn, hb⟩, _, _, h3, h4, h5, h6, _, _, _, h10⟩ := h
    obtain rfl := List.length_eq_zero_iff.1 h3
    obtain rfl := none_E0 h4
    obtain rfl := none_E0 h5
    obtain rfl := Exs.len_zero h6
    obtain rfl := Sts.len_zero h10
    rw [show (St.mk 5 nm [] E0 E0 .nil lo hi bd .nil).first = [102, 111, 114] ++ 32 :: (nm ++ 32 :: (Lib.decDigits lo ++ 32 :: (Lib.decDigits hi ++ [32, 123]))) by rw [← first_eq, firstT, if_neg (by decide), if_neg (by decide), if_neg (by decide), if_neg (by decide), if_pos rfl]; simp]
    exact ShS.for nm hn lo hi bd hb
  · rw [st_may_6] at h
    simp only [Bool.and_eq_true, St.isZero, decide_eq_true_eq] at h
    obtain ⟨⟨hn, hs, hg⟩, _, _, _, h4, h5, _, h7, h8, h9, h10⟩ := h
    obtain rfl := none_E0 h4
    obtain rfl := none_E0 h5
    subst h7; subst h8
    obtain rfl := Sts.len_zero h9
    obtain rfl := Sts.len_zero h10
    cases ns with
    | nil =>
      rw [show (St.mk 6 nm [] E0 E0 g 0 0 .nil .nil).first = nm ++ 40 :: (Lib.join g.texts [44, 32] ++ 41 :: [59]) by
        rw [← first_eq, firstT, if_neg (by decide), if_neg (by decide), if_neg (by decide), if_neg (by decide), if_neg (by decide), if_pos (show ([] : List (List UInt8)).length = 0 from rfl)]; simp]
      exact ShS.call nm hn g hg
    | cons n0 ns =>
      simp only [namesB, List.all_cons, Bool.and_eq_true] at hs
      rw [show (St.mk 6 nm (n0 :: ns) E0 E0 g 0 0 .nil .nil).first = n0 ++ (Lib.joinTail [44, 32] ns ++ 32 :: 61 :: 32 :: (nm ++ 40 :: (Lib.join g.texts [44, 32] ++ 41 :: [59]))) by
        rw [← first_eq, firstT, if_neg (by decide), if_neg (by decide), if_neg (by decide), if_neg (by decide), if_neg (by decide), if_neg (by simp), Lib.join_cons]; simp]
      exact ShS.calls n0 hs.1 ns hs.2 nm hn g hg
/-- a line's first word, and what stands behind it -/
def Word0 (w t : List UInt8) : Prop := ∃ r, t = w ++ r ∧ w.all isPart = true ∧ Brk r
theorem Word0.uniq {w v t : List UInt8} (h : Word0 w t) (k : Word0 v t) : w = v := by
  obtain ⟨r, rfl, hw, hr⟩ := h
  obtain ⟨s, e, hv, hs⟩ := k
  exact (word_cut _ _ _ _ hw hv hr hs e).1
def kwB (w : List UInt8) : Bool := decide (w = [105, 102]) || (decide (w = [119, 104, 105, 108, 101]) || decide (w = [102, 111, 114]))
theorem ShS.word {x : St} {t : List UInt8} (h : ShS x t) : ∃ w, Word0 w t ∧ (nameB w = true ∨ kwB w = true) := by
  cases h with
  | set nm hn e he => exact ⟨nm, ⟨_, rfl, (name_parts hn).1, b32 _⟩, .inl hn⟩
  | put nm hn a ha e he => exact ⟨nm, ⟨_, rfl, (name_parts hn).1, b91 _⟩, .inl hn⟩
  | ifs e he bd el hb hl => exact ⟨_, ⟨_, rfl, by decide, b32 _⟩, .inr (by decide)⟩
  | whl e he bd hb => exact ⟨_, ⟨_, rfl, by decide, b32 _⟩, .inr (by decide)⟩
  | «for» nm hn lo hi bd hb => exact ⟨_, ⟨_, rfl, by decide, b32 _⟩, .inr (by decide)⟩
  | call nm hn g hg => exact ⟨nm, ⟨_, rfl, (name_parts hn).1, b40 _⟩, .inl hn⟩
  | calls n0 h0 ns hs nm hn g hg => exact ⟨n0, ⟨_, rfl, (name_parts h0).1, tail_brk _ _ (by decide)⟩, .inl h0⟩
theorem own_not {nm : List UInt8} (h : nameB nm = true) {w : List UInt8} (hw : ownB w = true) (e : nm = w) : False := by
  have := (name_parts h).2.2; rw [e, hw] at this; cases this
/-- what two statements have alike whose first lines are one -/
def Alike (x y : St) : Prop := x.kind = y.kind ∧ x.name = y.name ∧ x.names = y.names ∧ x.e = y.e ∧ x.a = y.a ∧ x.args = y.args ∧ x.low = y.low ∧ x.high = y.high
theorem set_calls {_e g0 : List UInt8} {x : Ex} (hx : x.may = true) {nm : List UInt8} (hn : nameB nm = true) (h : x.text ++ [59] = nm ++ 40 :: g0) : False := by
  have H := Ex.shape hx
  clear hx
  generalize x.text = t at *
  cases H with
  | const wd => exact let_dig_no hn h.symm
  | var nm' hn' =>
    obtain ⟨_, h2⟩ := word_cut _ _ _ _ (name_parts hn').1 (name_parts hn).1 (s59 []).brk (b40 _) h
    simp at h2
  | index nm' hn' y hy =>
    rw [List.append_assoc] at h
    obtain ⟨_, h2⟩ := word_cut _ _ _ _ (name_parts hn').1 (name_parts hn).1 (b91 _) (b40 _) h
    simp at h2
  | not y hy => exact let_sign_no hn (.inl rfl) h.symm
  | neg y hy => exact let_sign_no hn (.inr (.inl rfl)) h.symm
  | pick x y z hx hy hz =>
    rw [List.append_assoc] at h
    exact not_pick hn (word_cut _ _ _ _ pick_parts (name_parts hn).1 (b40 _) (b40 _) h).1.symm
  | two op h1 h2 x y hx hy => exact let_sign_no hn (.inr (.inr rfl)) h.symm
theorem b93 (r : List UInt8) : Brk (93 :: r) := brk_of r (by decide)
theorem ifP : ([105, 102] : List UInt8).all isPart = true := by decide
theorem whP : ([119, 104, 105, 108, 101] : List UInt8).all isPart = true := by decide
theorem foP : ([102, 111, 114] : List UInt8).all isPart = true := by decide
theorem ifO : ownB [105, 102] = true := by decide
theorem whO : ownB [119, 104, 105, 108, 101] = true := by decide
theorem foO : ownB [102, 111, 114] = true := by decide
theorem shs_alike {x y : St} {t u : List UInt8} (hx : ShS x t) (hy : ShS y u) (h : t = u) : Alike x y := by
  cases hx with
  | set nm hn e he =>
    cases hy with
    | set nm' hn' e' he' =>
      obtain ⟨h1, h2⟩ := word_cut _ _ _ _ (name_parts hn).1 (name_parts hn').1 (b32 _) (b32 _) h
      simp only [List.cons.injEq, true_and] at h2
      obtain ⟨h3, _⟩ := ex_cut he he' (s59 _) (s59 _) h2
      exact ⟨rfl, h1, rfl, h3, rfl, rfl, rfl, rfl⟩
    | put nm' hn' a' ha' e' he' => have := (word_cut _ _ _ _ (name_parts hn).1 (name_parts hn').1 (b32 _) (b91 _) h).2; simp at this
    | ifs e' he' bd' el' hb' hl' => exact (own_not hn ifO (word_cut _ _ _ _ (name_parts hn).1 ifP (b32 _) (b32 _) h).1).elim
    | whl e' he' bd' hb' => exact (own_not hn whO (word_cut _ _ _ _ (name_parts hn).1 whP (b32 _) (b32 _) h).1).elim
    | «for» nm' hn' lo' hi' bd' hb' => exact (own_not hn foO (word_cut _ _ _ _ (name_parts hn).1 foP (b32 _) (b32 _) h).1).elim
    | call nm' hn' g' hg' => have := (word_cut _ _ _ _ (name_parts hn).1 (name_parts hn').1 (b32 _) (b40 _) h).2; simp at this
    | calls n0 h0 ns hs nm' hn' g' hg' =>
      have h2 := (word_cut _ _ _ _ (name_parts hn).1 (name_parts h0).1 (b32 _) (tail_brk _ _ (by decide)) h).2
      cases ns with
      | nil =>
        simp only [joinTail_nil, List.nil_append, List.cons.injEq, true_and] at h2
        exact (set_calls (_e := []) he hn' h2).elim
      | cons n1 ns => simp [joinTail_cons] at h2
  | put nm hn a ha e he =>
    cases hy with
    | set nm' hn' e' he' => have := (word_cut _ _ _ _ (name_parts hn).1 (name_parts hn').1 (b91 _) (b32 _) h).2; simp at this
    | put nm' hn' a' ha' e' he' =>
      obtain ⟨h1, h2⟩ := word_cut _ _ _ _ (name_parts hn).1 (name_parts hn').1 (b91 _) (b91 _) h
      simp only [List.cons.injEq, true_and] at h2
      obtain ⟨h3, h4⟩ := ex_cut ha ha' (s93 _) (s93 _) h2
      simp only [List.cons.injEq, true_and] at h4
      obtain ⟨h5, _⟩ := ex_cut he he' (s59 _) (s59 _) h4
      exact ⟨rfl, h1, rfl, h5, h3, rfl, rfl, rfl⟩
    | ifs e' he' bd' el' hb' hl' => exact (own_not hn ifO (word_cut _ _ _ _ (name_parts hn).1 ifP (b91 _) (b32 _) h).1).elim
    | whl e' he' bd' hb' => exact (own_not hn whO (word_cut _ _ _ _ (name_parts hn).1 whP (b91 _) (b32 _) h).1).elim
    | «for» nm' hn' lo' hi' bd' hb' => exact (own_not hn foO (word_cut _ _ _ _ (name_parts hn).1 foP (b91 _) (b32 _) h).1).elim
    | call nm' hn' g' hg' => have := (word_cut _ _ _ _ (name_parts hn).1 (name_parts hn').1 (b91 _) (b40 _) h).2; simp at this
    | calls n0 h0 ns hs nm' hn' g' hg' =>
      have h2 := (word_cut _ _ _ _ (name_parts hn).1 (name_parts h0).1 (b91 _) (tail_brk _ _ (by decide)) h).2
      cases ns with
      | nil => simp [joinTail_nil] at h2
      | cons n1 ns => simp [joinTail_cons] at h2
  | ifs e he bd el hb hl =>
    cases hy with
    | set nm' hn' e' he' => exact (own_not hn' ifO (word_cut _ _ _ _ ifP (name_parts hn').1 (b32 _) (b32 _) h).1.symm).elim
    | put nm' hn' a' ha' e' he' => exact (own_not hn' ifO (word_cut _ _ _ _ ifP (name_parts hn').1 (b32 _) (b91 _) h).1.symm).elim
    | ifs e' he' bd' el' hb' hl' =>
      simp only [List.cons_append, List.nil_append, List.cons.injEq, true_and] at h
      obtain ⟨h3, _⟩ := ex_cut he he' (s32 _) (s32 _) h
      exact ⟨rfl, rfl, rfl, h3, rfl, rfl, rfl, rfl⟩
    | whl e' he' bd' hb' => simp at h
    | «for» nm' hn' lo' hi' bd' hb' => simp at h
    | call nm' hn' g' hg' => exact (own_not hn' ifO (word_cut _ _ _ _ ifP (name_parts hn').1 (b32 _) (b40 _) h).1.symm).elim
    | calls n0 h0 ns hs nm' hn' g' hg' => exact (own_not h0 ifO (word_cut _ _ _ _ ifP (name_parts h0).1 (b32 _) (tail_brk _ _ (by decide)) h).1.symm).elim
  | whl e he bd hb =>
    cases hy with
    | set nm' hn' e' he' => exact (own_not hn' whO (word_cut _ _ _ _ whP (name_parts hn').1 (b32 _) (b32 _) h).1.symm).elim
    | put nm' hn' a' ha' e' he' => exact (own_not hn' whO (word_cut _ _ _ _ whP (name_parts hn').1 (b32 _) (b91 _) h).1.symm).elim
    | ifs e' he' bd' el' hb' hl' => simp at h
    | whl e' he' bd' hb' =>
      simp only [List.cons_append, List.nil_append, List.cons.injEq, true_and] at h
      obtain ⟨h3, _⟩ := ex_cut he he' (s32 _) (s32 _) h
      exact ⟨rfl, rfl, rfl, h3, rfl, rfl, rfl, rfl⟩
    | «for» nm' hn' lo' hi' bd' hb' => simp at h
    | call nm' hn' g' hg' => exact (own_not hn' whO (word_cut _ _ _ _ whP (name_parts hn').1 (b32 _) (b40 _) h).1.symm).elim
    | calls n0 h0 ns hs nm' hn' g' hg' => exact (own_not h0 whO (word_cut _ _ _ _ whP (name_parts h0).1 (b32 _) (tail_brk _ _ (by decide)) h).1.symm).elim
  | «for» nm hn lo hi bd hb =>
    cases hy with
    | set nm' hn' e' he' => exact (own_not hn' foO (word_cut _ _ _ _ foP (name_parts hn').1 (b32 _) (b32 _) h).1.symm).elim
    | put nm' hn' a' ha' e' he' => exact (own_not hn' foO (word_cut _ _ _ _ foP (name_parts hn').1 (b32 _) (b91 _) h).1.symm).elim
    | ifs e' he' bd' el' hb' hl' => simp at h
    | whl e' he' bd' hb' => simp at h
    | «for» nm' hn' lo' hi' bd' hb' =>
      simp only [List.cons_append, List.nil_append, List.cons.injEq, true_and] at h
      obtain ⟨h1, h2⟩ := word_cut _ _ _ _ (name_parts hn).1 (name_parts hn').1 (b32 _) (b32 _) h
      simp only [List.cons.injEq, true_and] at h2
      obtain ⟨h3, h4⟩ := dec_cut (b32 _) (b32 _) h2
      simp only [List.cons.injEq, true_and] at h4
      obtain ⟨h5, _⟩ := dec_cut (b32 _) (b32 _) h4
      exact ⟨rfl, h1, rfl, rfl, rfl, rfl, h3, h5⟩
    | call nm' hn' g' hg' => exact (own_not hn' foO (word_cut _ _ _ _ foP (name_parts hn').1 (b32 _) (b40 _) h).1.symm).elim
    | calls n0 h0 ns hs nm' hn' g' hg' => exact (own_not h0 foO (word_cut _ _ _ _ foP (name_parts h0).1 (b32 _) (tail_brk _ _ (by decide)) h).1.symm).elim
  | call nm hn g hg =>
    cases hy with
    | set nm' hn' e' he' => have := (word_cut _ _ _ _ (name_parts hn).1 (name_parts hn').1 (b40 _) (b32 _) h).2; simp at this
    | put nm' hn' a' ha' e' he' => have := (word_cut _ _ _ _ (name_parts hn).1 (name_parts hn').1 (b40 _) (b91 _) h).2; simp at this
    | ifs e' he' bd' el' hb' hl' => exact (own_not hn ifO (word_cut _ _ _ _ (name_parts hn).1 ifP (b40 _) (b32 _) h).1).elim
    | whl e' he' bd' hb' => exact (own_not hn whO (word_cut _ _ _ _ (name_parts hn).1 whP (b40 _) (b32 _) h).1).elim
    | «for» nm' hn' lo' hi' bd' hb' => exact (own_not hn foO (word_cut _ _ _ _ (name_parts hn).1 foP (b40 _) (b32 _) h).1).elim
    | call nm' hn' g' hg' =>
      obtain ⟨h1, h2⟩ := word_cut _ _ _ _ (name_parts hn).1 (name_parts hn').1 (b40 _) (b40 _) h
      simp only [List.cons.injEq, true_and] at h2
      obtain ⟨h3, _⟩ := args_cut hg hg' h2
      exact ⟨rfl, h1, rfl, rfl, rfl, h3, rfl, rfl⟩
    | calls n0 h0 ns hs nm' hn' g' hg' =>
      have h2 := (word_cut _ _ _ _ (name_parts hn).1 (name_parts h0).1 (b40 _) (tail_brk _ _ (by decide)) h).2
      cases ns with
      | nil => simp [joinTail_nil] at h2
      | cons n1 ns => simp [joinTail_cons] at h2
  | calls n0 h0 ns hs nm hn g hg =>
    cases hy with
    | set nm' hn' e' he' =>
      have h2 := (word_cut _ _ _ _ (name_parts h0).1 (name_parts hn').1 (tail_brk _ _ (by decide)) (b32 _) h).2
      cases ns with
      | nil =>
        simp only [joinTail_nil, List.nil_append, List.cons.injEq, true_and] at h2
        exact (set_calls (_e := []) he' hn h2.symm).elim
      | cons n1 ns => simp [joinTail_cons] at h2
    | put nm' hn' a' ha' e' he' =>
      have h2 := (word_cut _ _ _ _ (name_parts h0).1 (name_parts hn').1 (tail_brk _ _ (by decide)) (b91 _) h).2
      cases ns with
      | nil => simp [joinTail_nil] at h2
      | cons n1 ns => simp [joinTail_cons] at h2
    | ifs e' he' bd' el' hb' hl' => exact (own_not h0 ifO (word_cut _ _ _ _ (name_parts h0).1 ifP (tail_brk _ _ (by decide)) (b32 _) h).1).elim
    | whl e' he' bd' hb' => exact (own_not h0 whO (word_cut _ _ _ _ (name_parts h0).1 whP (tail_brk _ _ (by decide)) (b32 _) h).1).elim
    | «for» nm' hn' lo' hi' bd' hb' => exact (own_not h0 foO (word_cut _ _ _ _ (name_parts h0).1 foP (tail_brk _ _ (by decide)) (b32 _) h).1).elim
    | call nm' hn' g' hg' =>
      have h2 := (word_cut _ _ _ _ (name_parts h0).1 (name_parts hn').1 (tail_brk _ _ (by decide)) (b40 _) h).2
      cases ns with
      | nil => simp [joinTail_nil] at h2
      | cons n1 ns => simp [joinTail_cons] at h2
    | calls n0' h0' ns' hs' nm' hn' g' hg' =>
      obtain ⟨h1, h2⟩ := word_cut _ _ _ _ (name_parts h0).1 (name_parts h0').1 (tail_brk _ _ (by decide)) (tail_brk _ _ (by decide)) h
      obtain ⟨h3, h4⟩ := names_cut _ _ _ _ hs hs' h2
      simp only [List.cons.injEq, true_and] at h4
      obtain ⟨h5, h6⟩ := word_cut _ _ _ _ (name_parts hn).1 (name_parts hn').1 (b40 _) (b40 _) h4
      simp only [List.cons.injEq, true_and] at h6
      obtain ⟨h7, _⟩ := args_cut hg hg' h6
      exact ⟨rfl, h5, by simp only [St.names, h1, h3], rfl, rfl, h7, rfl, rfl⟩
theorem first_alike {x y : St} (hx : x.may = true) (hy : y.may = true) (h : x.first = y.first) : Alike x y := shs_alike (St.shape hx) (St.shape hy) h

/-- what stands behind statements begins with a shut brace -/
def Close (r : List (Nat × List UInt8)) : Prop := ∀ y s, r = y :: s → y.2.headD 0 = 125
theorem close_of {y : Nat × List UInt8} (s : List (Nat × List UInt8)) (h : y.2.headD 0 = 125) : Close (y :: s) := fun _ _ e => by cases e; exact h
theorem may_block {kd : Int} {nm : List UInt8} {ns : List (List UInt8)} {e a : Ex} {g : Exs} {lo hi : Nat} {bd el : Sts} (h : (St.mk kd nm ns e a g lo hi bd el).may = true) : bd.may = true ∧ el.may = true ∧ ((kd = 3 ∨ kd = 4 ∨ kd = 5) ∨ (bd = .nil ∧ el = .nil)) := by
  have := St.shape h
  generalize (St.mk kd nm ns e a g lo hi bd el).first = t at *
  cases this with
  | set => exact ⟨rfl, rfl, .inr ⟨rfl, rfl⟩⟩
  | put => exact ⟨rfl, rfl, .inr ⟨rfl, rfl⟩⟩
  | ifs e he bd el hb hl => exact ⟨hb, hl, .inl (.inl rfl)⟩
  | whl e he bd hb => exact ⟨hb, rfl, .inl (.inr (.inl rfl))⟩
  | «for» nm hn lo hi bd hb => exact ⟨hb, rfl, .inl (.inr (.inr rfl))⟩
  | call => exact ⟨rfl, rfl, .inr ⟨rfl, rfl⟩⟩
  | calls => exact ⟨rfl, rfl, .inr ⟨rfl, rfl⟩⟩
theorem Sts.cut : ∀ (n : Nat) (l m : Sts) (t : Nat) (r s : List (Nat × List UInt8)), l.size < n → l.may = true → m.may = true → Close r → Close s → l.lines t ++ r = m.lines t ++ s → l = m ∧ r = s
  | 0, _, _, _, _, _, h, _, _, _, _, _ => absurd h (Nat.not_lt_zero _)
  | n + 1, .nil, .nil, t, r, s, _, _, _, _, _, h => ⟨rfl, h⟩
  | n + 1, .nil, .cons y m, t, r, s, _, _, hm, hr, _, h => by
    rw [Sts.may, Bool.and_eq_true] at hm
    obtain ⟨kd, nm, ns, e, a, g, lo, hi, bd, el⟩ := y
    simp only [Sts.lines, St.lines, List.nil_append, List.cons_append, first_eq] at h
    exact absurd (hr _ _ h) (first_braced hm.1).2.1
  | n + 1, .cons x l, .nil, t, r, s, _, hl, _, _, hs, h => by
    rw [Sts.may, Bool.and_eq_true] at hl
    obtain ⟨kd, nm, ns, e, a, g, lo, hi, bd, el⟩ := x
    simp only [Sts.lines, St.lines, List.nil_append, List.cons_append, first_eq] at h
    exact absurd (hs _ _ h.symm) (first_braced hl.1).2.1
  | n + 1, .cons x l, .cons y m, t, r, s, hsz, hl, hm, hr, hs, h => by
    have ih := Sts.cut n
    rw [Sts.may, Bool.and_eq_true] at hl hm
    obtain ⟨hx, hl⟩ := hl
    obtain ⟨hy, hm⟩ := hm
    obtain ⟨kd, nm, ns, e, a, g, lo, hi, bd, el⟩ := x
    obtain ⟨kd', nm', ns', e', a', g', lo', hi', bd', el'⟩ := y
    simp only [Sts.lines, St.lines, List.cons_append, List.append_assoc, List.cons.injEq, Prod.mk.injEq, true_and, first_eq] at h
    obtain ⟨h1, h2⟩ := h
    have hA := first_alike hx hy h1
    have B1 := may_block hx
    have B2 := may_block hy
    simp only [Alike, St.kind, St.name, St.names, St.e, St.a, St.args, St.low, St.high] at hA
    obtain ⟨rfl, rfl, rfl, rfl, rfl, rfl, rfl, rfl⟩ := hA
    clear h1 hx hy
    simp only [Sts.size, St.size] at hsz
    by_cases hk : kd = 3 ∨ kd = 4 ∨ kd = 5
    · rw [if_pos hk, if_pos hk] at h2
      simp only [List.append_assoc] at h2
      have hc : ∀ (z : Sts) (q : List (Nat × List UInt8)), Close ((if z.len = 0 then [] else (t, elseT) :: z.lines (t + 1)) ++ ([(t, [125])] ++ q)) := fun z q => by
        split
        · exact close_of _ rfl
        · exact close_of _ rfl
      obtain ⟨h3, h4⟩ := ih bd bd' (t + 1) _ _ (by omega) B1.1 B2.1 (hc _ _) (hc _ _) h2
      subst h3
      have hEl : el = el' ∧ l.lines t ++ r = m.lines t ++ s := by
        by_cases z1 : el.len = 0
        · by_cases z2 : el'.len = 0
          · rw [if_pos z1, if_pos z2] at h4
            simp only [List.nil_append, List.cons_append, List.cons.injEq, true_and] at h4
            exact ⟨by rw [Sts.len_zero z1, Sts.len_zero z2], h4⟩
          · rw [if_pos z1, if_neg z2] at h4
            simp [elseT] at h4
        · by_cases z2 : el'.len = 0
          · rw [if_neg z1, if_pos z2] at h4
            simp [elseT] at h4
          · rw [if_neg z1, if_neg z2] at h4
            simp only [List.cons_append, List.cons.injEq, true_and] at h4
            obtain ⟨h5, h6⟩ := ih el el' (t + 1) _ _ (by omega) B1.2.1 B2.2.1 (close_of _ rfl) (close_of _ rfl) h4
            simp only [List.nil_append, List.cons.injEq, true_and] at h6
            exact ⟨h5, h6⟩
      obtain ⟨h5, h6⟩ := hEl
      obtain ⟨h7, h8⟩ := ih l m t r s (by omega) hl hm hr hs h6
      exact ⟨by rw [h5, h7], h8⟩
    · rw [if_neg hk, if_neg hk] at h2
      simp only [List.nil_append] at h2
      obtain ⟨h7, h8⟩ := ih l m t r s (by omega) hl hm hr hs h2
      obtain ⟨b1, l1⟩ := B1.2.2.resolve_left hk
      obtain ⟨b2, l2⟩ := B2.2.2.resolve_left hk
      exact ⟨by rw [b1, l1, b2, l2, h7], h8⟩
end Go.Proofs.YtlhbledakddbbaaGreatDoor
/- How deep statements are. -/
namespace Go.Proofs.YtlhbledakddbbaaGreatDoor
open Go.RowKit

set_option maxHeartbeats 1600000 in
theorem isZero_any (x : Ex) (b o N : Nat) (w : World) (h : x.At w N b o) :
    Calls Tryz.prog 114 #[.pointer (some ⟨b, o, none⟩)] w fun e w' => e = .returned (.bool x.none) ∧ w = w' := by
  obtain ⟨op, wd, nm, ar⟩ := x
  obtain ⟨⟨h0, h1, h2, h3⟩, ⟨p, c, h4, s4⟩⟩ := h
  unfold Ex.none
  simp only [Ex.op, Ex.word, Ex.name, Ex.args]
  have hm := s4.1
  clear s4
  obtain ⟨n, hn0⟩ : ∃ n, ar.len = n := ⟨_, rfl⟩
  simp only [hn0] at hm h4 ⊢
  clear hn0
  have es : (str nm).toList.isEmpty = nm.isEmpty := by rw [Lib.toList_data, str_data]
  go_enter Tryz.func114, Tryz.ntmps114
  by_cases h1 : op = 0
  · subst h1
    by_cases h2 : wd = 0
    · subst h2
      cases hn : nm.isEmpty with
      | true =>
        rw [hn] at es
        have e0 : (str nm).toList = [] := by simpa using es
        by_cases h4 : n = 0
        · subst h4
          go_wp2_with fail
          go_ret
          exact ⟨rfl, rfl⟩
        · have h5 : ((n : Int) == 0) = false := by simp; omega
          go_wp2_with fail
          go_ret
          exact ⟨by simp, rfl⟩
      | false =>
        rw [hn] at es
        have e0 : ¬ (str nm).toList = [] := by intro h; rw [h] at es; cases es
        go_wp2_with fail
        go_ret
        exact ⟨by simp, rfl⟩
    · have h5 : ((wd : Int) == 0) = false := by simp; omega
      go_wp2_with fail
      go_ret
      exact ⟨by simp, rfl⟩
  · have h5 : (op == 0) = false := by simp; omega
    go_wp2_with fail
    go_ret
    exact ⟨by simp [h1], rfl⟩
theorem deepestE_any (l : Exs) (hl6 : l.size ≤ 1000000) (p : Option Addr) (c N : Nat) (w : World) (h : l.In w N p) :
    Calls Tryz.prog 81 #[.slice p l.len c, .func (.func 38) #[] #[]] w fun e w' => e = .returned (.int .i64 l.deepest) ∧ w = w' :=
  deepest_step _ (depth_to _) l (Nat.le_refl _) hl6 p c N w h
theorem exAt_ofOk {w : World} {N b o : Nat} {x : Ex} {p : Option Addr} {c : Nat} (h : x.Ok w N p) (h0 : w.cell? ⟨b, o, none⟩ = some (.int .i64 x.op)) (h1 : w.cell? ⟨b, o + 1, none⟩ = some (.int .u64 (x.word : Int))) (h2 : w.cell? ⟨b, o + 2, none⟩ = some (.string (str x.name))) (h3 : w.cell? ⟨b, o + 3, none⟩ = some (.slice p x.args.len c)) : x.At w N b o := by
  obtain ⟨op, wd, nm, ar⟩ := x
  exact ⟨⟨h0, h1, h2, h.2⟩, ⟨p, c, h3, h.1⟩⟩
def DeepTo (n : Nat) : Prop := ∀ (x : St), x.size < n → x.wt ≤ 1000000 → ∀ (b o N : Nat) (w : World), b < N → N ≤ w.heap.size → x.At w N b o →
    Calls Tryz.prog 75 #[.pointer (some ⟨b, o, none⟩)] w fun e w' => e = .returned (.int .i64 (x.deep : Nat)) ∧ Below w.heap.size w w'
set_option maxHeartbeats 1600000 in
theorem deepestS_step (n : Nat) (ih : DeepTo n) (l : Sts) (hl : l.size ≤ n) (hl6 : l.wt ≤ 1000000) (p : Option Addr) (c N : Nat) (w : World) (h : l.In w N p) (hN : N ≤ w.heap.size) :
    Calls Tryz.prog 74 #[.slice p l.len c, .func (.func 75) #[] #[]] w fun e w' => e = .returned (.int .i64 (l.deep : Nat)) ∧ Below w.heap.size w w' := by
  have IH := Lib.hid ih
  have S1 := Lib.hid h
  have hm1 := h.1
  have HNN := Lib.hid hN
  clear ih h hN
  go_enter Tryz.func74, Tryz.ntmps74
  go_wp2_with fail
  go_loopw [5, 9] (fun d i wr => ∃ (k m : Nat) (r : Sts), d = .int .i64 m ∧ i = .int .i64 k ∧ k + r.len = l.len ∧ r.size ≤ n ∧ r.wt ≤ 1000000 ∧ Hid (∀ b o, p = some ⟨b, o, none⟩ → l.At w N b o → r.At w N b (o + k * 16)) ∧ Hid (l.deep = max m r.deep) ∧ m ≤ 1000000 ∧ Hid (Below w.heap.size w wr)) (fun _ i _ => l.len - (intOf i).toNat)
  case atStart => exact ⟨0, 0, l, rfl, rfl, by omega, hl, hl6, Lib.hid fun b o _ h => by rw [Nat.zero_mul]; exact h, Lib.hid (by omega), by omega, Lib.hid (Below.refl _ _)⟩
  case round =>
    obtain ⟨k, m, r, rfl, rfl, hk, hrs, hr6, hat, hE, hm6, hB⟩ := hrel
    cases r with
    | nil =>
      simp only [Sts.len] at hk
      have hge : ¬ k < l.len := by omega
      go_wp2_with fail
      go_ret
      exact ⟨ret_int (by rw [hE.out]; simp [Sts.deep]), hB.out⟩
    | cons x r =>
      simp only [Sts.len] at hk
      simp only [Sts.size] at hrs
      simp only [Sts.wt] at hr6
      have hlt : k < l.len := by omega
      rcases S1.out.2 with h30 | ⟨b, o, rfl, hb, ha⟩
      · omega
      obtain ⟨hx, hr⟩ := hat.out b o rfl ha
      have HR := Lib.hid hr
      have hxd := St.deep_le x
      have HC := Lib.hid (IH.out x (by omega) (by omega) b (o + k * 16) wr.heap.size wr (by have := hB.out.size; have := HNN.out; omega) (Nat.le_refl _) (St.At.later (hB.out.mono HNN.out) (Nat.le_trans HNN.out hB.out.size) x b _ hb hx))
      have hmx : max (m : Int) (x.deep : Int) = ((max m x.deep : Nat) : Int) := by omega
      have HE := Lib.hid (show l.deep = max (max m x.deep) r.deep by rw [hE.out, Sts.deep]; omega)
      generalize x.deep = dx at HC HE hxd hmx
      clear hx hr ha hE
      go_wp2_with fail
      refine HC.out.mono ?_
      rintro e w2 ⟨rfl, hB2⟩
      have HB2 := Lib.hid (hB.out.trans (hB2.mono hB.out.size))
      clear hB2 HC
      go_wp2_with fail
      go_roundw
      case rel => exact ⟨k + 1, max m dx, r, by rw [← hmx], by go_num, by omega, by omega, by omega, Lib.hid fun b' o' e _ => by cases e; rw [show o + (k + 1) * 16 = o + k * 16 + 16 by omega]; exact HR.out, HE, by omega, HB2⟩
      case measure => simp [intOf]; omega
set_option maxRecDepth 100000 in
set_option maxHeartbeats 6400000 in
theorem deep_step (n : Nat) (ih : DeepTo n) : DeepTo (n + 1) := by
  intro x hxs hx6 b o N w hb hN hx
  obtain ⟨s, c1, ok1⟩ := St.At.openP hx
  obtain ⟨kd, nm, ns, e, a, g, lo, hi, bd, el⟩ := x
  simp only [St.size] at hxs
  simp only [St.wt] at hx6
  have x11 : w.cell? ⟨b, o + 11, none⟩ = some (.slice s.pg g.len s.cg) := c1 11 _ rfl
  have x14 : w.cell? ⟨b, o + 14, none⟩ = some (.slice s.pb bd.len s.cb) := c1 14 _ rfl
  have x15 : w.cell? ⟨b, o + 15, none⟩ = some (.slice s.pl el.len s.cl) := c1 15 _ rfl
  have hbw : b < w.heap.size := Nat.lt_of_lt_of_le hb hN
  have HEt := Lib.hid (fun (w1 : World) (hB : Below w.heap.size w w1) => Ex.At.later (hB.mono hN) (Nat.le_refl N) e b (o + 3) hb (show e.At w N b (o + 3) from exAt_ofOk ok1.2.1 (c1 3 _ rfl) (c1 4 _ rfl) (c1 5 _ rfl) (c1 6 _ rfl)))
  have HAt := Lib.hid (fun (w1 : World) (hB : Below w.heap.size w w1) => Ex.At.later (hB.mono hN) (Nat.le_refl N) a b (o + 7) hb (show a.At w N b (o + 7) from exAt_ofOk ok1.2.2.1 (c1 7 _ rfl) (c1 8 _ rfl) (c1 9 _ rfl) (c1 10 _ rfl)))
  have HGd := Lib.hid (fun (w1 : World) (hB : Below w.heap.size w w1) => deepestE_any g (by omega) s.pg s.cg N w1 (ok1.2.2.2.1.later (hB.mono hN) (Nat.le_refl N)))
  have HBd := Lib.hid (fun (w1 : World) (hB : Below w.heap.size w w1) => deepestS_step n ih bd (by omega) (by omega) s.pb s.cb N w1 (ok1.2.2.2.2.1.later (hB.mono hN) (Nat.le_refl N)) (Nat.le_trans hN hB.size))
  have HEl := Lib.hid (fun (w1 : World) (hB : Below w.heap.size w w1) => deepestS_step n ih el (by omega) (by omega) s.pl s.cl N w1 (ok1.2.2.2.2.2.1.later (hB.mono hN) (Nat.le_refl N)) (Nat.le_trans hN hB.size))
  have b1 := Sts.deep_le bd
  have b2 := Sts.deep_le el
  have b3 := Ex.dp_le e
  have b4 := Ex.dp_le a
  have b5 := Exs.deepest_le g
  simp only [St.deep]
  generalize bd.deep = db at HBd b1 ⊢
  generalize el.deep = de at HEl b2 ⊢
  generalize g.deepest = dg at HGd b5 ⊢
  obtain ⟨m1, hm1e⟩ : ∃ m, m = max (max dg db) de := ⟨_, rfl⟩
  have hmx : ∀ (w : World) (ts : Array TypeId) (t : TypeId), (Builtin.max_ ts t #[.int .i64 (dg : Int), .int .i64 (db : Int), .int .i64 (de : Int)]).run Tryz.prog w = .ok (.int .i64 (m1 : Int)) w := by
    intro w ts t
    rw [run_max_int3]
    have hq : (if (de : Int) > (if (db : Int) > dg then (db : Int) else dg) then (de : Int) else (if (db : Int) > dg then (db : Int) else dg)) = (m1 : Int) := by (repeat' split) <;> omega
    rw [hq]
  have hm1b : m1 ≤ 1000000 := by omega
  have HM1 := Lib.hid hm1e
  clear hm1e c1 ok1 hx ih
  go_enter Tryz.func75, Tryz.ntmps75
  go_upto_region 1 with fail
  try simp only [Act.put]
  have HS1 : Below w.heap.size w w.drew := (Below.refl _ _).drew
  refine wp_region_held_drew (S := fun W => Below w.heap.size w W ∧ W.cell? ⟨b, o + 11, none⟩ = some (.slice s.pg g.len s.cg) ∧ W.cell? ⟨b, o + 14, none⟩ = some (.slice s.pb bd.len s.cb) ∧ W.cell? ⟨b, o + 15, none⟩ = some (.slice s.pl el.len s.cl)) (by kernel_rfl) ?_ (fun hHeld => ?_)
  · exact ⟨HS1, (HS1.cell hbw).trans x11, (HS1.cell hbw).trans x14, (HS1.cell hbw).trans x15⟩
  refine wpAnyH_take (i := 0) (oi := { dst := Option.some 4, op := Go.Op.move (Go.Operand.tmp 0), type := 145, pos := "deep.go:20", after := #[], guard := Option.none }) (v := ?_) rfl (by kernel_rfl) (by kernel_rfl) (by kernel_rfl) (fun _ _ _ h => h) (Or.inl ⟨by rfl, ?_⟩) (by assumption) ?_
  rotate_left
  · (intro w hSw; (try dsimp only at hSw); go_simp; try with_reducible rfl)
  try simp only [Act.put, List.setIfInBounds_toArray, List.set_cons_zero, List.set_cons_succ]
  refine wpAnyH_take (i := 1) (oi := { dst := Option.some 5, op := Go.Op.nilCheck (Go.Operand.tmp 4), type := 0, pos := "deep.go:20", after := #[{ on := 0, ground := Go.Ground.data }], guard := Option.none }) (v := ?_) rfl (by kernel_rfl) (by kernel_rfl) (by kernel_rfl) (fun _ _ _ h => h) (Or.inl ⟨by rfl, ?_⟩) (by assumption) ?_
  rotate_left
  · (intro w hSw; (try dsimp only at hSw); go_simp; try with_reducible rfl)
  try simp only [Act.put, List.setIfInBounds_toArray, List.set_cons_zero, List.set_cons_succ]
  refine wpAnyH_take (i := 2) (oi := { dst := Option.some 6, op := Go.Op.fieldAddr 54 (Go.Operand.tmp 5) 5, type := 0, pos := "deep.go:20", after := #[{ on := 1, ground := Go.Ground.data }], guard := Option.none }) (v := ?_) rfl (by kernel_rfl) (by kernel_rfl) (by kernel_rfl) (fun _ _ _ h => h) (Or.inl ⟨by rfl, ?_⟩) (by assumption) ?_
  rotate_left
  · (intro w hSw; (try dsimp only at hSw); go_simp; try with_reducible rfl)
  try simp only [Act.put, List.setIfInBounds_toArray, List.set_cons_zero, List.set_cons_succ]
  refine wpAnyH_take (i := 3) (oi := { dst := Option.some 7, op := Go.Op.load 24 (Go.Operand.tmp 6), type := 24, pos := "deep.go:20", after := #[{ on := 2, ground := Go.Ground.data }], guard := Option.none }) (v := ?_) rfl (by kernel_rfl) (by kernel_rfl) (by kernel_rfl) (fun _ _ _ h => h) (Or.inl ⟨by rfl, ?_⟩) (by assumption) ?_
  rotate_left
  · (intro w hSw; (try dsimp only at hSw); go_simp; try with_reducible rfl)
  try simp only [Act.put, List.setIfInBounds_toArray, List.set_cons_zero, List.set_cons_succ]
  refine wpAnyH_take (i := 5) (oi := { dst := Option.some 9, op := Go.Op.move (Go.Operand.tmp 0), type := 145, pos := "deep.go:20", after := #[], guard := Option.none }) (v := ?_) rfl (by kernel_rfl) (by kernel_rfl) (by kernel_rfl) (fun _ _ _ h => h) (Or.inl ⟨by rfl, ?_⟩) (by assumption) ?_
  rotate_left
  · (intro w hSw; (try dsimp only at hSw); go_simp; try with_reducible rfl)
  try simp only [Act.put, List.setIfInBounds_toArray, List.set_cons_zero, List.set_cons_succ]
  refine wpAnyH_take (i := 6) (oi := { dst := Option.some 10, op := Go.Op.nilCheck (Go.Operand.tmp 9), type := 0, pos := "deep.go:20", after := #[{ on := 5, ground := Go.Ground.data }], guard := Option.none }) (v := ?_) rfl (by kernel_rfl) (by kernel_rfl) (by kernel_rfl) (fun _ _ _ h => h) (Or.inl ⟨by rfl, ?_⟩) (by assumption) ?_
  rotate_left
  · (intro w hSw; (try dsimp only at hSw); go_simp; try with_reducible rfl)
  try simp only [Act.put, List.setIfInBounds_toArray, List.set_cons_zero, List.set_cons_succ]
  refine wpAnyH_take (i := 7) (oi := { dst := Option.some 11, op := Go.Op.fieldAddr 54 (Go.Operand.tmp 10) 8, type := 0, pos := "deep.go:20", after := #[{ on := 6, ground := Go.Ground.data }], guard := Option.none }) (v := ?_) rfl (by kernel_rfl) (by kernel_rfl) (by kernel_rfl) (fun _ _ _ h => h) (Or.inl ⟨by rfl, ?_⟩) (by assumption) ?_
  rotate_left
  · (intro w hSw; (try dsimp only at hSw); go_simp; try with_reducible rfl)
  try simp only [Act.put, List.setIfInBounds_toArray, List.set_cons_zero, List.set_cons_succ]
  refine wpAnyH_take (i := 8) (oi := { dst := Option.some 12, op := Go.Op.load 47 (Go.Operand.tmp 11), type := 47, pos := "deep.go:20", after := #[{ on := 7, ground := Go.Ground.data }], guard := Option.none }) (v := ?_) rfl (by kernel_rfl) (by kernel_rfl) (by kernel_rfl) (fun _ _ _ h => h) (Or.inl ⟨by rfl, ?_⟩) (by assumption) ?_
  rotate_left
  · (intro w hSw; (try dsimp only at hSw); go_simp; try with_reducible rfl)
  try simp only [Act.put, List.setIfInBounds_toArray, List.set_cons_zero, List.set_cons_succ]
  refine wpAnyH_take (i := 10) (oi := { dst := Option.some 14, op := Go.Op.move (Go.Operand.tmp 0), type := 145, pos := "deep.go:20", after := #[], guard := Option.none }) (v := ?_) rfl (by kernel_rfl) (by kernel_rfl) (by kernel_rfl) (fun _ _ _ h => h) (Or.inl ⟨by rfl, ?_⟩) (by assumption) ?_
  rotate_left
  · (intro w hSw; (try dsimp only at hSw); go_simp; try with_reducible rfl)
  try simp only [Act.put, List.setIfInBounds_toArray, List.set_cons_zero, List.set_cons_succ]
  refine wpAnyH_take (i := 11) (oi := { dst := Option.some 15, op := Go.Op.nilCheck (Go.Operand.tmp 14), type := 0, pos := "deep.go:20", after := #[{ on := 10, ground := Go.Ground.data }], guard := Option.none }) (v := ?_) rfl (by kernel_rfl) (by kernel_rfl) (by kernel_rfl) (fun _ _ _ h => h) (Or.inl ⟨by rfl, ?_⟩) (by assumption) ?_
  rotate_left
  · (intro w hSw; (try dsimp only at hSw); go_simp; try with_reducible rfl)
  try simp only [Act.put, List.setIfInBounds_toArray, List.set_cons_zero, List.set_cons_succ]
  refine wpAnyH_take (i := 12) (oi := { dst := Option.some 16, op := Go.Op.fieldAddr 54 (Go.Operand.tmp 15) 9, type := 0, pos := "deep.go:20", after := #[{ on := 11, ground := Go.Ground.data }], guard := Option.none }) (v := ?_) rfl (by kernel_rfl) (by kernel_rfl) (by kernel_rfl) (fun _ _ _ h => h) (Or.inl ⟨by rfl, ?_⟩) (by assumption) ?_
  rotate_left
  · (intro w hSw; (try dsimp only at hSw); go_simp; try with_reducible rfl)
  try simp only [Act.put, List.setIfInBounds_toArray, List.set_cons_zero, List.set_cons_succ]
  refine wpAnyH_take (i := 13) (oi := { dst := Option.some 17, op := Go.Op.load 47 (Go.Operand.tmp 16), type := 47, pos := "deep.go:20", after := #[{ on := 12, ground := Go.Ground.data }], guard := Option.none }) (v := ?_) rfl (by kernel_rfl) (by kernel_rfl) (by kernel_rfl) (fun _ _ _ h => h) (Or.inl ⟨by rfl, ?_⟩) (by assumption) ?_
  rotate_left
  · (intro w hSw; (try dsimp only at hSw); go_simp; try with_reducible rfl)
  try simp only [Act.put, List.setIfInBounds_toArray, List.set_cons_zero, List.set_cons_succ]
  refine wpAnyH_ready (rs := [4]) (by kernel_rfl) (by simp) ?_
  refine AllReadyH.cons (o := { dst := Option.some 8, op := Go.Op.call { callee := Go.Callee.value (Go.Operand.func 81), args := #[Go.Operand.tmp 7, Go.Operand.func 38], argTypes := #[24, 72] }, type := 3, pos := "deep.go:20", after := #[{ on := 3, ground := Go.Ground.data }], guard := Option.none }) rfl (fun K hK => ?_) AllReadyH.nil
  go_simp
  refine (HGd.out _ HS1).mono ?_
  rintro z w2 ⟨rfl, rfl⟩
  refine hK.out _ _ ?_ (fun hHeld => ?_)
  · exact ⟨HS1, (HS1.cell hbw).trans x11, (HS1.cell hbw).trans x14, (HS1.cell hbw).trans x15⟩
  clear hK K
  try simp only [Act.put, List.setIfInBounds_toArray, List.set_cons_zero, List.set_cons_succ]
  refine wpAnyH_ready (rs := [9]) (by kernel_rfl) (by simp) ?_
  refine AllReadyH.cons (o := { dst := Option.some 13, op := Go.Op.call { callee := Go.Callee.value (Go.Operand.func 74), args := #[Go.Operand.tmp 12, Go.Operand.func 75], argTypes := #[47, 121] }, type := 3, pos := "deep.go:20", after := #[{ on := 8, ground := Go.Ground.data }, { on := 4, ground := Go.Ground.chain }], guard := Option.none }) rfl (fun K hK => ?_) AllReadyH.nil
  go_simp
  refine (HBd.out _ HS1).mono ?_
  rintro z w3 ⟨rfl, hB2⟩
  replace HS1 := HS1.trans (hB2.mono HS1.size)
  clear hB2
  refine hK.out _ _ ?_ (fun hHeld => ?_)
  · exact ⟨HS1, (HS1.cell hbw).trans x11, (HS1.cell hbw).trans x14, (HS1.cell hbw).trans x15⟩
  clear hK K
  try simp only [Act.put, List.setIfInBounds_toArray, List.set_cons_zero, List.set_cons_succ]
  refine wpAnyH_ready (rs := [14]) (by kernel_rfl) (by simp) ?_
  refine AllReadyH.cons (o := { dst := Option.some 18, op := Go.Op.call { callee := Go.Callee.value (Go.Operand.func 74), args := #[Go.Operand.tmp 17, Go.Operand.func 75], argTypes := #[47, 121] }, type := 3, pos := "deep.go:20", after := #[{ on := 13, ground := Go.Ground.data }, { on := 9, ground := Go.Ground.chain }], guard := Option.none }) rfl (fun K hK => ?_) AllReadyH.nil
  go_simp
  refine (HEl.out _ HS1).mono ?_
  rintro z w4 ⟨rfl, hB2⟩
  replace HS1 := HS1.trans (hB2.mono HS1.size)
  clear hB2
  refine hK.out _ _ ?_ (fun hHeld => ?_)
  · exact ⟨HS1, (HS1.cell hbw).trans x11, (HS1.cell hbw).trans x14, (HS1.cell hbw).trans x15⟩
  clear hK K
  try simp only [Act.put, List.setIfInBounds_toArray, List.set_cons_zero, List.set_cons_succ]
  refine wpAnyH_take (i := 15) (oi := { dst := Option.some 19, op := Go.Op.call { callee := Go.Callee.builtin Go.Builtin.max, args := #[Go.Operand.tmp 8, Go.Operand.tmp 13, Go.Operand.tmp 18], argTypes := #[3, 3, 3] }, type := 3, pos := "deep.go:20", after := #[{ on := 4, ground := Go.Ground.data }, { on := 9, ground := Go.Ground.data }, { on := 14, ground := Go.Ground.data }], guard := Option.none }) (v := .int .i64 (m1 : Nat)) rfl (by kernel_rfl) (by kernel_rfl) (by kernel_rfl) (fun _ _ _ h => h) (Or.inl ⟨by rfl, ?_⟩) (by assumption) ?_
  · (intro w hSw; (try dsimp only at hSw); go_simp; (try rw [hmx]); (try rfl))
  try simp only [Act.put, List.setIfInBounds_toArray, List.set_cons_zero, List.set_cons_succ]
  refine wpAnyH_take (i := 16) (oi := { dst := Option.some 3, op := Go.Op.assign (Go.Operand.tmp 19), type := 3, pos := "deep.go:20", after := #[{ on := 15, ground := Go.Ground.data }, { on := 14, ground := Go.Ground.chain }, { on := 0, ground := Go.Ground.phase }, { on := 1, ground := Go.Ground.phase }, { on := 2, ground := Go.Ground.phase }, { on := 3, ground := Go.Ground.phase }, { on := 4, ground := Go.Ground.phase }, { on := 5, ground := Go.Ground.phase }, { on := 6, ground := Go.Ground.phase }, { on := 7, ground := Go.Ground.phase }, { on := 8, ground := Go.Ground.phase }, { on := 9, ground := Go.Ground.phase }, { on := 10, ground := Go.Ground.phase }, { on := 11, ground := Go.Ground.phase }, { on := 12, ground := Go.Ground.phase }, { on := 13, ground := Go.Ground.phase }, { on := 14, ground := Go.Ground.phase }, { on := 15, ground := Go.Ground.phase }], guard := Option.none }) (v := ?_) rfl (by kernel_rfl) (by kernel_rfl) (by kernel_rfl) (fun _ _ _ h => h) (Or.inl ⟨by rfl, ?_⟩) (by assumption) ?_
  rotate_left
  · (intro w hSw; (try dsimp only at hSw); go_simp; try with_reducible rfl)
  try simp only [Act.put, List.setIfInBounds_toArray, List.set_cons_zero, List.set_cons_succ]
  refine wpAnyH_done (by kernel_rfl) ?_ _
  have HA20 := Lib.hid (HEt.out _ HS1)
  go_wp2_with fail
  refine (isZero_any e b (o + 3) N _ HA20.out).mono ?_
  rintro z w' ⟨rfl, rfl⟩
  cases hne : e.none with
  | true =>
    have dqe : e.dp = 0 := by unfold Ex.dp; rw [hne]; rfl
    have HA21 := Lib.hid (HAt.out _ HS1)
    go_wp2_with fail
    refine (isZero_any a b (o + 7) N _ HA21.out).mono ?_
    rintro z w' ⟨rfl, rfl⟩
    cases hna : a.none with
    | true =>
      have dqa : a.dp = 0 := by unfold Ex.dp; rw [hna]; rfl
      have HFin := Lib.hid (show max (max (max (max db de) dg) e.dp) a.dp + 1 = 1 + m1 by have := HM1.out; (try have t20 := HM20.out); (try have t21 := HM21.out); (try have t22 := HM22.out); (try have t23 := HM23.out); (try have t24 := HM24.out); (try have t25 := HM25.out); (try have t26 := HM26.out); (try have t27 := HM27.out); (try have t28 := HM28.out); (try have t29 := HM29.out); omega)
      have hz1 : IntKind.i64.wrap (1 + (m1 : Int)) = 1 + (m1 : Int) := IntWalk.i64_in _ (by omega)
      go_wp2_with fail
      go_ret
      exact ⟨ret_int (by rw [HFin.out]; omega), HS1⟩
    | false =>
      have dqa : a.dp = a.depth := by unfold Ex.dp; rw [hna]; rfl
      have HD := Lib.hid (depthOf_any a (by omega) b (o + 7) N _ hb HA21.out)
      rw [← dqa] at HD
      obtain ⟨dav, hdav⟩ : ∃ d, a.dp = d := ⟨_, rfl⟩
      rw [hdav] at HD
      obtain ⟨m21, hm21⟩ : ∃ m, m = max m1 dav := ⟨_, rfl⟩
      have hx21 : max (m1 : Int) (dav : Int) = (m21 : Int) := by omega
      have hy21 : m21 ≤ 1000000 := by omega
      have HM21 := Lib.hid hm21
      clear hm21
      go_wp2_with fail
      refine HD.out.mono ?_
      rintro z w' ⟨rfl, rfl⟩
      have HFin := Lib.hid (show max (max (max (max db de) dg) e.dp) a.dp + 1 = 1 + m21 by have := HM1.out; (try have t20 := HM20.out); (try have t21 := HM21.out); (try have t22 := HM22.out); (try have t23 := HM23.out); (try have t24 := HM24.out); (try have t25 := HM25.out); (try have t26 := HM26.out); (try have t27 := HM27.out); (try have t28 := HM28.out); (try have t29 := HM29.out); omega)
      have hz1 : IntKind.i64.wrap (1 + (m21 : Int)) = 1 + (m21 : Int) := IntWalk.i64_in _ (by omega)
      go_wp2_with fail
      go_ret
      exact ⟨ret_int (by rw [HFin.out]; omega), HS1⟩
  | false =>
    have dqe : e.dp = e.depth := by unfold Ex.dp; rw [hne]; rfl
    have HD := Lib.hid (depthOf_any e (by omega) b (o + 3) N _ hb HA20.out)
    rw [← dqe] at HD
    obtain ⟨dev, hdev⟩ : ∃ d, e.dp = d := ⟨_, rfl⟩
    rw [hdev] at HD
    obtain ⟨m20, hm20⟩ : ∃ m, m = max m1 dev := ⟨_, rfl⟩
    have hx20 : max (m1 : Int) (dev : Int) = (m20 : Int) := by omega
    have hy20 : m20 ≤ 1000000 := by omega
    have HM20 := Lib.hid hm20
    clear hm20
    go_wp2_with fail
    refine HD.out.mono ?_
    rintro z w' ⟨rfl, rfl⟩
    have HA22 := Lib.hid (HAt.out _ HS1)
    go_wp2_with fail
    refine (isZero_any a b (o + 7) N _ HA22.out).mono ?_
    rintro z w' ⟨rfl, rfl⟩
    cases hna : a.none with
    | true =>
      have dqa : a.dp = 0 := by unfold Ex.dp; rw [hna]; rfl
      have HFin := Lib.hid (show max (max (max (max db de) dg) e.dp) a.dp + 1 = 1 + m20 by have := HM1.out; (try have t20 := HM20.out); (try have t21 := HM21.out); (try have t22 := HM22.out); (try have t23 := HM23.out); (try have t24 := HM24.out); (try have t25 := HM25.out); (try have t26 := HM26.out); (try have t27 := HM27.out); (try have t28 := HM28.out); (try have t29 := HM29.out); omega)
      have hz1 : IntKind.i64.wrap (1 + (m20 : Int)) = 1 + (m20 : Int) := IntWalk.i64_in _ (by omega)
      go_wp2_with fail
      go_ret
      exact ⟨ret_int (by rw [HFin.out]; omega), HS1⟩
    | false =>
      have dqa : a.dp = a.depth := by unfold Ex.dp; rw [hna]; rfl
      have HD := Lib.hid (depthOf_any a (by omega) b (o + 7) N _ hb HA22.out)
      rw [← dqa] at HD
      obtain ⟨dav, hdav⟩ : ∃ d, a.dp = d := ⟨_, rfl⟩
      rw [hdav] at HD
      obtain ⟨m22, hm22⟩ : ∃ m, m = max m20 dav := ⟨_, rfl⟩
      have hx22 : max (m20 : Int) (dav : Int) = (m22 : Int) := by omega
      have hy22 : m22 ≤ 1000000 := by omega
      have HM22 := Lib.hid hm22
      clear hm22
      go_wp2_with fail
      refine HD.out.mono ?_
      rintro z w' ⟨rfl, rfl⟩
      have HFin := Lib.hid (show max (max (max (max db de) dg) e.dp) a.dp + 1 = 1 + m22 by have := HM1.out; (try have t20 := HM20.out); (try have t21 := HM21.out); (try have t22 := HM22.out); (try have t23 := HM23.out); (try have t24 := HM24.out); (try have t25 := HM25.out); (try have t26 := HM26.out); (try have t27 := HM27.out); (try have t28 := HM28.out); (try have t29 := HM29.out); omega)
      have hz1 : IntKind.i64.wrap (1 + (m22 : Int)) = 1 + (m22 : Int) := IntWalk.i64_in _ (by omega)
      go_wp2_with fail
      go_ret
      exact ⟨ret_int (by rw [HFin.out]; omega), HS1⟩
theorem deep_to : ∀ n, DeepTo n
  | 0 => fun _ h => absurd h (Nat.not_lt_zero _)
  | n + 1 => deep_step n (deep_to n)
set_option maxHeartbeats 1600000 in
theorem deepS_any (l : Sts) (h6 : l.wt ≤ 1000000) (p : Option Addr) (c N : Nat) (w : World) (h : l.In w N p) (hN : N ≤ w.heap.size) :
    Calls Tryz.prog 29 #[.slice p l.len c] w fun e w' => e = .returned (.int .i64 (l.deep : Nat)) ∧ Below w.heap.size w w' := by
  have HD := Lib.hid (deepestS_step _ (deep_to _) l (Nat.le_refl _) h6 p c N w h hN)
  clear h
  go_enter Tryz.func29, Tryz.ntmps29
  go_wp2_with fail
  refine HD.out.mono ?_
  rintro e w' ⟨rfl, hB⟩
  have HB := Lib.hid hB
  clear hB
  go_wp2_with fail
  go_ret
  exact ⟨rfl, HB.out⟩
end Go.Proofs.YtlhbledakddbbaaGreatDoor
/- Which statements can be told, the program's own: lists, and what a statement has besides. -/
namespace Go.Proofs.YtlhbledakddbbaaGreatDoor
open Go.RowKit

/-- cells written into a row -/
def putA (cur : Array Value) (o : Nat) (vs : Array Value) : Array Value := (cur.toList.take o ++ vs.toList ++ cur.toList.drop (o + vs.size)).toArray
theorem but_row (w : World) (g : Nat) (cs : Array Value) : But g w (w.setRow g cs) :=
  ⟨rfl, rfl, rfl, by simp [World.setRow], fun k _ hk => setRow_other w g k _ (fun e => hk (by omega))⟩
/-- a store into a block of one's own: what lies there behind it, all else as it was -/
theorem wpl_put {P : Program} {ops : Array Oper} {rest : List Oper} {op : Oper} {a : Act} {w : World} {Q : Exit → Act → World → Prop} (hgd : op.guard = none) (ty : TypeId) (x y : Operand) (ho : op.op = .store ty x y) (hd : op.dst = none)
    (g o : Nat) (v : Value) (hx : a.eval x = .pointer (some ⟨g, o, none⟩)) (hy : a.eval y = v) (cur : Array Value) (t : TypeId) (hg : w.heap[g]? = some (.cells cur t (0, 0)))
    (hl : o + v.cells.size ≤ cur.size) (hi : (P.info? ty).map (·.size) = some v.cells.size) (h1 : v.cells.toList.all (·.oneCell') = true)
    (h : ∀ w', w'.heap[g]? = some (.cells (putA cur o v.cells) t (0, 0)) → But g w w' → wpList P ops Q rest a w') : wpList P ops Q (op :: rest) a w :=
  wpList_plain hgd fun _ hK => by
    have hs : (storeVar ty ⟨g, o, none⟩ v).run P w = .ok () (w.setRow g (putA cur o v.cells)) := by
      have := run_storeCells_at (P := P) g o t v.cells.toList 0 cur w hg (by simp; omega) (fun u hu => (List.all_eq_true.1 h1) u hu)
      cases hq : P.info? ty with
      | none => simp [hq] at hi
      | some i =>
        have hz : v.cells.size = i.size := by simp [hq] at hi; omega
        simp only [Nat.add_zero, Array.length_toList] at this
        simp [storeVar, sizeOf, typeInfo, hq, hz, this, putA]
    unfold Oper.wp execOp
    simp only [ho, hx, hy, Instr.storeAt, Instr.sureAddr, Sem.run_bind, Sem.run_pure, Result.andThen_ok, hs]
    refine hK _ _ ?_
    rw [hd]
    exact h _ (setRow_heap w g _ _ t _ hg) (but_row w g _)
/-- a whole struct loaded by a guarded operation that is wanted -/
theorem wpl_load_if {P : Program} {ops : Array Oper} {rest : List Oper} {op : Oper} {a : Act} {w : World} {Q : Exit → Act → World → Prop} (hw : Region.wanted op (yielded ops a.tmps) = true) (ty : TypeId) (x : Operand) (ho : op.op = .load ty x)
    (b o : Nat) (hx : a.eval x = .pointer (some ⟨b, o, none⟩)) (A : Array Value) (d : TypeDesc) (hc : w.rangeAt b o A.toList)
    (hu : P.underlying ty = some d) (hd : d.isRow = true) (hi : (P.info? ty).map (·.size) = some A.size)
    (h : wpList P ops Q rest (a.put op.dst (.agg A)) w) : wpList P ops Q (op :: rest) a w := by
  refine wpList_step fun K hK => ?_
  rw [if_pos hw]
  refine wp_load_mid ty x ho b o hx A.toList d hc hu hd (by rw [hi]; simp) ?_
  simp only [Array.toArray_toList]
  exact hK _ _ h
theorem But.below {g B : Nat} {w w1 w2 : World} (h : But g w1 w2) (hB : Below B w w1) (hg : B ≤ g) (hz : B ≤ w1.heap.size) : Below B w w2 :=
  hB.trans ⟨h.os, h.tape, h.output, h.size, fun k hk => by
    exact h.block k (by omega) (by omega)⟩
theorem range_block {w : World} {g : Nat} {A : Array Value} {t : TypeId} {fz : Nat × Nat} (h : w.heap[g]? = some (.cells A t fz)) : w.rangeAt g 0 A.toList := by
  intro j v hv
  rw [Nat.zero_add]
  rw [← Array.getElem?_toList] at *
  simp [World.cell?, h, ← Array.getElem?_toList, hv]
theorem cell_block {w : World} {g : Nat} {A : Array Value} {t : TypeId} {fz : Nat × Nat} (h : w.heap[g]? = some (.cells A t fz)) {j : Nat} {v : Value} (hv : A[j]? = some v) : w.cell? ⟨g, j, none⟩ = some v := by
  simp [World.cell?, h, hv]

set_option maxHeartbeats 1600000 in
theorem everyStr_any (ns : List (List UInt8)) (p : Option Addr) (c N : Nat) (w : World) (h : RowIn N (StrAt w) 1 ns p) :
    Calls Tryz.prog 94 #[.slice p ns.length c, .func (.func 78) #[] #[]] w fun e w' => e = .returned (.bool (namesB ns)) ∧ w = w' := by
  rcases h with ⟨hm, h0 | ⟨b, o, rfl, hb, ha⟩⟩
  · go_enter Tryz.func94, Tryz.ntmps94
    go_wp2_with fail
    go_loopw [9] (fun i wr => i = .int .i64 0 ∧ wr = w) (fun _ _ => 0)
    case atStart => exact ⟨rfl, rfl⟩
    case round =>
      obtain ⟨rfl, rfl⟩ := hrel
      have hge : ¬ 0 < ns.length := by omega
      go_wp2_with fail
      go_ret
      exact ⟨ret_bool (by cases ns with | nil => rfl | cons => simp at h0), rfl⟩
  · have HA := Lib.hid ha
    clear ha
    go_enter Tryz.func94, Tryz.ntmps94
    go_wp2_with fail
    go_loopw [9] (fun i wr => ∃ (k : Nat) (r : List (List UInt8)), i = .int .i64 k ∧ k + r.length = ns.length ∧ Hid (Row (StrAt w) 1 r b (o + k * 1)) ∧ Hid (namesB ns = namesB r) ∧ wr = w) (fun i _ => ns.length - (intOf i).toNat)
    case atStart => exact ⟨0, ns, rfl, by omega, Lib.hid (by simpa using HA.out), Lib.hid rfl, rfl⟩
    case round =>
      obtain ⟨k, r, rfl, hk, hr, hE, rfl⟩ := hrel
      cases r with
      | nil =>
        simp only [List.length_nil] at hk
        have hge : ¬ k < ns.length := by omega
        go_wp2_with fail
        go_ret
        exact ⟨ret_bool (by rw [hE.out]; rfl), rfl⟩
      | cons x r =>
        obtain ⟨hx, hr2⟩ := hr.out
        have hr3 := Lib.hid (show Row (StrAt wr) 1 r b (o + (k + 1) * 1) by rw [show o + (k + 1) * 1 = o + k * 1 + 1 by omega]; exact hr2)
        simp only [List.length_cons] at hk
        have hlt : k < ns.length := by omega
        have hx1 : wr.cell? ⟨b, o + k * 1, none⟩ = some (.string (str x)) := hx
        have hx2 : wr.cell? ⟨b, o + k, none⟩ = some (.string (str x)) := by rw [Nat.mul_one] at hx1; exact hx1
        have HNm := Lib.hid (fun w => name_any (str x) w)
        rw [str_data] at HNm
        have HE := Lib.hid (show namesB ns = (nameB x && namesB r) by rw [hE.out]; simp [namesB])
        clear hr hx hr2 hE
        obtain ⟨m, hm'⟩ : ∃ m, nameB x = m := ⟨_, rfl⟩
        rw [hm'] at HE HNm
        cases m
        · go_wp2_with fail
          refine (HNm.out _).mono ?_
          rintro e w2 ⟨rfl, rfl⟩
          go_wp2_with fail
          go_ret
          exact ⟨ret_bool (by rw [HE.out]; rfl), rfl⟩
        · go_wp2_with fail
          refine (HNm.out _).mono ?_
          rintro e w2 ⟨rfl, rfl⟩
          go_wp2_with fail
          go_roundw
          case rel => exact ⟨k + 1, r, by go_num, by omega, hr3, Lib.hid (by rw [HE.out]; simp), trivial⟩
          case measure => simp [intOf]; omega

theorem everyEx_any (l : Exs) (p : Option Addr) (c N : Nat) (w : World) (hN : N ≤ w.heap.size) (h : l.In w N p) :
    Calls Tryz.prog 77 #[.slice p l.len c, .func (.func 35) #[] #[]] w fun e w' => e = .returned (.bool l.may) ∧ Below w.heap.size w w' :=
  every_step _ (fun x _ p c N w hN hx => mayExpr_any x p c N w hN hx) l (Nat.le_refl _) p c N w hN h

def MayS (n : Nat) : Prop := ∀ (x : St), x.size < n → ∀ (s : StP) (N : Nat) (w : World), N ≤ w.heap.size → x.Ok w N s →
    Calls Tryz.prog 106 #[x.val s] w fun e w' => e = .returned (.bool x.may) ∧ Below w.heap.size w w'
set_option maxRecDepth 100000 in
set_option maxHeartbeats 3200000 in
theorem everyS_step (n : Nat) (ih : MayS n) (l : Sts) (hl : l.size ≤ n) (p : Option Addr) (c N : Nat) (w : World) (hN : N ≤ w.heap.size) (h : l.In w N p) :
    Calls Tryz.prog 105 #[.slice p l.len c, .func (.func 106) #[] #[]] w fun e w' => e = .returned (.bool l.may) ∧ Below w.heap.size w w' := by
  have IH := Lib.hid ih
  have S1 := Lib.hid h
  have hm1 := h.1
  have HNN := Lib.hid hN
  clear ih h hN
  go_enter Tryz.func105, Tryz.ntmps105
  go_wp2_with fail
  go_loopw [9] (fun i wr => ∃ (k : Nat) (r : Sts), i = .int .i64 k ∧ k + r.len = l.len ∧ r.size ≤ n ∧ Hid (∀ b o, p = some ⟨b, o, none⟩ → l.At w N b o → r.At w N b (o + k * 16)) ∧ Hid (l.may = r.may) ∧ Hid (Below w.heap.size w wr)) (fun i _ => l.len - (intOf i).toNat)
  case atStart => exact ⟨0, l, rfl, by omega, hl, Lib.hid fun b o _ h => by rw [Nat.zero_mul]; exact h, Lib.hid rfl, Lib.hid (Below.refl _ _)⟩
  case round =>
    obtain ⟨k, r, rfl, hk, hrs, hat, hE, hB⟩ := hrel
    cases r with
    | nil =>
      simp only [Sts.len] at hk
      have hge : ¬ k < l.len := by omega
      go_wp2_with fail
      go_ret
      exact ⟨ret_bool (by rw [hE.out]; rfl), hB.out⟩
    | cons x r =>
      simp only [Sts.len] at hk
      simp only [Sts.size] at hrs
      have hlt : k < l.len := by omega
      obtain ⟨wo, rfl⟩ : ∃ wo : World, wo = wr := ⟨_, rfl⟩
      rcases S1.out.2 with h30 | ⟨b, o, rfl, hb, ha⟩
      · omega
      obtain ⟨hx, hr⟩ := hat.out b o rfl ha
      have HR := Lib.hid hr
      obtain ⟨s, c1, ok1⟩ := St.At.openP (St.At.later (hB.out.mono HNN.out) (Nat.le_trans HNN.out hB.out.size) x b _ hb hx)
      have hbl : b < wo.heap.size := by have := hB.out.size; have := HNN.out; omega
      obtain ⟨A1, hA1⟩ : ∃ A1, x.cells s = A1 := ⟨_, rfl⟩
      have HZ1 := Lib.hid (show A1.size = 16 by rw [← hA1]; rfl)
      have HO1 := Lib.hid (show A1.all (·.oneCell') = true by rw [← hA1]; exact oneSt _ _)
      have F1 := Lib.hid (show wo.rangeAt b (o + k * 16) A1.toList from fun j z hz => c1 j z (by rw [hA1, ← Array.getElem?_toList]; exact hz))
      have HI1 := Lib.hid (infoSt.trans (by rw [HZ1.out]) : (Tryz.prog.info? 54).map (·.size) = some A1.size)
      obtain ⟨W1, hW1⟩ : ∃ W1, wo.alloc (Obj.cells A1 54) = W1 := ⟨_, rfl⟩
      have HW1 := Lib.hid (show Below wo.heap.size wo W1 by rw [← hW1]; exact (Below.refl _ wo).alloc (Nat.le_refl _) _)
      have F2 := Lib.hid (show W1.rangeAt wo.heap.size 0 A1.toList by rw [← hW1]; exact range_new wo A1 _)
      have HC := Lib.hid (IH.out x (by omega) s wo.heap.size W1 HW1.out.size (ok1.later HW1.out (Nat.le_refl _)))
      unfold St.val at HC
      rw [hA1] at HC
      have HE := Lib.hid (show l.may = (x.may && r.may) by rw [hE.out, Sts.may])
      obtain ⟨m, hm'⟩ : ∃ m, x.may = m := ⟨_, rfl⟩
      rw [hm'] at HE HC
      clear ok1 hA1 c1 hx hr ha hE hm'
      go_wp2_with (first | (refine wpl_load rfl 54 _ rfl b (o + k * 16) rfl A1 _ F1.out Tryz.underlying54 rfl HI1.out ?_) | (refine wpl_store_new rfl 54 _ _ rfl _ A1 _ rfl rfl (by rw [HZ1.out]; rfl) HI1.out HO1.out ?_; rw [hW1]) | (refine wpl_load rfl 54 _ rfl wo.heap.size 0 rfl A1 _ F2.out Tryz.underlying54 rfl HI1.out ?_))
      refine HC.out.mono ?_
      rintro e w2 ⟨rfl, hB2⟩
      have HB3 := Lib.hid (hB.out.trans ((HW1.out.trans (hB2.mono HW1.out.size)).mono hB.out.size))
      clear hB2
      cases m
      · go_wp2_with fail
        go_ret
        exact ⟨ret_bool (by rw [HE.out]; rfl), HB3.out⟩
      · go_wp2_with fail
        go_roundw
        case rel => exact ⟨k + 1, r, by go_num, by omega, by omega, Lib.hid fun b' o' e _ => by cases e; rw [show o + (k + 1) * 16 = o + k * 16 + 16 by omega]; exact HR.out, Lib.hid (by rw [HE.out]; simp), HB3⟩
        case measure => simp [intOf]; omega
end Go.Proofs.YtlhbledakddbbaaGreatDoor
/- A statement's first line: the program's firstLine. -/
namespace Go.Proofs.YtlhbledakddbbaaGreatDoor
open Go.RowKit

/-- the cells of a statement that lies there, its expressions as they lie -/
theorem St.At.parts {w : World} {N : Nat} {kd : Int} {nm : List UInt8} {ns : List (List UInt8)} {e a : Ex} {g : Exs} {lo hi : Nat} {bd el : Sts} {b o : Nat} (h : (St.mk kd nm ns e a g lo hi bd el).At w N b o) :
    w.cell? ⟨b, o, none⟩ = some (.int .i64 kd) ∧ w.cell? ⟨b, o + 1, none⟩ = some (.string (str nm)) ∧ e.At w N b (o + 3) ∧ a.At w N b (o + 7) ∧ (∃ p c, w.cell? ⟨b, o + 2, none⟩ = some (.slice p ns.length c) ∧ (ns.length ≤ c ∧ RowIn N (StrAt w) 1 ns p)) ∧
    (∃ p c, w.cell? ⟨b, o + 11, none⟩ = some (.slice p g.len c) ∧ g.In w N p) ∧ w.cell? ⟨b, o + 12, none⟩ = some (.int .u64 (lo : Int)) ∧ w.cell? ⟨b, o + 13, none⟩ = some (.int .u64 (hi : Int)) ∧ lo < 18446744073709551616 ∧ hi < 18446744073709551616 ∧
    (∃ p c, w.cell? ⟨b, o + 14, none⟩ = some (.slice p bd.len c) ∧ bd.In w N p) ∧ (∃ p c, w.cell? ⟨b, o + 15, none⟩ = some (.slice p el.len c) ∧ el.In w N p) := by
  obtain ⟨⟨h0, h1, h2, h3, h4, h5⟩, s1, he, ha, s2, s3, s4⟩ := h
  exact ⟨h0, h1, he, ha, s1, s2, h2, h3, h4, h5, s3, s4⟩
theorem Glob.tab {w : World} (h : Glob w) (B : Nat) (hB : w.heap.size ≤ B) : Lib.TabBelow Tryz.prog B w "internal/strconv.uint64pow10" .u64 Lib.pow10Tab := fun w2 h2 => h w2 (h2.mono hB)

set_option maxRecDepth 100000 in
set_option maxHeartbeats 6400000 in
theorem first_1 (nm : List UInt8) (ns : List (List UInt8)) (e a : Ex) (g : Exs) (lo hi : Nat) (bd el : Sts) (he : e.may = true) (b o m : Nat) (w : World) (hb : b < w.heap.size) (hx : (St.mk 1 nm ns e a g lo hi bd el).At w w.heap.size b o) (hmp : w.heap[m]? = some (fmap signT)) (hG : Glob w) (hl : (St.mk 1 nm ns e a g lo hi bd el).first.length ≤ 1000000) :
    Calls Tryz.prog 109 #[.agg #[.map (some m)], .pointer (some ⟨b, o, none⟩)] w fun z w' => z = .returned (.string (str (St.mk 1 nm ns e a g lo hi bd el).first)) ∧ Below w.heap.size w w' := by
  have ht : (St.mk 1 nm ns e a g lo hi bd el).first = ((nm ++ [32, 61, 32]) ++ e.text) ++ [59] := by rw [← first_eq, firstT, if_pos rfl]
  have hlen : nm.length + e.text.length ≤ 1000000 := by rw [ht] at hl; simp only [List.length_append, List.length_cons, List.length_nil] at hl; omega
  obtain ⟨W1, hW1⟩ : ∃ W1, w.alloc (.cells #[.map (some m)] 68) = W1 := ⟨_, rfl⟩
  have hB1 : Below w.heap.size w W1 := by rw [← hW1]; exact (Below.refl _ _).alloc (Nat.le_refl _) _
  have hz1 : W1.heap.size = w.heap.size + 1 := by rw [← hW1]; simp
  have xt : W1.cell? ⟨w.heap.size, 0, none⟩ = some (.map (some m)) := cell_block (show W1.heap[w.heap.size]? = some (.cells #[.map (some m)] 68 (0, 0)) by rw [← hW1]; exact heap_alloc_new w _) rfl
  obtain ⟨y0, y1, ye, ya, ⟨pn, cn, y2, hcn, sn⟩, ⟨pg, cg, y11, sg⟩, y12, y13, hlo, hhi, _, _⟩ := hx.parts
  have x0 := (hB1.cell hb).trans y0
  have x1 := (hB1.cell hb).trans y1
  have x2 := (hB1.cell hb).trans y2
  have x11 := (hB1.cell hb).trans y11
  have x12 := (hB1.cell hb).trans y12
  have x13 := (hB1.cell hb).trans y13
  have hmp1 := (hB1.block m (lt_of_block hmp)).trans hmp
  have hb1 : b < W1.heap.size := by omega
  have ht1 : w.heap.size < W1.heap.size := by omega
  have hG1 := hG.later hB1
  have HB1 := Lib.hid hB1
  have HTe := Lib.hid (fun (w1 : World) (hB : Below W1.heap.size W1 w1) => exprText_any e he b (o + 3) m w1 (Nat.lt_of_lt_of_le hb1 hB.size) (Ex.At.later ((hB1.trans (hB.mono hB1.size))) (Nat.le_trans hB1.size hB.size) e b (o + 3) hb ye) ((hB.block m (lt_of_block hmp1)).trans hmp1) (hG1.later hB) (by omega))
  obtain ⟨NM, hNM⟩ : ∃ A, A = str (nm) := ⟨_, rfl⟩
  obtain ⟨A0, hA0⟩ : ∃ A, A = str (e.text) := ⟨_, rfl⟩
  rw [← hNM] at x1
  rw [← hA0] at HTe
  obtain ⟨B4, hB4⟩ : ∃ B, B = str (nm ++ [32, 61, 32]) := ⟨_, rfl⟩
  obtain ⟨B10, hB10⟩ : ∃ B, B = str ((nm ++ [32, 61, 32]) ++ e.text) := ⟨_, rfl⟩
  obtain ⟨B11, hB11⟩ : ∃ B, B = str (((nm ++ [32, 61, 32]) ++ e.text) ++ [59]) := ⟨_, rfl⟩
  have qB4 : ∀ w : World, (Op.stringOp .add NM ⟨#[32, 61, 32]⟩).run Tryz.prog w = .ok (.string B4) w := fun w => by
    (try rw [hB4]); (try rw [hNM]); exact add_str (nm) ([32, 61, 32]) (by simp only [List.length_cons, List.length_nil] at hlen ⊢; omega) w
  have qB10 : ∀ w : World, (Op.stringOp .add B4 A0).run Tryz.prog w = .ok (.string B10) w := fun w => by
    (try rw [hB10]); (try rw [hB4]); (try rw [hA0]); exact add_str ((nm ++ [32, 61, 32])) (e.text) (by simp only [List.length_append, List.length_cons, List.length_nil] at hlen ⊢; omega) w
  have qB11 : ∀ w : World, (Op.stringOp .add B10 ⟨#[59]⟩).run Tryz.prog w = .ok (.string B11) w := fun w => by
    (try rw [hB11]); (try rw [hB10]); exact add_str (((nm ++ [32, 61, 32]) ++ e.text)) ([59]) (by simp only [List.length_append, List.length_cons, List.length_nil] at hlen ⊢; omega) w
  have HF := Lib.hid (show str (St.mk 1 nm ns e a g lo hi bd el).first = B11 by rw [ht, hB11])
  clear hNM hA0 hB4 hB10 hB11 hl ht hx y0 y1 y2 y11 y12 y13 ye ya sn sg hG hG1 hmp hmp1 hB1 hlo hhi x2 x11 x12 x13
  go_enter Tryz.func109, Tryz.ntmps109
  go_wp2_with fail
  clear hW1 x0
  have HS : Below W1.heap.size W1 W1.drew := (Below.refl _ _).drew
  refine wp_region_held_drew (S := fun W => Below W1.heap.size W1 W ∧ W.cell? ⟨w.heap.size, 0, none⟩ = some (.map (some m)) ∧ W.cell? ⟨b, o + 1, none⟩ = some (.string NM)) (by kernel_rfl) ?_ (fun hHeld => ?_)
  · exact ⟨HS, (HS.cell ht1).trans xt, (HS.cell hb1).trans x1⟩
  refine wpAnyH_take (i := 0) (oi := { dst := Option.some 12, op := Go.Op.move (Go.Operand.tmp 1), type := 145, pos := "lines.go:84", after := #[], guard := Option.none }) (v := ?_) rfl (by kernel_rfl) (by kernel_rfl) (by kernel_rfl) (fun _ _ _ h => h) (Or.inl ⟨by rfl, ?_⟩) (by assumption) ?_
  rotate_left
  · (intro w hSw; (try dsimp only at hSw); go_simp; try with_reducible rfl)
  try simp only [Act.put, List.setIfInBounds_toArray, List.set_cons_zero, List.set_cons_succ]
  refine wpAnyH_take (i := 1) (oi := { dst := Option.some 13, op := Go.Op.nilCheck (Go.Operand.tmp 12), type := 0, pos := "lines.go:84", after := #[{ on := 0, ground := Go.Ground.data }], guard := Option.none }) (v := ?_) rfl (by kernel_rfl) (by kernel_rfl) (by kernel_rfl) (fun _ _ _ h => h) (Or.inl ⟨by rfl, ?_⟩) (by assumption) ?_
  rotate_left
  · (intro w hSw; (try dsimp only at hSw); go_simp; try with_reducible rfl)
  try simp only [Act.put, List.setIfInBounds_toArray, List.set_cons_zero, List.set_cons_succ]
  refine wpAnyH_take (i := 2) (oi := { dst := Option.some 14, op := Go.Op.fieldAddr 54 (Go.Operand.tmp 13) 1, type := 0, pos := "lines.go:84", after := #[{ on := 1, ground := Go.Ground.data }], guard := Option.none }) (v := ?_) rfl (by kernel_rfl) (by kernel_rfl) (by kernel_rfl) (fun _ _ _ h => h) (Or.inl ⟨by rfl, ?_⟩) (by assumption) ?_
  rotate_left
  · (intro w hSw; (try dsimp only at hSw); go_simp; try with_reducible rfl)
  try simp only [Act.put, List.setIfInBounds_toArray, List.set_cons_zero, List.set_cons_succ]
  refine wpAnyH_take (i := 3) (oi := { dst := Option.some 15, op := Go.Op.load 9 (Go.Operand.tmp 14), type := 9, pos := "lines.go:84", after := #[{ on := 2, ground := Go.Ground.data }], guard := Option.none }) (v := ?_) rfl (by kernel_rfl) (by kernel_rfl) (by kernel_rfl) (fun _ _ _ h => h) (Or.inl ⟨by rfl, ?_⟩) (by assumption) ?_
  rotate_left
  · (intro w hSw; (try dsimp only at hSw); go_simp; try with_reducible rfl)
  try simp only [Act.put, List.setIfInBounds_toArray, List.set_cons_zero, List.set_cons_succ]
  refine wpAnyH_take (i := 4) (oi := { dst := Option.some 16, op := Go.Op.binOp Go.BinOp.add 9 (Go.Operand.tmp 15) (Go.Operand.const (Go.Value.string { data := #[32, 61, 32] })) 9, type := 9, pos := "lines.go:84", after := #[{ on := 3, ground := Go.Ground.data }], guard := Option.none }) (v := .string B4) rfl (by kernel_rfl) (by kernel_rfl) (by kernel_rfl) (fun _ _ _ h => h) (Or.inl ⟨by rfl, ?_⟩) (by assumption) ?_
  · (intro w hSw; (try dsimp only at hSw); go_simp)
  try simp only [Act.put, List.setIfInBounds_toArray, List.set_cons_zero, List.set_cons_succ]
  refine wpAnyH_take (i := 5) (oi := { dst := Option.some 17, op := Go.Op.load 68 (Go.Operand.tmp 2), type := 68, pos := "lines.go:84", after := #[], guard := Option.none }) (v := ?_) rfl (by kernel_rfl) (by kernel_rfl) (by kernel_rfl) (fun _ _ _ h => h) (Or.inl ⟨by rfl, ?_⟩) (by assumption) ?_
  rotate_left
  · (intro w hSw; (try dsimp only at hSw); go_simp; try with_reducible rfl)
  try simp only [Act.put, List.setIfInBounds_toArray, List.set_cons_zero, List.set_cons_succ]
  refine wpAnyH_take (i := 6) (oi := { dst := Option.some 18, op := Go.Op.move (Go.Operand.tmp 1), type := 145, pos := "lines.go:84", after := #[], guard := Option.none }) (v := ?_) rfl (by kernel_rfl) (by kernel_rfl) (by kernel_rfl) (fun _ _ _ h => h) (Or.inl ⟨by rfl, ?_⟩) (by assumption) ?_
  rotate_left
  · (intro w hSw; (try dsimp only at hSw); go_simp; try with_reducible rfl)
  try simp only [Act.put, List.setIfInBounds_toArray, List.set_cons_zero, List.set_cons_succ]
  refine wpAnyH_take (i := 7) (oi := { dst := Option.some 19, op := Go.Op.nilCheck (Go.Operand.tmp 18), type := 0, pos := "lines.go:84", after := #[{ on := 6, ground := Go.Ground.data }], guard := Option.none }) (v := ?_) rfl (by kernel_rfl) (by kernel_rfl) (by kernel_rfl) (fun _ _ _ h => h) (Or.inl ⟨by rfl, ?_⟩) (by assumption) ?_
  rotate_left
  · (intro w hSw; (try dsimp only at hSw); go_simp; try with_reducible rfl)
  try simp only [Act.put, List.setIfInBounds_toArray, List.set_cons_zero, List.set_cons_succ]
  refine wpAnyH_take (i := 8) (oi := { dst := Option.some 20, op := Go.Op.fieldAddr 54 (Go.Operand.tmp 19) 3, type := 0, pos := "lines.go:84", after := #[{ on := 7, ground := Go.Ground.data }], guard := Option.none }) (v := ?_) rfl (by kernel_rfl) (by kernel_rfl) (by kernel_rfl) (fun _ _ _ h => h) (Or.inl ⟨by rfl, ?_⟩) (by assumption) ?_
  rotate_left
  · (intro w hSw; (try dsimp only at hSw); go_simp; try with_reducible rfl)
  try simp only [Act.put, List.setIfInBounds_toArray, List.set_cons_zero, List.set_cons_succ]
  refine wpAnyH_ready (rs := [9]) (by kernel_rfl) (by simp) ?_
  refine AllReadyH.cons (o := { dst := Option.some 21, op := Go.Op.call { callee := Go.Callee.value (Go.Operand.func 37), args := #[Go.Operand.tmp 17, Go.Operand.tmp 20], argTypes := #[68, 71] }, type := 9, pos := "lines.go:84", after := #[{ on := 5, ground := Go.Ground.data }, { on := 8, ground := Go.Ground.data }], guard := Option.none }) rfl (fun K hK => ?_) AllReadyH.nil
  go_simp
  refine (HTe.out _ HS).mono ?_
  rintro z wa ⟨rfl, hB'⟩
  replace HS := HS.trans (hB'.mono HS.size)
  clear hB'
  refine hK.out _ _ ?_ (fun hHeld => ?_)
  · exact ⟨HS, (HS.cell ht1).trans xt, (HS.cell hb1).trans x1⟩
  clear hK K
  try simp only [Act.put, List.setIfInBounds_toArray, List.set_cons_zero, List.set_cons_succ]
  refine wpAnyH_take (i := 10) (oi := { dst := Option.some 22, op := Go.Op.binOp Go.BinOp.add 9 (Go.Operand.tmp 16) (Go.Operand.tmp 21) 9, type := 9, pos := "lines.go:84", after := #[{ on := 4, ground := Go.Ground.data }, { on := 9, ground := Go.Ground.data }], guard := Option.none }) (v := .string B10) rfl (by kernel_rfl) (by kernel_rfl) (by kernel_rfl) (fun _ _ _ h => h) (Or.inl ⟨by rfl, ?_⟩) (by assumption) ?_
  · (intro w hSw; (try dsimp only at hSw); go_simp)
  try simp only [Act.put, List.setIfInBounds_toArray, List.set_cons_zero, List.set_cons_succ]
  refine wpAnyH_take (i := 11) (oi := { dst := Option.some 23, op := Go.Op.binOp Go.BinOp.add 9 (Go.Operand.tmp 22) (Go.Operand.const (Go.Value.string { data := #[59] })) 9, type := 9, pos := "lines.go:84", after := #[{ on := 10, ground := Go.Ground.data }], guard := Option.none }) (v := .string B11) rfl (by kernel_rfl) (by kernel_rfl) (by kernel_rfl) (fun _ _ _ h => h) (Or.inl ⟨by rfl, ?_⟩) (by assumption) ?_
  · (intro w hSw; (try dsimp only at hSw); go_simp)
  try simp only [Act.put, List.setIfInBounds_toArray, List.set_cons_zero, List.set_cons_succ]
  refine wpAnyH_take (i := 12) (oi := { dst := Option.some 4, op := Go.Op.assign (Go.Operand.tmp 23), type := 9, pos := "lines.go:84", after := #[{ on := 11, ground := Go.Ground.data }, { on := 9, ground := Go.Ground.chain }, { on := 0, ground := Go.Ground.phase }, { on := 1, ground := Go.Ground.phase }, { on := 2, ground := Go.Ground.phase }, { on := 3, ground := Go.Ground.phase }, { on := 4, ground := Go.Ground.phase }, { on := 5, ground := Go.Ground.phase }, { on := 6, ground := Go.Ground.phase }, { on := 7, ground := Go.Ground.phase }, { on := 8, ground := Go.Ground.phase }, { on := 9, ground := Go.Ground.phase }, { on := 10, ground := Go.Ground.phase }, { on := 11, ground := Go.Ground.phase }], guard := Option.none }) (v := ?_) rfl (by kernel_rfl) (by kernel_rfl) (by kernel_rfl) (fun _ _ _ h => h) (Or.inl ⟨by rfl, ?_⟩) (by assumption) ?_
  rotate_left
  · (intro w hSw; (try dsimp only at hSw); go_simp; try with_reducible rfl)
  try simp only [Act.put, List.setIfInBounds_toArray, List.set_cons_zero, List.set_cons_succ]
  refine wpAnyH_done (by kernel_rfl) ?_ _
  have HE := Lib.hid (HB1.out.trans (HS.mono HB1.out.size))
  go_wp2_with fail
  go_ret
  exact ⟨ret_strE HF.out.symm, HE.out⟩
set_option maxRecDepth 100000 in
set_option maxHeartbeats 6400000 in
theorem first_3 (nm : List UInt8) (ns : List (List UInt8)) (e a : Ex) (g : Exs) (lo hi : Nat) (bd el : Sts) (he : e.may = true) (b o m : Nat) (w : World) (hb : b < w.heap.size) (hx : (St.mk 3 nm ns e a g lo hi bd el).At w w.heap.size b o) (hmp : w.heap[m]? = some (fmap signT)) (hG : Glob w) (hl : (St.mk 3 nm ns e a g lo hi bd el).first.length ≤ 1000000) :
    Calls Tryz.prog 109 #[.agg #[.map (some m)], .pointer (some ⟨b, o, none⟩)] w fun z w' => z = .returned (.string (str (St.mk 3 nm ns e a g lo hi bd el).first)) ∧ Below w.heap.size w w' := by
  have ht : (St.mk 3 nm ns e a g lo hi bd el).first = ([105, 102, 32] ++ e.text) ++ [32, 123] := by rw [← first_eq, firstT, if_neg (by decide), if_neg (by decide), if_pos rfl]
  have hlen : e.text.length ≤ 1000000 := by rw [ht] at hl; simp only [List.length_append, List.length_cons, List.length_nil] at hl; omega
  obtain ⟨W1, hW1⟩ : ∃ W1, w.alloc (.cells #[.map (some m)] 68) = W1 := ⟨_, rfl⟩
  have hB1 : Below w.heap.size w W1 := by rw [← hW1]; exact (Below.refl _ _).alloc (Nat.le_refl _) _
  have hz1 : W1.heap.size = w.heap.size + 1 := by rw [← hW1]; simp
  have xt : W1.cell? ⟨w.heap.size, 0, none⟩ = some (.map (some m)) := cell_block (show W1.heap[w.heap.size]? = some (.cells #[.map (some m)] 68 (0, 0)) by rw [← hW1]; exact heap_alloc_new w _) rfl
  obtain ⟨y0, y1, ye, ya, ⟨pn, cn, y2, hcn, sn⟩, ⟨pg, cg, y11, sg⟩, y12, y13, hlo, hhi, _, _⟩ := hx.parts
  have x0 := (hB1.cell hb).trans y0
  have x1 := (hB1.cell hb).trans y1
  have x2 := (hB1.cell hb).trans y2
  have x11 := (hB1.cell hb).trans y11
  have x12 := (hB1.cell hb).trans y12
  have x13 := (hB1.cell hb).trans y13
  have hmp1 := (hB1.block m (lt_of_block hmp)).trans hmp
  have hb1 : b < W1.heap.size := by omega
  have ht1 : w.heap.size < W1.heap.size := by omega
  have hG1 := hG.later hB1
  have HB1 := Lib.hid hB1
  have HTe := Lib.hid (fun (w1 : World) (hB : Below W1.heap.size W1 w1) => exprText_any e he b (o + 3) m w1 (Nat.lt_of_lt_of_le hb1 hB.size) (Ex.At.later ((hB1.trans (hB.mono hB1.size))) (Nat.le_trans hB1.size hB.size) e b (o + 3) hb ye) ((hB.block m (lt_of_block hmp1)).trans hmp1) (hG1.later hB) (by omega))
  obtain ⟨A0, hA0⟩ : ∃ A, A = str (e.text) := ⟨_, rfl⟩
  rw [← hA0] at HTe
  obtain ⟨B5, hB5⟩ : ∃ B, B = str ([105, 102, 32] ++ e.text) := ⟨_, rfl⟩
  obtain ⟨B6, hB6⟩ : ∃ B, B = str (([105, 102, 32] ++ e.text) ++ [32, 123]) := ⟨_, rfl⟩
  have qB5 : ∀ w : World, (Op.stringOp .add ⟨#[105, 102, 32]⟩ A0).run Tryz.prog w = .ok (.string B5) w := fun w => by
    (try rw [hB5]); (try rw [hA0]); exact add_str ([105, 102, 32]) (e.text) (by simp only [List.length_cons, List.length_nil] at hlen ⊢; omega) w
  have qB6 : ∀ w : World, (Op.stringOp .add B5 ⟨#[32, 123]⟩).run Tryz.prog w = .ok (.string B6) w := fun w => by
    (try rw [hB6]); (try rw [hB5]); exact add_str (([105, 102, 32] ++ e.text)) ([32, 123]) (by simp only [List.length_append, List.length_cons, List.length_nil] at hlen ⊢; omega) w
  have HF := Lib.hid (show str (St.mk 3 nm ns e a g lo hi bd el).first = B6 by rw [ht, hB6])
  clear hA0 hB5 hB6 hl ht hx y0 y1 y2 y11 y12 y13 ye ya sn sg hG hG1 hmp hmp1 hB1 hlo hhi x1 x2 x11 x12 x13
  go_enter Tryz.func109, Tryz.ntmps109
  go_wp2_with fail
  clear hW1 x0
  have HS : Below W1.heap.size W1 W1.drew := (Below.refl _ _).drew
  refine wp_region_held_drew (S := fun W => Below W1.heap.size W1 W ∧ W.cell? ⟨w.heap.size, 0, none⟩ = some (.map (some m))) (by kernel_rfl) ?_ (fun hHeld => ?_)
  · exact ⟨HS, (HS.cell ht1).trans xt⟩
  refine wpAnyH_take (i := 0) (oi := { dst := Option.some 46, op := Go.Op.load 68 (Go.Operand.tmp 2), type := 68, pos := "lines.go:88", after := #[], guard := Option.none }) (v := ?_) rfl (by kernel_rfl) (by kernel_rfl) (by kernel_rfl) (fun _ _ _ h => h) (Or.inl ⟨by rfl, ?_⟩) (by assumption) ?_
  rotate_left
  · (intro w hSw; (try dsimp only at hSw); go_simp; try with_reducible rfl)
  try simp only [Act.put, List.setIfInBounds_toArray, List.set_cons_zero, List.set_cons_succ]
  refine wpAnyH_take (i := 1) (oi := { dst := Option.some 47, op := Go.Op.move (Go.Operand.tmp 1), type := 145, pos := "lines.go:88", after := #[], guard := Option.none }) (v := ?_) rfl (by kernel_rfl) (by kernel_rfl) (by kernel_rfl) (fun _ _ _ h => h) (Or.inl ⟨by rfl, ?_⟩) (by assumption) ?_
  rotate_left
  · (intro w hSw; (try dsimp only at hSw); go_simp; try with_reducible rfl)
  try simp only [Act.put, List.setIfInBounds_toArray, List.set_cons_zero, List.set_cons_succ]
  refine wpAnyH_take (i := 2) (oi := { dst := Option.some 48, op := Go.Op.nilCheck (Go.Operand.tmp 47), type := 0, pos := "lines.go:88", after := #[{ on := 1, ground := Go.Ground.data }], guard := Option.none }) (v := ?_) rfl (by kernel_rfl) (by kernel_rfl) (by kernel_rfl) (fun _ _ _ h => h) (Or.inl ⟨by rfl, ?_⟩) (by assumption) ?_
  rotate_left
  · (intro w hSw; (try dsimp only at hSw); go_simp; try with_reducible rfl)
  try simp only [Act.put, List.setIfInBounds_toArray, List.set_cons_zero, List.set_cons_succ]
  refine wpAnyH_take (i := 3) (oi := { dst := Option.some 49, op := Go.Op.fieldAddr 54 (Go.Operand.tmp 48) 3, type := 0, pos := "lines.go:88", after := #[{ on := 2, ground := Go.Ground.data }], guard := Option.none }) (v := ?_) rfl (by kernel_rfl) (by kernel_rfl) (by kernel_rfl) (fun _ _ _ h => h) (Or.inl ⟨by rfl, ?_⟩) (by assumption) ?_
  rotate_left
  · (intro w hSw; (try dsimp only at hSw); go_simp; try with_reducible rfl)
  try simp only [Act.put, List.setIfInBounds_toArray, List.set_cons_zero, List.set_cons_succ]
  refine wpAnyH_ready (rs := [4]) (by kernel_rfl) (by simp) ?_
  refine AllReadyH.cons (o := { dst := Option.some 50, op := Go.Op.call { callee := Go.Callee.value (Go.Operand.func 37), args := #[Go.Operand.tmp 46, Go.Operand.tmp 49], argTypes := #[68, 71] }, type := 9, pos := "lines.go:88", after := #[{ on := 0, ground := Go.Ground.data }, { on := 3, ground := Go.Ground.data }], guard := Option.none }) rfl (fun K hK => ?_) AllReadyH.nil
  go_simp
  refine (HTe.out _ HS).mono ?_
  rintro z wa ⟨rfl, hB'⟩
  replace HS := HS.trans (hB'.mono HS.size)
  clear hB'
  refine hK.out _ _ ?_ (fun hHeld => ?_)
  · exact ⟨HS, (HS.cell ht1).trans xt⟩
  clear hK K
  try simp only [Act.put, List.setIfInBounds_toArray, List.set_cons_zero, List.set_cons_succ]
  refine wpAnyH_take (i := 5) (oi := { dst := Option.some 51, op := Go.Op.binOp Go.BinOp.add 9 (Go.Operand.const (Go.Value.string { data := #[105, 102, 32] })) (Go.Operand.tmp 50) 9, type := 9, pos := "lines.go:88", after := #[{ on := 4, ground := Go.Ground.data }], guard := Option.none }) (v := .string B5) rfl (by kernel_rfl) (by kernel_rfl) (by kernel_rfl) (fun _ _ _ h => h) (Or.inl ⟨by rfl, ?_⟩) (by assumption) ?_
  · (intro w hSw; (try dsimp only at hSw); go_simp)
  try simp only [Act.put, List.setIfInBounds_toArray, List.set_cons_zero, List.set_cons_succ]
  refine wpAnyH_take (i := 6) (oi := { dst := Option.some 52, op := Go.Op.binOp Go.BinOp.add 9 (Go.Operand.tmp 51) (Go.Operand.const (Go.Value.string { data := #[32, 123] })) 9, type := 9, pos := "lines.go:88", after := #[{ on := 5, ground := Go.Ground.data }], guard := Option.none }) (v := .string B6) rfl (by kernel_rfl) (by kernel_rfl) (by kernel_rfl) (fun _ _ _ h => h) (Or.inl ⟨by rfl, ?_⟩) (by assumption) ?_
  · (intro w hSw; (try dsimp only at hSw); go_simp)
  try simp only [Act.put, List.setIfInBounds_toArray, List.set_cons_zero, List.set_cons_succ]
  refine wpAnyH_take (i := 7) (oi := { dst := Option.some 4, op := Go.Op.assign (Go.Operand.tmp 52), type := 9, pos := "lines.go:88", after := #[{ on := 6, ground := Go.Ground.data }, { on := 4, ground := Go.Ground.chain }, { on := 0, ground := Go.Ground.phase }, { on := 1, ground := Go.Ground.phase }, { on := 2, ground := Go.Ground.phase }, { on := 3, ground := Go.Ground.phase }, { on := 4, ground := Go.Ground.phase }, { on := 5, ground := Go.Ground.phase }, { on := 6, ground := Go.Ground.phase }], guard := Option.none }) (v := ?_) rfl (by kernel_rfl) (by kernel_rfl) (by kernel_rfl) (fun _ _ _ h => h) (Or.inl ⟨by rfl, ?_⟩) (by assumption) ?_
  rotate_left
  · (intro w hSw; (try dsimp only at hSw); go_simp; try with_reducible rfl)
  try simp only [Act.put, List.setIfInBounds_toArray, List.set_cons_zero, List.set_cons_succ]
  refine wpAnyH_done (by kernel_rfl) ?_ _
  have HE := Lib.hid (HB1.out.trans (HS.mono HB1.out.size))
  go_wp2_with fail
  go_ret
  exact ⟨ret_strE HF.out.symm, HE.out⟩
set_option maxRecDepth 100000 in
set_option maxHeartbeats 6400000 in
theorem first_4 (nm : List UInt8) (ns : List (List UInt8)) (e a : Ex) (g : Exs) (lo hi : Nat) (bd el : Sts) (he : e.may = true) (b o m : Nat) (w : World) (hb : b < w.heap.size) (hx : (St.mk 4 nm ns e a g lo hi bd el).At w w.heap.size b o) (hmp : w.heap[m]? = some (fmap signT)) (hG : Glob w) (hl : (St.mk 4 nm ns e a g lo hi bd el).first.length ≤ 1000000) :
    Calls Tryz.prog 109 #[.agg #[.map (some m)], .pointer (some ⟨b, o, none⟩)] w fun z w' => z = .returned (.string (str (St.mk 4 nm ns e a g lo hi bd el).first)) ∧ Below w.heap.size w w' := by
  have ht : (St.mk 4 nm ns e a g lo hi bd el).first = ([119, 104, 105, 108, 101, 32] ++ e.text) ++ [32, 123] := by rw [← first_eq, firstT, if_neg (by decide), if_neg (by decide), if_neg (by decide), if_pos rfl]
  have hlen : e.text.length ≤ 1000000 := by rw [ht] at hl; simp only [List.length_append, List.length_cons, List.length_nil] at hl; omega
  obtain ⟨W1, hW1⟩ : ∃ W1, w.alloc (.cells #[.map (some m)] 68) = W1 := ⟨_, rfl⟩
  have hB1 : Below w.heap.size w W1 := by rw [← hW1]; exact (Below.refl _ _).alloc (Nat.le_refl _) _
  have hz1 : W1.heap.size = w.heap.size + 1 := by rw [← hW1]; simp
  have xt : W1.cell? ⟨w.heap.size, 0, none⟩ = some (.map (some m)) := cell_block (show W1.heap[w.heap.size]? = some (.cells #[.map (some m)] 68 (0, 0)) by rw [← hW1]; exact heap_alloc_new w _) rfl
  obtain ⟨y0, y1, ye, ya, ⟨pn, cn, y2, hcn, sn⟩, ⟨pg, cg, y11, sg⟩, y12, y13, hlo, hhi, _, _⟩ := hx.parts
  have x0 := (hB1.cell hb).trans y0
  have x1 := (hB1.cell hb).trans y1
  have x2 := (hB1.cell hb).trans y2
  have x11 := (hB1.cell hb).trans y11
  have x12 := (hB1.cell hb).trans y12
  have x13 := (hB1.cell hb).trans y13
  have hmp1 := (hB1.block m (lt_of_block hmp)).trans hmp
  have hb1 : b < W1.heap.size := by omega
  have ht1 : w.heap.size < W1.heap.size := by omega
  have hG1 := hG.later hB1
  have HB1 := Lib.hid hB1
  have HTe := Lib.hid (fun (w1 : World) (hB : Below W1.heap.size W1 w1) => exprText_any e he b (o + 3) m w1 (Nat.lt_of_lt_of_le hb1 hB.size) (Ex.At.later ((hB1.trans (hB.mono hB1.size))) (Nat.le_trans hB1.size hB.size) e b (o + 3) hb ye) ((hB.block m (lt_of_block hmp1)).trans hmp1) (hG1.later hB) (by omega))
  obtain ⟨A0, hA0⟩ : ∃ A, A = str (e.text) := ⟨_, rfl⟩
  rw [← hA0] at HTe
  obtain ⟨B5, hB5⟩ : ∃ B, B = str ([119, 104, 105, 108, 101, 32] ++ e.text) := ⟨_, rfl⟩
  obtain ⟨B6, hB6⟩ : ∃ B, B = str (([119, 104, 105, 108, 101, 32] ++ e.text) ++ [32, 123]) := ⟨_, rfl⟩
  have qB5 : ∀ w : World, (Op.stringOp .add ⟨#[119, 104, 105, 108, 101, 32]⟩ A0).run Tryz.prog w = .ok (.string B5) w := fun w => by
    (try rw [hB5]); (try rw [hA0]); exact add_str ([119, 104, 105, 108, 101, 32]) (e.text) (by simp only [List.length_cons, List.length_nil] at hlen ⊢; omega) w
  have qB6 : ∀ w : World, (Op.stringOp .add B5 ⟨#[32, 123]⟩).run Tryz.prog w = .ok (.string B6) w := fun w => by
    (try rw [hB6]); (try rw [hB5]); exact add_str (([119, 104, 105, 108, 101, 32] ++ e.text)) ([32, 123]) (by simp only [List.length_append, List.length_cons, List.length_nil] at hlen ⊢; omega) w
  have HF := Lib.hid (show str (St.mk 4 nm ns e a g lo hi bd el).first = B6 by rw [ht, hB6])
  clear hA0 hB5 hB6 hl ht hx y0 y1 y2 y11 y12 y13 ye ya sn sg hG hG1 hmp hmp1 hB1 hlo hhi x1 x2 x11 x12 x13
  go_enter Tryz.func109, Tryz.ntmps109
  go_wp2_with fail
  clear hW1 x0
  have HS : Below W1.heap.size W1 W1.drew := (Below.refl _ _).drew
  refine wp_region_held_drew (S := fun W => Below W1.heap.size W1 W ∧ W.cell? ⟨w.heap.size, 0, none⟩ = some (.map (some m))) (by kernel_rfl) ?_ (fun hHeld => ?_)
  · exact ⟨HS, (HS.cell ht1).trans xt⟩
  refine wpAnyH_take (i := 0) (oi := { dst := Option.some 55, op := Go.Op.load 68 (Go.Operand.tmp 2), type := 68, pos := "lines.go:90", after := #[], guard := Option.none }) (v := ?_) rfl (by kernel_rfl) (by kernel_rfl) (by kernel_rfl) (fun _ _ _ h => h) (Or.inl ⟨by rfl, ?_⟩) (by assumption) ?_
  rotate_left
  · (intro w hSw; (try dsimp only at hSw); go_simp; try with_reducible rfl)
  try simp only [Act.put, List.setIfInBounds_toArray, List.set_cons_zero, List.set_cons_succ]
  refine wpAnyH_take (i := 1) (oi := { dst := Option.some 56, op := Go.Op.move (Go.Operand.tmp 1), type := 145, pos := "lines.go:90", after := #[], guard := Option.none }) (v := ?_) rfl (by kernel_rfl) (by kernel_rfl) (by kernel_rfl) (fun _ _ _ h => h) (Or.inl ⟨by rfl, ?_⟩) (by assumption) ?_
  rotate_left
  · (intro w hSw; (try dsimp only at hSw); go_simp; try with_reducible rfl)
  try simp only [Act.put, List.setIfInBounds_toArray, List.set_cons_zero, List.set_cons_succ]
  refine wpAnyH_take (i := 2) (oi := { dst := Option.some 57, op := Go.Op.nilCheck (Go.Operand.tmp 56), type := 0, pos := "lines.go:90", after := #[{ on := 1, ground := Go.Ground.data }], guard := Option.none }) (v := ?_) rfl (by kernel_rfl) (by kernel_rfl) (by kernel_rfl) (fun _ _ _ h => h) (Or.inl ⟨by rfl, ?_⟩) (by assumption) ?_
  rotate_left
  · (intro w hSw; (try dsimp only at hSw); go_simp; try with_reducible rfl)
  try simp only [Act.put, List.setIfInBounds_toArray, List.set_cons_zero, List.set_cons_succ]
  refine wpAnyH_take (i := 3) (oi := { dst := Option.some 58, op := Go.Op.fieldAddr 54 (Go.Operand.tmp 57) 3, type := 0, pos := "lines.go:90", after := #[{ on := 2, ground := Go.Ground.data }], guard := Option.none }) (v := ?_) rfl (by kernel_rfl) (by kernel_rfl) (by kernel_rfl) (fun _ _ _ h => h) (Or.inl ⟨by rfl, ?_⟩) (by assumption) ?_
  rotate_left
  · (intro w hSw; (try dsimp only at hSw); go_simp; try with_reducible rfl)
  try simp only [Act.put, List.setIfInBounds_toArray, List.set_cons_zero, List.set_cons_succ]
  refine wpAnyH_ready (rs := [4]) (by kernel_rfl) (by simp) ?_
  refine AllReadyH.cons (o := { dst := Option.some 59, op := Go.Op.call { callee := Go.Callee.value (Go.Operand.func 37), args := #[Go.Operand.tmp 55, Go.Operand.tmp 58], argTypes := #[68, 71] }, type := 9, pos := "lines.go:90", after := #[{ on := 0, ground := Go.Ground.data }, { on := 3, ground := Go.Ground.data }], guard := Option.none }) rfl (fun K hK => ?_) AllReadyH.nil
  go_simp
  refine (HTe.out _ HS).mono ?_
  rintro z wa ⟨rfl, hB'⟩
  replace HS := HS.trans (hB'.mono HS.size)
  clear hB'
  refine hK.out _ _ ?_ (fun hHeld => ?_)
  · exact ⟨HS, (HS.cell ht1).trans xt⟩
  clear hK K
  try simp only [Act.put, List.setIfInBounds_toArray, List.set_cons_zero, List.set_cons_succ]
  refine wpAnyH_take (i := 5) (oi := { dst := Option.some 60, op := Go.Op.binOp Go.BinOp.add 9 (Go.Operand.const (Go.Value.string { data := #[119, 104, 105, 108, 101, 32] })) (Go.Operand.tmp 59) 9, type := 9, pos := "lines.go:90", after := #[{ on := 4, ground := Go.Ground.data }], guard := Option.none }) (v := .string B5) rfl (by kernel_rfl) (by kernel_rfl) (by kernel_rfl) (fun _ _ _ h => h) (Or.inl ⟨by rfl, ?_⟩) (by assumption) ?_
  · (intro w hSw; (try dsimp only at hSw); go_simp)
  try simp only [Act.put, List.setIfInBounds_toArray, List.set_cons_zero, List.set_cons_succ]
  refine wpAnyH_take (i := 6) (oi := { dst := Option.some 61, op := Go.Op.binOp Go.BinOp.add 9 (Go.Operand.tmp 60) (Go.Operand.const (Go.Value.string { data := #[32, 123] })) 9, type := 9, pos := "lines.go:90", after := #[{ on := 5, ground := Go.Ground.data }], guard := Option.none }) (v := .string B6) rfl (by kernel_rfl) (by kernel_rfl) (by kernel_rfl) (fun _ _ _ h => h) (Or.inl ⟨by rfl, ?_⟩) (by assumption) ?_
  · (intro w hSw; (try dsimp only at hSw); go_simp)
  try simp only [Act.put, List.setIfInBounds_toArray, List.set_cons_zero, List.set_cons_succ]
  refine wpAnyH_take (i := 7) (oi := { dst := Option.some 4, op := Go.Op.assign (Go.Operand.tmp 61), type := 9, pos := "lines.go:90", after := #[{ on := 6, ground := Go.Ground.data }, { on := 4, ground := Go.Ground.chain }, { on := 0, ground := Go.Ground.phase }, { on := 1, ground := Go.Ground.phase }, { on := 2, ground := Go.Ground.phase }, { on := 3, ground := Go.Ground.phase }, { on := 4, ground := Go.Ground.phase }, { on := 5, ground := Go.Ground.phase }, { on := 6, ground := Go.Ground.phase }], guard := Option.none }) (v := ?_) rfl (by kernel_rfl) (by kernel_rfl) (by kernel_rfl) (fun _ _ _ h => h) (Or.inl ⟨by rfl, ?_⟩) (by assumption) ?_
  rotate_left
  · (intro w hSw; (try dsimp only at hSw); go_simp; try with_reducible rfl)
  try simp only [Act.put, List.setIfInBounds_toArray, List.set_cons_zero, List.set_cons_succ]
  refine wpAnyH_done (by kernel_rfl) ?_ _
  have HE := Lib.hid (HB1.out.trans (HS.mono HB1.out.size))
  go_wp2_with fail
  go_ret
  exact ⟨ret_strE HF.out.symm, HE.out⟩
set_option maxRecDepth 100000 in
set_option maxHeartbeats 6400000 in
theorem first_5 (nm : List UInt8) (ns : List (List UInt8)) (e a : Ex) (g : Exs) (lo hi : Nat) (bd el : Sts)  (b o m : Nat) (w : World) (hb : b < w.heap.size) (hx : (St.mk 5 nm ns e a g lo hi bd el).At w w.heap.size b o) (hmp : w.heap[m]? = some (fmap signT)) (hG : Glob w) (hl : (St.mk 5 nm ns e a g lo hi bd el).first.length ≤ 1000000) :
    Calls Tryz.prog 109 #[.agg #[.map (some m)], .pointer (some ⟨b, o, none⟩)] w fun z w' => z = .returned (.string (str (St.mk 5 nm ns e a g lo hi bd el).first)) ∧ Below w.heap.size w w' := by
  have ht : (St.mk 5 nm ns e a g lo hi bd el).first = ((((([102, 111, 114, 32] ++ nm) ++ [32]) ++ Lib.decDigits lo) ++ [32]) ++ Lib.decDigits hi) ++ [32, 123] := by rw [← first_eq, firstT, if_neg (by decide), if_neg (by decide), if_neg (by decide), if_neg (by decide), if_pos rfl]
  have hlen : nm.length + (Lib.decDigits lo).length + (Lib.decDigits hi).length ≤ 1000000 := by rw [ht] at hl; simp only [List.length_append, List.length_cons, List.length_nil] at hl; omega
  obtain ⟨W1, hW1⟩ : ∃ W1, w.alloc (.cells #[.map (some m)] 68) = W1 := ⟨_, rfl⟩
  have hB1 : Below w.heap.size w W1 := by rw [← hW1]; exact (Below.refl _ _).alloc (Nat.le_refl _) _
  have hz1 : W1.heap.size = w.heap.size + 1 := by rw [← hW1]; simp
  have xt : W1.cell? ⟨w.heap.size, 0, none⟩ = some (.map (some m)) := cell_block (show W1.heap[w.heap.size]? = some (.cells #[.map (some m)] 68 (0, 0)) by rw [← hW1]; exact heap_alloc_new w _) rfl
  obtain ⟨y0, y1, ye, ya, ⟨pn, cn, y2, hcn, sn⟩, ⟨pg, cg, y11, sg⟩, y12, y13, hlo, hhi, _, _⟩ := hx.parts
  have x0 := (hB1.cell hb).trans y0
  have x1 := (hB1.cell hb).trans y1
  have x2 := (hB1.cell hb).trans y2
  have x11 := (hB1.cell hb).trans y11
  have x12 := (hB1.cell hb).trans y12
  have x13 := (hB1.cell hb).trans y13
  have hmp1 := (hB1.block m (lt_of_block hmp)).trans hmp
  have hb1 : b < W1.heap.size := by omega
  have ht1 : w.heap.size < W1.heap.size := by omega
  have hG1 := hG.later hB1
  have HB1 := Lib.hid hB1
  have HLo := Lib.hid (fun (w1 : World) (hB : Below W1.heap.size W1 w1) => formatUint_any lo hlo w1 (hG1.later hB))
  have HHi := Lib.hid (fun (w1 : World) (hB : Below W1.heap.size W1 w1) => formatUint_any hi hhi w1 (hG1.later hB))
  obtain ⟨NM, hNM⟩ : ∃ A, A = str (nm) := ⟨_, rfl⟩
  obtain ⟨A0, hA0⟩ : ∃ A, A = str (Lib.decDigits lo) := ⟨_, rfl⟩
  obtain ⟨A1, hA1⟩ : ∃ A, A = str (Lib.decDigits hi) := ⟨_, rfl⟩
  rw [← hNM] at x1
  rw [← hA0] at HLo
  rw [← hA1] at HHi
  obtain ⟨B4, hB4⟩ : ∃ B, B = str ([102, 111, 114, 32] ++ nm) := ⟨_, rfl⟩
  obtain ⟨B5, hB5⟩ : ∃ B, B = str (([102, 111, 114, 32] ++ nm) ++ [32]) := ⟨_, rfl⟩
  obtain ⟨B11, hB11⟩ : ∃ B, B = str ((([102, 111, 114, 32] ++ nm) ++ [32]) ++ Lib.decDigits lo) := ⟨_, rfl⟩
  obtain ⟨B12, hB12⟩ : ∃ B, B = str (((([102, 111, 114, 32] ++ nm) ++ [32]) ++ Lib.decDigits lo) ++ [32]) := ⟨_, rfl⟩
  obtain ⟨B18, hB18⟩ : ∃ B, B = str ((((([102, 111, 114, 32] ++ nm) ++ [32]) ++ Lib.decDigits lo) ++ [32]) ++ Lib.decDigits hi) := ⟨_, rfl⟩
  obtain ⟨B19, hB19⟩ : ∃ B, B = str (((((([102, 111, 114, 32] ++ nm) ++ [32]) ++ Lib.decDigits lo) ++ [32]) ++ Lib.decDigits hi) ++ [32, 123]) := ⟨_, rfl⟩
  have qB4 : ∀ w : World, (Op.stringOp .add ⟨#[102, 111, 114, 32]⟩ NM).run Tryz.prog w = .ok (.string B4) w := fun w => by
    (try rw [hB4]); (try rw [hNM]); exact add_str ([102, 111, 114, 32]) (nm) (by simp only [List.length_cons, List.length_nil] at hlen ⊢; omega) w
  have qB5 : ∀ w : World, (Op.stringOp .add B4 ⟨#[32]⟩).run Tryz.prog w = .ok (.string B5) w := fun w => by
    (try rw [hB5]); (try rw [hB4]); exact add_str (([102, 111, 114, 32] ++ nm)) ([32]) (by simp only [List.length_append, List.length_cons, List.length_nil] at hlen ⊢; omega) w
  have qB11 : ∀ w : World, (Op.stringOp .add B5 A0).run Tryz.prog w = .ok (.string B11) w := fun w => by
    (try rw [hB11]); (try rw [hB5]); (try rw [hA0]); exact add_str ((([102, 111, 114, 32] ++ nm) ++ [32])) (Lib.decDigits lo) (by simp only [List.length_append, List.length_cons, List.length_nil] at hlen ⊢; omega) w
  have qB12 : ∀ w : World, (Op.stringOp .add B11 ⟨#[32]⟩).run Tryz.prog w = .ok (.string B12) w := fun w => by
    (try rw [hB12]); (try rw [hB11]); exact add_str (((([102, 111, 114, 32] ++ nm) ++ [32]) ++ Lib.decDigits lo)) ([32]) (by simp only [List.length_append, List.length_cons, List.length_nil] at hlen ⊢; omega) w
  have qB18 : ∀ w : World, (Op.stringOp .add B12 A1).run Tryz.prog w = .ok (.string B18) w := fun w => by
    (try rw [hB18]); (try rw [hB12]); (try rw [hA1]); exact add_str ((((([102, 111, 114, 32] ++ nm) ++ [32]) ++ Lib.decDigits lo) ++ [32])) (Lib.decDigits hi) (by simp only [List.length_append, List.length_cons, List.length_nil] at hlen ⊢; omega) w
  have qB19 : ∀ w : World, (Op.stringOp .add B18 ⟨#[32, 123]⟩).run Tryz.prog w = .ok (.string B19) w := fun w => by
    (try rw [hB19]); (try rw [hB18]); exact add_str (((((([102, 111, 114, 32] ++ nm) ++ [32]) ++ Lib.decDigits lo) ++ [32]) ++ Lib.decDigits hi)) ([32, 123]) (by simp only [List.length_append, List.length_cons, List.length_nil] at hlen ⊢; omega) w
  have HF := Lib.hid (show str (St.mk 5 nm ns e a g lo hi bd el).first = B19 by rw [ht, hB19])
  clear hNM hA0 hA1 hB4 hB5 hB11 hB12 hB18 hB19 hl ht hx y0 y1 y2 y11 y12 y13 ye ya sn sg hG hG1 hmp hmp1 hB1 hlo hhi x2 x11
  go_enter Tryz.func109, Tryz.ntmps109
  go_wp2_with fail
  clear hW1 x0
  have HS : Below W1.heap.size W1 W1.drew := (Below.refl _ _).drew
  refine wp_region_held_drew (S := fun W => Below W1.heap.size W1 W ∧ W.cell? ⟨w.heap.size, 0, none⟩ = some (.map (some m)) ∧ W.cell? ⟨b, o + 1, none⟩ = some (.string NM) ∧ W.cell? ⟨b, o + 12, none⟩ = some (.int .u64 (lo : Int)) ∧ W.cell? ⟨b, o + 13, none⟩ = some (.int .u64 (hi : Int))) (by kernel_rfl) ?_ (fun hHeld => ?_)
  · exact ⟨HS, (HS.cell ht1).trans xt, (HS.cell hb1).trans x1, (HS.cell hb1).trans x12, (HS.cell hb1).trans x13⟩
  refine wpAnyH_take (i := 0) (oi := { dst := Option.some 64, op := Go.Op.move (Go.Operand.tmp 1), type := 145, pos := "lines.go:92", after := #[], guard := Option.none }) (v := ?_) rfl (by kernel_rfl) (by kernel_rfl) (by kernel_rfl) (fun _ _ _ h => h) (Or.inl ⟨by rfl, ?_⟩) (by assumption) ?_
  rotate_left
  · (intro w hSw; (try dsimp only at hSw); go_simp; try with_reducible rfl)
  try simp only [Act.put, List.setIfInBounds_toArray, List.set_cons_zero, List.set_cons_succ]
  refine wpAnyH_take (i := 1) (oi := { dst := Option.some 65, op := Go.Op.nilCheck (Go.Operand.tmp 64), type := 0, pos := "lines.go:92", after := #[{ on := 0, ground := Go.Ground.data }], guard := Option.none }) (v := ?_) rfl (by kernel_rfl) (by kernel_rfl) (by kernel_rfl) (fun _ _ _ h => h) (Or.inl ⟨by rfl, ?_⟩) (by assumption) ?_
  rotate_left
  · (intro w hSw; (try dsimp only at hSw); go_simp; try with_reducible rfl)
  try simp only [Act.put, List.setIfInBounds_toArray, List.set_cons_zero, List.set_cons_succ]
  refine wpAnyH_take (i := 2) (oi := { dst := Option.some 66, op := Go.Op.fieldAddr 54 (Go.Operand.tmp 65) 1, type := 0, pos := "lines.go:92", after := #[{ on := 1, ground := Go.Ground.data }], guard := Option.none }) (v := ?_) rfl (by kernel_rfl) (by kernel_rfl) (by kernel_rfl) (fun _ _ _ h => h) (Or.inl ⟨by rfl, ?_⟩) (by assumption) ?_
  rotate_left
  · (intro w hSw; (try dsimp only at hSw); go_simp; try with_reducible rfl)
  try simp only [Act.put, List.setIfInBounds_toArray, List.set_cons_zero, List.set_cons_succ]
  refine wpAnyH_take (i := 3) (oi := { dst := Option.some 67, op := Go.Op.load 9 (Go.Operand.tmp 66), type := 9, pos := "lines.go:92", after := #[{ on := 2, ground := Go.Ground.data }], guard := Option.none }) (v := ?_) rfl (by kernel_rfl) (by kernel_rfl) (by kernel_rfl) (fun _ _ _ h => h) (Or.inl ⟨by rfl, ?_⟩) (by assumption) ?_
  rotate_left
  · (intro w hSw; (try dsimp only at hSw); go_simp; try with_reducible rfl)
  try simp only [Act.put, List.setIfInBounds_toArray, List.set_cons_zero, List.set_cons_succ]
  refine wpAnyH_take (i := 4) (oi := { dst := Option.some 68, op := Go.Op.binOp Go.BinOp.add 9 (Go.Operand.const (Go.Value.string { data := #[102, 111, 114, 32] })) (Go.Operand.tmp 67) 9, type := 9, pos := "lines.go:92", after := #[{ on := 3, ground := Go.Ground.data }], guard := Option.none }) (v := .string B4) rfl (by kernel_rfl) (by kernel_rfl) (by kernel_rfl) (fun _ _ _ h => h) (Or.inl ⟨by rfl, ?_⟩) (by assumption) ?_
  · (intro w hSw; (try dsimp only at hSw); go_simp)
  try simp only [Act.put, List.setIfInBounds_toArray, List.set_cons_zero, List.set_cons_succ]
  refine wpAnyH_take (i := 5) (oi := { dst := Option.some 69, op := Go.Op.binOp Go.BinOp.add 9 (Go.Operand.tmp 68) (Go.Operand.const (Go.Value.string { data := #[32] })) 9, type := 9, pos := "lines.go:92", after := #[{ on := 4, ground := Go.Ground.data }], guard := Option.none }) (v := .string B5) rfl (by kernel_rfl) (by kernel_rfl) (by kernel_rfl) (fun _ _ _ h => h) (Or.inl ⟨by rfl, ?_⟩) (by assumption) ?_
  · (intro w hSw; (try dsimp only at hSw); go_simp)
  try simp only [Act.put, List.setIfInBounds_toArray, List.set_cons_zero, List.set_cons_succ]
  refine wpAnyH_take (i := 6) (oi := { dst := Option.some 70, op := Go.Op.move (Go.Operand.tmp 1), type := 145, pos := "lines.go:92", after := #[], guard := Option.none }) (v := ?_) rfl (by kernel_rfl) (by kernel_rfl) (by kernel_rfl) (fun _ _ _ h => h) (Or.inl ⟨by rfl, ?_⟩) (by assumption) ?_
  rotate_left
  · (intro w hSw; (try dsimp only at hSw); go_simp; try with_reducible rfl)
  try simp only [Act.put, List.setIfInBounds_toArray, List.set_cons_zero, List.set_cons_succ]
  refine wpAnyH_take (i := 7) (oi := { dst := Option.some 71, op := Go.Op.nilCheck (Go.Operand.tmp 70), type := 0, pos := "lines.go:92", after := #[{ on := 6, ground := Go.Ground.data }], guard := Option.none }) (v := ?_) rfl (by kernel_rfl) (by kernel_rfl) (by kernel_rfl) (fun _ _ _ h => h) (Or.inl ⟨by rfl, ?_⟩) (by assumption) ?_
  rotate_left
  · (intro w hSw; (try dsimp only at hSw); go_simp; try with_reducible rfl)
  try simp only [Act.put, List.setIfInBounds_toArray, List.set_cons_zero, List.set_cons_succ]
  refine wpAnyH_take (i := 8) (oi := { dst := Option.some 72, op := Go.Op.fieldAddr 54 (Go.Operand.tmp 71) 6, type := 0, pos := "lines.go:92", after := #[{ on := 7, ground := Go.Ground.data }], guard := Option.none }) (v := ?_) rfl (by kernel_rfl) (by kernel_rfl) (by kernel_rfl) (fun _ _ _ h => h) (Or.inl ⟨by rfl, ?_⟩) (by assumption) ?_
  rotate_left
  · (intro w hSw; (try dsimp only at hSw); go_simp; try with_reducible rfl)
  try simp only [Act.put, List.setIfInBounds_toArray, List.set_cons_zero, List.set_cons_succ]
  refine wpAnyH_take (i := 9) (oi := { dst := Option.some 73, op := Go.Op.load 23 (Go.Operand.tmp 72), type := 23, pos := "lines.go:92", after := #[{ on := 8, ground := Go.Ground.data }], guard := Option.none }) (v := ?_) rfl (by kernel_rfl) (by kernel_rfl) (by kernel_rfl) (fun _ _ _ h => h) (Or.inl ⟨by rfl, ?_⟩) (by assumption) ?_
  rotate_left
  · (intro w hSw; (try dsimp only at hSw); go_simp; try with_reducible rfl)
  try simp only [Act.put, List.setIfInBounds_toArray, List.set_cons_zero, List.set_cons_succ]
  refine wpAnyH_take (i := 13) (oi := { dst := Option.some 77, op := Go.Op.move (Go.Operand.tmp 1), type := 145, pos := "lines.go:92", after := #[], guard := Option.none }) (v := ?_) rfl (by kernel_rfl) (by kernel_rfl) (by kernel_rfl) (fun _ _ _ h => h) (Or.inl ⟨by rfl, ?_⟩) (by assumption) ?_
  rotate_left
  · (intro w hSw; (try dsimp only at hSw); go_simp; try with_reducible rfl)
  try simp only [Act.put, List.setIfInBounds_toArray, List.set_cons_zero, List.set_cons_succ]
  refine wpAnyH_take (i := 14) (oi := { dst := Option.some 78, op := Go.Op.nilCheck (Go.Operand.tmp 77), type := 0, pos := "lines.go:92", after := #[{ on := 13, ground := Go.Ground.data }], guard := Option.none }) (v := ?_) rfl (by kernel_rfl) (by kernel_rfl) (by kernel_rfl) (fun _ _ _ h => h) (Or.inl ⟨by rfl, ?_⟩) (by assumption) ?_
  rotate_left
  · (intro w hSw; (try dsimp only at hSw); go_simp; try with_reducible rfl)
  try simp only [Act.put, List.setIfInBounds_toArray, List.set_cons_zero, List.set_cons_succ]
  refine wpAnyH_take (i := 15) (oi := { dst := Option.some 79, op := Go.Op.fieldAddr 54 (Go.Operand.tmp 78) 7, type := 0, pos := "lines.go:92", after := #[{ on := 14, ground := Go.Ground.data }], guard := Option.none }) (v := ?_) rfl (by kernel_rfl) (by kernel_rfl) (by kernel_rfl) (fun _ _ _ h => h) (Or.inl ⟨by rfl, ?_⟩) (by assumption) ?_
  rotate_left
  · (intro w hSw; (try dsimp only at hSw); go_simp; try with_reducible rfl)
  try simp only [Act.put, List.setIfInBounds_toArray, List.set_cons_zero, List.set_cons_succ]
  refine wpAnyH_take (i := 16) (oi := { dst := Option.some 80, op := Go.Op.load 23 (Go.Operand.tmp 79), type := 23, pos := "lines.go:92", after := #[{ on := 15, ground := Go.Ground.data }], guard := Option.none }) (v := ?_) rfl (by kernel_rfl) (by kernel_rfl) (by kernel_rfl) (fun _ _ _ h => h) (Or.inl ⟨by rfl, ?_⟩) (by assumption) ?_
  rotate_left
  · (intro w hSw; (try dsimp only at hSw); go_simp; try with_reducible rfl)
  try simp only [Act.put, List.setIfInBounds_toArray, List.set_cons_zero, List.set_cons_succ]
  refine wpAnyH_ready (rs := [10]) (by kernel_rfl) (by simp) ?_
  refine AllReadyH.cons (o := { dst := Option.some 74, op := Go.Op.call { callee := Go.Callee.value (Go.Operand.func 40), args := #[Go.Operand.tmp 73, Go.Operand.const (Go.Value.int Go.IntKind.i64 10)], argTypes := #[23, 3] }, type := 9, pos := "lines.go:92", after := #[{ on := 9, ground := Go.Ground.data }], guard := Option.none }) rfl (fun K hK => ?_) AllReadyH.nil
  go_simp
  refine (HLo.out _ HS).mono ?_
  rintro z wa ⟨rfl, hB'⟩
  replace HS := HS.trans (hB'.mono HS.size)
  clear hB'
  refine hK.out _ _ ?_ (fun hHeld => ?_)
  · exact ⟨HS, (HS.cell ht1).trans xt, (HS.cell hb1).trans x1, (HS.cell hb1).trans x12, (HS.cell hb1).trans x13⟩
  clear hK K
  try simp only [Act.put, List.setIfInBounds_toArray, List.set_cons_zero, List.set_cons_succ]
  refine wpAnyH_take (i := 11) (oi := { dst := Option.some 75, op := Go.Op.binOp Go.BinOp.add 9 (Go.Operand.tmp 69) (Go.Operand.tmp 74) 9, type := 9, pos := "lines.go:92", after := #[{ on := 5, ground := Go.Ground.data }, { on := 10, ground := Go.Ground.data }], guard := Option.none }) (v := .string B11) rfl (by kernel_rfl) (by kernel_rfl) (by kernel_rfl) (fun _ _ _ h => h) (Or.inl ⟨by rfl, ?_⟩) (by assumption) ?_
  · (intro w hSw; (try dsimp only at hSw); go_simp)
  try simp only [Act.put, List.setIfInBounds_toArray, List.set_cons_zero, List.set_cons_succ]
  refine wpAnyH_take (i := 12) (oi := { dst := Option.some 76, op := Go.Op.binOp Go.BinOp.add 9 (Go.Operand.tmp 75) (Go.Operand.const (Go.Value.string { data := #[32] })) 9, type := 9, pos := "lines.go:92", after := #[{ on := 11, ground := Go.Ground.data }], guard := Option.none }) (v := .string B12) rfl (by kernel_rfl) (by kernel_rfl) (by kernel_rfl) (fun _ _ _ h => h) (Or.inl ⟨by rfl, ?_⟩) (by assumption) ?_
  · (intro w hSw; (try dsimp only at hSw); go_simp)
  try simp only [Act.put, List.setIfInBounds_toArray, List.set_cons_zero, List.set_cons_succ]
  refine wpAnyH_ready (rs := [17]) (by kernel_rfl) (by simp) ?_
  refine AllReadyH.cons (o := { dst := Option.some 81, op := Go.Op.call { callee := Go.Callee.value (Go.Operand.func 40), args := #[Go.Operand.tmp 80, Go.Operand.const (Go.Value.int Go.IntKind.i64 10)], argTypes := #[23, 3] }, type := 9, pos := "lines.go:92", after := #[{ on := 16, ground := Go.Ground.data }, { on := 10, ground := Go.Ground.chain }], guard := Option.none }) rfl (fun K hK => ?_) AllReadyH.nil
  go_simp
  refine (HHi.out _ HS).mono ?_
  rintro z wa ⟨rfl, hB'⟩
  replace HS := HS.trans (hB'.mono HS.size)
  clear hB'
  refine hK.out _ _ ?_ (fun hHeld => ?_)
  · exact ⟨HS, (HS.cell ht1).trans xt, (HS.cell hb1).trans x1, (HS.cell hb1).trans x12, (HS.cell hb1).trans x13⟩
  clear hK K
  try simp only [Act.put, List.setIfInBounds_toArray, List.set_cons_zero, List.set_cons_succ]
  refine wpAnyH_take (i := 18) (oi := { dst := Option.some 82, op := Go.Op.binOp Go.BinOp.add 9 (Go.Operand.tmp 76) (Go.Operand.tmp 81) 9, type := 9, pos := "lines.go:92", after := #[{ on := 12, ground := Go.Ground.data }, { on := 17, ground := Go.Ground.data }], guard := Option.none }) (v := .string B18) rfl (by kernel_rfl) (by kernel_rfl) (by kernel_rfl) (fun _ _ _ h => h) (Or.inl ⟨by rfl, ?_⟩) (by assumption) ?_
  · (intro w hSw; (try dsimp only at hSw); go_simp)
  try simp only [Act.put, List.setIfInBounds_toArray, List.set_cons_zero, List.set_cons_succ]
  refine wpAnyH_take (i := 19) (oi := { dst := Option.some 83, op := Go.Op.binOp Go.BinOp.add 9 (Go.Operand.tmp 82) (Go.Operand.const (Go.Value.string { data := #[32, 123] })) 9, type := 9, pos := "lines.go:92", after := #[{ on := 18, ground := Go.Ground.data }], guard := Option.none }) (v := .string B19) rfl (by kernel_rfl) (by kernel_rfl) (by kernel_rfl) (fun _ _ _ h => h) (Or.inl ⟨by rfl, ?_⟩) (by assumption) ?_
  · (intro w hSw; (try dsimp only at hSw); go_simp)
  try simp only [Act.put, List.setIfInBounds_toArray, List.set_cons_zero, List.set_cons_succ]
  refine wpAnyH_take (i := 20) (oi := { dst := Option.some 4, op := Go.Op.assign (Go.Operand.tmp 83), type := 9, pos := "lines.go:92", after := #[{ on := 19, ground := Go.Ground.data }, { on := 17, ground := Go.Ground.chain }, { on := 0, ground := Go.Ground.phase }, { on := 1, ground := Go.Ground.phase }, { on := 2, ground := Go.Ground.phase }, { on := 3, ground := Go.Ground.phase }, { on := 4, ground := Go.Ground.phase }, { on := 5, ground := Go.Ground.phase }, { on := 6, ground := Go.Ground.phase }, { on := 7, ground := Go.Ground.phase }, { on := 8, ground := Go.Ground.phase }, { on := 9, ground := Go.Ground.phase }, { on := 10, ground := Go.Ground.phase }, { on := 11, ground := Go.Ground.phase }, { on := 12, ground := Go.Ground.phase }, { on := 13, ground := Go.Ground.phase }, { on := 14, ground := Go.Ground.phase }, { on := 15, ground := Go.Ground.phase }, { on := 16, ground := Go.Ground.phase }, { on := 17, ground := Go.Ground.phase }, { on := 18, ground := Go.Ground.phase }, { on := 19, ground := Go.Ground.phase }], guard := Option.none }) (v := ?_) rfl (by kernel_rfl) (by kernel_rfl) (by kernel_rfl) (fun _ _ _ h => h) (Or.inl ⟨by rfl, ?_⟩) (by assumption) ?_
  rotate_left
  · (intro w hSw; (try dsimp only at hSw); go_simp; try with_reducible rfl)
  try simp only [Act.put, List.setIfInBounds_toArray, List.set_cons_zero, List.set_cons_succ]
  refine wpAnyH_done (by kernel_rfl) ?_ _
  have HE := Lib.hid (HB1.out.trans (HS.mono HB1.out.size))
  go_wp2_with fail
  go_ret
  exact ⟨ret_strE HF.out.symm, HE.out⟩
set_option maxRecDepth 100000 in
set_option maxHeartbeats 6400000 in
theorem first_2 (nm : List UInt8) (ns : List (List UInt8)) (e a : Ex) (g : Exs) (lo hi : Nat) (bd el : Sts) (he : e.may = true) (ha : a.may = true) (b o m : Nat) (w : World) (hb : b < w.heap.size) (hx : (St.mk 2 nm ns e a g lo hi bd el).At w w.heap.size b o) (hmp : w.heap[m]? = some (fmap signT)) (hG : Glob w) (hl : (St.mk 2 nm ns e a g lo hi bd el).first.length ≤ 1000000) :
    Calls Tryz.prog 109 #[.agg #[.map (some m)], .pointer (some ⟨b, o, none⟩)] w fun z w' => z = .returned (.string (str (St.mk 2 nm ns e a g lo hi bd el).first)) ∧ Below w.heap.size w w' := by
  have ht : (St.mk 2 nm ns e a g lo hi bd el).first = (((nm ++ [91] ++ a.text ++ [93]) ++ [32, 61, 32]) ++ e.text) ++ [59] := by rw [← first_eq, firstT, if_neg (by decide), if_pos rfl]
  have hlen : nm.length + a.text.length + e.text.length ≤ 1000000 := by rw [ht] at hl; simp only [List.length_append, List.length_cons, List.length_nil] at hl; omega
  obtain ⟨W1, hW1⟩ : ∃ W1, w.alloc (.cells #[.map (some m)] 68) = W1 := ⟨_, rfl⟩
  have hB1 : Below w.heap.size w W1 := by rw [← hW1]; exact (Below.refl _ _).alloc (Nat.le_refl _) _
  have hz1 : W1.heap.size = w.heap.size + 1 := by rw [← hW1]; simp
  have xt : W1.cell? ⟨w.heap.size, 0, none⟩ = some (.map (some m)) := cell_block (show W1.heap[w.heap.size]? = some (.cells #[.map (some m)] 68 (0, 0)) by rw [← hW1]; exact heap_alloc_new w _) rfl
  obtain ⟨y0, y1, ye, ya, ⟨pn, cn, y2, hcn, sn⟩, ⟨pg, cg, y11, sg⟩, y12, y13, hlo, hhi, _, _⟩ := hx.parts
  have x0 := (hB1.cell hb).trans y0
  have x1 := (hB1.cell hb).trans y1
  have x2 := (hB1.cell hb).trans y2
  have x11 := (hB1.cell hb).trans y11
  have x12 := (hB1.cell hb).trans y12
  have x13 := (hB1.cell hb).trans y13
  have hmp1 := (hB1.block m (lt_of_block hmp)).trans hmp
  have hb1 : b < W1.heap.size := by omega
  have ht1 : w.heap.size < W1.heap.size := by omega
  have hG1 := hG.later hB1
  have HB1 := Lib.hid hB1
  have HTe := Lib.hid (fun (w1 : World) (hB : Below W1.heap.size W1 w1) => exprText_any e he b (o + 3) m w1 (Nat.lt_of_lt_of_le hb1 hB.size) (Ex.At.later ((hB1.trans (hB.mono hB1.size))) (Nat.le_trans hB1.size hB.size) e b (o + 3) hb ye) ((hB.block m (lt_of_block hmp1)).trans hmp1) (hG1.later hB) (by omega))
  have hE1 : TEnv W1.heap.size m W1.drew := ⟨hmp1, lt_of_block hmp1, fun w2 h2 => hG1 w2 ((Below.refl _ _).drew.trans h2), Nat.le_refl _⟩
  have HPl := Lib.hid (place_step _ (tell_to _) a (Nat.lt_succ_self _) ha nm b (o + 7) W1.heap.size W1.heap.size m (.slice none 0 0) [] W1.drew hb1 (Nat.le_refl _) (Ex.At.later (hB1.drew) hB1.size a b (o + 7) hb ya) hE1 (BRow.nil _ _) (by simp only [List.length_append, List.length_cons, List.length_nil]; omega))
  rw [List.nil_append] at HPl
  obtain ⟨NM, hNM⟩ : ∃ A, A = str (nm) := ⟨_, rfl⟩
  obtain ⟨A0, hA0⟩ : ∃ A, A = str (e.text) := ⟨_, rfl⟩
  obtain ⟨PT, hPT⟩ : ∃ A, A = str (nm ++ [91] ++ a.text ++ [93]) := ⟨_, rfl⟩
  rw [← hNM] at x1 HPl
  rw [← hA0] at HTe
  obtain ⟨B10, hB10⟩ : ∃ B, B = str ((nm ++ [91] ++ a.text ++ [93]) ++ [32, 61, 32]) := ⟨_, rfl⟩
  obtain ⟨B16, hB16⟩ : ∃ B, B = str (((nm ++ [91] ++ a.text ++ [93]) ++ [32, 61, 32]) ++ e.text) := ⟨_, rfl⟩
  obtain ⟨B17, hB17⟩ : ∃ B, B = str ((((nm ++ [91] ++ a.text ++ [93]) ++ [32, 61, 32]) ++ e.text) ++ [59]) := ⟨_, rfl⟩
  have qB10 : ∀ w : World, (Op.stringOp .add PT ⟨#[32, 61, 32]⟩).run Tryz.prog w = .ok (.string B10) w := fun w => by
    (try rw [hB10]); (try rw [hPT]); exact add_str ((nm ++ [91] ++ a.text ++ [93])) ([32, 61, 32]) (by simp only [List.length_append, List.length_cons, List.length_nil] at hlen ⊢; omega) w
  have qB16 : ∀ w : World, (Op.stringOp .add B10 A0).run Tryz.prog w = .ok (.string B16) w := fun w => by
    (try rw [hB16]); (try rw [hB10]); (try rw [hA0]); exact add_str (((nm ++ [91] ++ a.text ++ [93]) ++ [32, 61, 32])) (e.text) (by simp only [List.length_append, List.length_cons, List.length_nil] at hlen ⊢; omega) w
  have qB17 : ∀ w : World, (Op.stringOp .add B16 ⟨#[59]⟩).run Tryz.prog w = .ok (.string B17) w := fun w => by
    (try rw [hB17]); (try rw [hB16]); exact add_str ((((nm ++ [91] ++ a.text ++ [93]) ++ [32, 61, 32]) ++ e.text)) ([59]) (by simp only [List.length_append, List.length_cons, List.length_nil] at hlen ⊢; omega) w
  have HF := Lib.hid (show str (St.mk 2 nm ns e a g lo hi bd el).first = B17 by rw [ht, hB17])
  have HPT := Lib.hid hPT
  clear hNM hA0 hPT hB10 hB16 hB17 hl ht hx y0 y1 y2 y11 y12 y13 ye ya sn sg hG hG1 hmp hmp1 hB1 hlo hhi hE1 x2 x11 x12 x13
  go_enter Tryz.func109, Tryz.ntmps109
  go_wp2_with fail
  clear hW1 x0
  have HS : Below W1.heap.size W1 W1.drew := (Below.refl _ _).drew
  refine wp_region_held_drew (S := fun W => Below W1.heap.size W1 W ∧ W.cell? ⟨w.heap.size, 0, none⟩ = some (.map (some m)) ∧ W.cell? ⟨b, o + 1, none⟩ = some (.string NM)) (by kernel_rfl) ?_ (fun hHeld => ?_)
  · exact ⟨HS, (HS.cell ht1).trans xt, (HS.cell hb1).trans x1⟩
  refine wpAnyH_take (i := 0) (oi := { dst := Option.some 26, op := Go.Op.load 68 (Go.Operand.tmp 2), type := 68, pos := "lines.go:86", after := #[], guard := Option.none }) (v := ?_) rfl (by kernel_rfl) (by kernel_rfl) (by kernel_rfl) (fun _ _ _ h => h) (Or.inl ⟨by rfl, ?_⟩) (by assumption) ?_
  rotate_left
  · (intro w hSw; (try dsimp only at hSw); go_simp; try with_reducible rfl)
  try simp only [Act.put, List.setIfInBounds_toArray, List.set_cons_zero, List.set_cons_succ]
  refine wpAnyH_take (i := 1) (oi := { dst := Option.some 27, op := Go.Op.move (Go.Operand.tmp 1), type := 145, pos := "lines.go:86", after := #[], guard := Option.none }) (v := ?_) rfl (by kernel_rfl) (by kernel_rfl) (by kernel_rfl) (fun _ _ _ h => h) (Or.inl ⟨by rfl, ?_⟩) (by assumption) ?_
  rotate_left
  · (intro w hSw; (try dsimp only at hSw); go_simp; try with_reducible rfl)
  try simp only [Act.put, List.setIfInBounds_toArray, List.set_cons_zero, List.set_cons_succ]
  refine wpAnyH_take (i := 2) (oi := { dst := Option.some 28, op := Go.Op.nilCheck (Go.Operand.tmp 27), type := 0, pos := "lines.go:86", after := #[{ on := 1, ground := Go.Ground.data }], guard := Option.none }) (v := ?_) rfl (by kernel_rfl) (by kernel_rfl) (by kernel_rfl) (fun _ _ _ h => h) (Or.inl ⟨by rfl, ?_⟩) (by assumption) ?_
  rotate_left
  · (intro w hSw; (try dsimp only at hSw); go_simp; try with_reducible rfl)
  try simp only [Act.put, List.setIfInBounds_toArray, List.set_cons_zero, List.set_cons_succ]
  refine wpAnyH_take (i := 3) (oi := { dst := Option.some 29, op := Go.Op.fieldAddr 54 (Go.Operand.tmp 28) 1, type := 0, pos := "lines.go:86", after := #[{ on := 2, ground := Go.Ground.data }], guard := Option.none }) (v := ?_) rfl (by kernel_rfl) (by kernel_rfl) (by kernel_rfl) (fun _ _ _ h => h) (Or.inl ⟨by rfl, ?_⟩) (by assumption) ?_
  rotate_left
  · (intro w hSw; (try dsimp only at hSw); go_simp; try with_reducible rfl)
  try simp only [Act.put, List.setIfInBounds_toArray, List.set_cons_zero, List.set_cons_succ]
  refine wpAnyH_take (i := 4) (oi := { dst := Option.some 30, op := Go.Op.load 9 (Go.Operand.tmp 29), type := 9, pos := "lines.go:86", after := #[{ on := 3, ground := Go.Ground.data }], guard := Option.none }) (v := ?_) rfl (by kernel_rfl) (by kernel_rfl) (by kernel_rfl) (fun _ _ _ h => h) (Or.inl ⟨by rfl, ?_⟩) (by assumption) ?_
  rotate_left
  · (intro w hSw; (try dsimp only at hSw); go_simp; try with_reducible rfl)
  try simp only [Act.put, List.setIfInBounds_toArray, List.set_cons_zero, List.set_cons_succ]
  refine wpAnyH_take (i := 5) (oi := { dst := Option.some 31, op := Go.Op.move (Go.Operand.tmp 1), type := 145, pos := "lines.go:86", after := #[], guard := Option.none }) (v := ?_) rfl (by kernel_rfl) (by kernel_rfl) (by kernel_rfl) (fun _ _ _ h => h) (Or.inl ⟨by rfl, ?_⟩) (by assumption) ?_
  rotate_left
  · (intro w hSw; (try dsimp only at hSw); go_simp; try with_reducible rfl)
  try simp only [Act.put, List.setIfInBounds_toArray, List.set_cons_zero, List.set_cons_succ]
  refine wpAnyH_take (i := 6) (oi := { dst := Option.some 32, op := Go.Op.nilCheck (Go.Operand.tmp 31), type := 0, pos := "lines.go:86", after := #[{ on := 5, ground := Go.Ground.data }], guard := Option.none }) (v := ?_) rfl (by kernel_rfl) (by kernel_rfl) (by kernel_rfl) (fun _ _ _ h => h) (Or.inl ⟨by rfl, ?_⟩) (by assumption) ?_
  rotate_left
  · (intro w hSw; (try dsimp only at hSw); go_simp; try with_reducible rfl)
  try simp only [Act.put, List.setIfInBounds_toArray, List.set_cons_zero, List.set_cons_succ]
  refine wpAnyH_take (i := 7) (oi := { dst := Option.some 33, op := Go.Op.fieldAddr 54 (Go.Operand.tmp 32) 4, type := 0, pos := "lines.go:86", after := #[{ on := 6, ground := Go.Ground.data }], guard := Option.none }) (v := ?_) rfl (by kernel_rfl) (by kernel_rfl) (by kernel_rfl) (fun _ _ _ h => h) (Or.inl ⟨by rfl, ?_⟩) (by assumption) ?_
  rotate_left
  · (intro w hSw; (try dsimp only at hSw); go_simp; try with_reducible rfl)
  try simp only [Act.put, List.setIfInBounds_toArray, List.set_cons_zero, List.set_cons_succ]
  refine wpAnyH_take (i := 11) (oi := { dst := Option.some 37, op := Go.Op.load 68 (Go.Operand.tmp 2), type := 68, pos := "lines.go:86", after := #[], guard := Option.none }) (v := ?_) rfl (by kernel_rfl) (by kernel_rfl) (by kernel_rfl) (fun _ _ _ h => h) (Or.inl ⟨by rfl, ?_⟩) (by assumption) ?_
  rotate_left
  · (intro w hSw; (try dsimp only at hSw); go_simp; try with_reducible rfl)
  try simp only [Act.put, List.setIfInBounds_toArray, List.set_cons_zero, List.set_cons_succ]
  refine wpAnyH_take (i := 12) (oi := { dst := Option.some 38, op := Go.Op.move (Go.Operand.tmp 1), type := 145, pos := "lines.go:86", after := #[], guard := Option.none }) (v := ?_) rfl (by kernel_rfl) (by kernel_rfl) (by kernel_rfl) (fun _ _ _ h => h) (Or.inl ⟨by rfl, ?_⟩) (by assumption) ?_
  rotate_left
  · (intro w hSw; (try dsimp only at hSw); go_simp; try with_reducible rfl)
  try simp only [Act.put, List.setIfInBounds_toArray, List.set_cons_zero, List.set_cons_succ]
  refine wpAnyH_take (i := 13) (oi := { dst := Option.some 39, op := Go.Op.nilCheck (Go.Operand.tmp 38), type := 0, pos := "lines.go:86", after := #[{ on := 12, ground := Go.Ground.data }], guard := Option.none }) (v := ?_) rfl (by kernel_rfl) (by kernel_rfl) (by kernel_rfl) (fun _ _ _ h => h) (Or.inl ⟨by rfl, ?_⟩) (by assumption) ?_
  rotate_left
  · (intro w hSw; (try dsimp only at hSw); go_simp; try with_reducible rfl)
  try simp only [Act.put, List.setIfInBounds_toArray, List.set_cons_zero, List.set_cons_succ]
  refine wpAnyH_take (i := 14) (oi := { dst := Option.some 40, op := Go.Op.fieldAddr 54 (Go.Operand.tmp 39) 3, type := 0, pos := "lines.go:86", after := #[{ on := 13, ground := Go.Ground.data }], guard := Option.none }) (v := ?_) rfl (by kernel_rfl) (by kernel_rfl) (by kernel_rfl) (fun _ _ _ h => h) (Or.inl ⟨by rfl, ?_⟩) (by assumption) ?_
  rotate_left
  · (intro w hSw; (try dsimp only at hSw); go_simp; try with_reducible rfl)
  try simp only [Act.put, List.setIfInBounds_toArray, List.set_cons_zero, List.set_cons_succ]
  refine wpAnyH_ready (rs := [8]) (by kernel_rfl) (by simp) ?_
  refine AllReadyH.cons (o := { dst := Option.some 34, op := Go.Op.call { callee := Go.Callee.value (Go.Operand.func 119), args := #[Go.Operand.tmp 26, Go.Operand.const (Go.Value.slice Option.none 0 0), Go.Operand.tmp 30, Go.Operand.tmp 33], argTypes := #[68, 83, 9, 71] }, type := 83, pos := "lines.go:86", after := #[{ on := 0, ground := Go.Ground.data }, { on := 4, ground := Go.Ground.data }, { on := 7, ground := Go.Ground.data }], guard := Option.none }) rfl (fun K hK => ?_) AllReadyH.nil
  go_simp
  refine HPl.out.mono ?_
  rintro z wa ⟨⟨v, rfl, hR⟩, hF'⟩
  have HR := Lib.hid hR
  have HW := Lib.hid (show W1.heap.size ≤ wa.heap.size from hF'.1.size)
  replace HS := HS.trans hF'.1
  clear hR hF'
  refine hK.out _ _ ?_ (fun hHeld => ?_)
  · exact ⟨HS, (HS.cell ht1).trans xt, (HS.cell hb1).trans x1⟩
  clear hK K
  try simp only [Act.put, List.setIfInBounds_toArray, List.set_cons_zero, List.set_cons_succ]
  refine wpAnyH_ready (rs := [9, 15]) (by kernel_rfl) (by simp) ?_
  refine AllReadyH.cons (o := { dst := Option.some 35, op := Go.Op.convert 83 9 (Go.Operand.tmp 34), type := 9, pos := "lines.go:86", after := #[{ on := 8, ground := Go.Ground.data }], guard := Option.none }) rfl (fun K hK => ?_) (AllReadyH.cons (o := { dst := Option.some 41, op := Go.Op.call { callee := Go.Callee.value (Go.Operand.func 37), args := #[Go.Operand.tmp 37, Go.Operand.tmp 40], argTypes := #[68, 71] }, type := 9, pos := "lines.go:86", after := #[{ on := 11, ground := Go.Ground.data }, { on := 14, ground := Go.Ground.data }, { on := 8, ground := Go.Ground.chain }], guard := Option.none }) rfl (fun K hK => ?_) AllReadyH.nil)
  · go_simp
    have hcv := BRow.conv HR.out
    rw [← HPT.out] at hcv
    go_simp
    refine hK.out _ _ ?_ (fun hHeld => ?_)
    · exact ⟨HS, (HS.cell ht1).trans xt, (HS.cell hb1).trans x1⟩
    clear hK K
    try simp only [Act.put, List.setIfInBounds_toArray, List.set_cons_zero, List.set_cons_succ]
    refine wpAnyH_take (i := 10) (oi := { dst := Option.some 36, op := Go.Op.binOp Go.BinOp.add 9 (Go.Operand.tmp 35) (Go.Operand.const (Go.Value.string { data := #[32, 61, 32] })) 9, type := 9, pos := "lines.go:86", after := #[{ on := 9, ground := Go.Ground.data }], guard := Option.none }) (v := .string B10) rfl (by kernel_rfl) (by kernel_rfl) (by kernel_rfl) (fun _ _ _ h => h) (Or.inl ⟨by rfl, ?_⟩) (by assumption) ?_
    · (intro w hSw; (try dsimp only at hSw); go_simp)
    try simp only [Act.put, List.setIfInBounds_toArray, List.set_cons_zero, List.set_cons_succ]
    refine wpAnyH_ready (rs := [15]) (by kernel_rfl) (by simp) ?_
    refine AllReadyH.cons (o := { dst := Option.some 41, op := Go.Op.call { callee := Go.Callee.value (Go.Operand.func 37), args := #[Go.Operand.tmp 37, Go.Operand.tmp 40], argTypes := #[68, 71] }, type := 9, pos := "lines.go:86", after := #[{ on := 11, ground := Go.Ground.data }, { on := 14, ground := Go.Ground.data }, { on := 8, ground := Go.Ground.chain }], guard := Option.none }) rfl (fun K hK => ?_) AllReadyH.nil
    go_simp
    refine (HTe.out _ HS).mono ?_
    rintro z wa ⟨rfl, hB'⟩
    replace HS := HS.trans (hB'.mono HS.size)
    clear hB'
    refine hK.out _ _ ?_ (fun hHeld => ?_)
    · exact ⟨HS, (HS.cell ht1).trans xt, (HS.cell hb1).trans x1⟩
    clear hK K
    try simp only [Act.put, List.setIfInBounds_toArray, List.set_cons_zero, List.set_cons_succ]
    refine wpAnyH_take (i := 16) (oi := { dst := Option.some 42, op := Go.Op.binOp Go.BinOp.add 9 (Go.Operand.tmp 36) (Go.Operand.tmp 41) 9, type := 9, pos := "lines.go:86", after := #[{ on := 10, ground := Go.Ground.data }, { on := 15, ground := Go.Ground.data }], guard := Option.none }) (v := .string B16) rfl (by kernel_rfl) (by kernel_rfl) (by kernel_rfl) (fun _ _ _ h => h) (Or.inl ⟨by rfl, ?_⟩) (by assumption) ?_
    · (intro w hSw; (try dsimp only at hSw); go_simp)
    try simp only [Act.put, List.setIfInBounds_toArray, List.set_cons_zero, List.set_cons_succ]
    refine wpAnyH_take (i := 17) (oi := { dst := Option.some 43, op := Go.Op.binOp Go.BinOp.add 9 (Go.Operand.tmp 42) (Go.Operand.const (Go.Value.string { data := #[59] })) 9, type := 9, pos := "lines.go:86", after := #[{ on := 16, ground := Go.Ground.data }], guard := Option.none }) (v := .string B17) rfl (by kernel_rfl) (by kernel_rfl) (by kernel_rfl) (fun _ _ _ h => h) (Or.inl ⟨by rfl, ?_⟩) (by assumption) ?_
    · (intro w hSw; (try dsimp only at hSw); go_simp)
    try simp only [Act.put, List.setIfInBounds_toArray, List.set_cons_zero, List.set_cons_succ]
    refine wpAnyH_take (i := 18) (oi := { dst := Option.some 4, op := Go.Op.assign (Go.Operand.tmp 43), type := 9, pos := "lines.go:86", after := #[{ on := 17, ground := Go.Ground.data }, { on := 15, ground := Go.Ground.chain }, { on := 0, ground := Go.Ground.phase }, { on := 1, ground := Go.Ground.phase }, { on := 2, ground := Go.Ground.phase }, { on := 3, ground := Go.Ground.phase }, { on := 4, ground := Go.Ground.phase }, { on := 5, ground := Go.Ground.phase }, { on := 6, ground := Go.Ground.phase }, { on := 7, ground := Go.Ground.phase }, { on := 8, ground := Go.Ground.phase }, { on := 9, ground := Go.Ground.phase }, { on := 10, ground := Go.Ground.phase }, { on := 11, ground := Go.Ground.phase }, { on := 12, ground := Go.Ground.phase }, { on := 13, ground := Go.Ground.phase }, { on := 14, ground := Go.Ground.phase }, { on := 15, ground := Go.Ground.phase }, { on := 16, ground := Go.Ground.phase }, { on := 17, ground := Go.Ground.phase }], guard := Option.none }) (v := ?_) rfl (by kernel_rfl) (by kernel_rfl) (by kernel_rfl) (fun _ _ _ h => h) (Or.inl ⟨by rfl, ?_⟩) (by assumption) ?_
    rotate_left
    · (intro w hSw; (try dsimp only at hSw); go_simp; try with_reducible rfl)
    try simp only [Act.put, List.setIfInBounds_toArray, List.set_cons_zero, List.set_cons_succ]
    refine wpAnyH_done (by kernel_rfl) ?_ _
    have HE := Lib.hid (HB1.out.trans (HS.mono HB1.out.size))
    go_wp2_with fail
    go_ret
    exact ⟨ret_strE HF.out.symm, HE.out⟩
  · go_simp
    refine (HTe.out _ HS).mono ?_
    rintro z wb ⟨rfl, hB'⟩
    replace HR := Lib.hid (HR.out.later hB')
    replace HS := HS.trans (hB'.mono HS.size)
    clear hB'
    refine hK.out _ _ ?_ (fun hHeld => ?_)
    · exact ⟨HS, (HS.cell ht1).trans xt, (HS.cell hb1).trans x1⟩
    clear hK K
    try simp only [Act.put, List.setIfInBounds_toArray, List.set_cons_zero, List.set_cons_succ]
    refine wpAnyH_ready (rs := [9]) (by kernel_rfl) (by simp) ?_
    refine AllReadyH.cons (o := { dst := Option.some 35, op := Go.Op.convert 83 9 (Go.Operand.tmp 34), type := 9, pos := "lines.go:86", after := #[{ on := 8, ground := Go.Ground.data }], guard := Option.none }) rfl (fun K hK => ?_) AllReadyH.nil
    go_simp
    have hcv := BRow.conv HR.out
    rw [← HPT.out] at hcv
    go_simp
    refine hK.out _ _ ?_ (fun hHeld => ?_)
    · exact ⟨HS, (HS.cell ht1).trans xt, (HS.cell hb1).trans x1⟩
    clear hK K
    try simp only [Act.put, List.setIfInBounds_toArray, List.set_cons_zero, List.set_cons_succ]
    refine wpAnyH_take (i := 10) (oi := { dst := Option.some 36, op := Go.Op.binOp Go.BinOp.add 9 (Go.Operand.tmp 35) (Go.Operand.const (Go.Value.string { data := #[32, 61, 32] })) 9, type := 9, pos := "lines.go:86", after := #[{ on := 9, ground := Go.Ground.data }], guard := Option.none }) (v := .string B10) rfl (by kernel_rfl) (by kernel_rfl) (by kernel_rfl) (fun _ _ _ h => h) (Or.inl ⟨by rfl, ?_⟩) (by assumption) ?_
    · (intro w hSw; (try dsimp only at hSw); go_simp)
    try simp only [Act.put, List.setIfInBounds_toArray, List.set_cons_zero, List.set_cons_succ]
    refine wpAnyH_take (i := 16) (oi := { dst := Option.some 42, op := Go.Op.binOp Go.BinOp.add 9 (Go.Operand.tmp 36) (Go.Operand.tmp 41) 9, type := 9, pos := "lines.go:86", after := #[{ on := 10, ground := Go.Ground.data }, { on := 15, ground := Go.Ground.data }], guard := Option.none }) (v := .string B16) rfl (by kernel_rfl) (by kernel_rfl) (by kernel_rfl) (fun _ _ _ h => h) (Or.inl ⟨by rfl, ?_⟩) (by assumption) ?_
    · (intro w hSw; (try dsimp only at hSw); go_simp)
    try simp only [Act.put, List.setIfInBounds_toArray, List.set_cons_zero, List.set_cons_succ]
    refine wpAnyH_take (i := 17) (oi := { dst := Option.some 43, op := Go.Op.binOp Go.BinOp.add 9 (Go.Operand.tmp 42) (Go.Operand.const (Go.Value.string { data := #[59] })) 9, type := 9, pos := "lines.go:86", after := #[{ on := 16, ground := Go.Ground.data }], guard := Option.none }) (v := .string B17) rfl (by kernel_rfl) (by kernel_rfl) (by kernel_rfl) (fun _ _ _ h => h) (Or.inl ⟨by rfl, ?_⟩) (by assumption) ?_
    · (intro w hSw; (try dsimp only at hSw); go_simp)
    try simp only [Act.put, List.setIfInBounds_toArray, List.set_cons_zero, List.set_cons_succ]
    refine wpAnyH_take (i := 18) (oi := { dst := Option.some 4, op := Go.Op.assign (Go.Operand.tmp 43), type := 9, pos := "lines.go:86", after := #[{ on := 17, ground := Go.Ground.data }, { on := 15, ground := Go.Ground.chain }, { on := 0, ground := Go.Ground.phase }, { on := 1, ground := Go.Ground.phase }, { on := 2, ground := Go.Ground.phase }, { on := 3, ground := Go.Ground.phase }, { on := 4, ground := Go.Ground.phase }, { on := 5, ground := Go.Ground.phase }, { on := 6, ground := Go.Ground.phase }, { on := 7, ground := Go.Ground.phase }, { on := 8, ground := Go.Ground.phase }, { on := 9, ground := Go.Ground.phase }, { on := 10, ground := Go.Ground.phase }, { on := 11, ground := Go.Ground.phase }, { on := 12, ground := Go.Ground.phase }, { on := 13, ground := Go.Ground.phase }, { on := 14, ground := Go.Ground.phase }, { on := 15, ground := Go.Ground.phase }, { on := 16, ground := Go.Ground.phase }, { on := 17, ground := Go.Ground.phase }], guard := Option.none }) (v := ?_) rfl (by kernel_rfl) (by kernel_rfl) (by kernel_rfl) (fun _ _ _ h => h) (Or.inl ⟨by rfl, ?_⟩) (by assumption) ?_
    rotate_left
    · (intro w hSw; (try dsimp only at hSw); go_simp; try with_reducible rfl)
    try simp only [Act.put, List.setIfInBounds_toArray, List.set_cons_zero, List.set_cons_succ]
    refine wpAnyH_done (by kernel_rfl) ?_ _
    have HE := Lib.hid (HB1.out.trans (HS.mono HB1.out.size))
    go_wp2_with fail
    go_ret
    exact ⟨ret_strE HF.out.symm, HE.out⟩
end Go.Proofs.YtlhbledakddbbaaGreatDoor
