/- How long lines are, how far in they stand, how they open and shut braces. -/
import Derived.Test.YtkjhofnkgcjcoaaDoorP10
import Derived.Test.YtkjhofnkgcjcoaaDoorP17
namespace Go.Proofs.YtkjhofnkgcjcoaaDoor
open Go.RowKit

mutual
def St.fine : St → Prop
  | .mk _ _ _ e a g lo hi bd el => (e.fine ∧ a.fine ∧ g.fine ∧ lo < 18446744073709551616 ∧ hi < 18446744073709551616) ∧ bd.fine ∧ el.fine
def Sts.fine : Sts → Prop
  | .nil => True
  | .cons x r => x.fine ∧ r.fine
end
theorem sumL_strs (l : List (List UInt8)) : sumL l ≤ 2 * strsT l := by
  induction l with
  | nil => exact Nat.le_refl _
  | cons x r ih => simp only [sumL, strsT]; omega
theorem first_eq (kd : Int) (nm : List UInt8) (ns : List (List UInt8)) (e a : Ex) (g : Exs) (lo hi : Nat) (bd el : Sts) : firstT kd nm ns e.text a.text g.texts lo hi = (St.mk kd nm ns e a g lo hi bd el).first := rfl
theorem first_len {x : St} (h : x.fine) : x.first.length ≤ 100 + 30 * x.total := by
  obtain ⟨kd, nm, ns, e, a, g, lo, hi, bd, el⟩ := x
  obtain ⟨⟨he, ha, hg, hlo, hhi⟩, _⟩ := h
  have h1 := e.text_le he
  have h2 := a.text_le ha
  have h3 := g.text_le hg
  have h4 := joinL_len g.texts
  have h5 := joinL_len ns
  have h6 := sumL_strs ns
  have h7 := dec_len hlo
  have h8 := dec_len hhi
  rw [← first_eq]
  simp only [St.total, firstT]
  repeat' split
  all_goals (simp only [List.length_append, List.length_cons, List.length_nil]; omega)
/-- each line: how far in, how long -/
def LnOk (t d m : Nat) (x : Nat × List UInt8) : Prop := t ≤ x.1 ∧ x.1 < t + d ∧ x.2.length ≤ 100 + 30 * m
mutual
theorem St.lines_ok : ∀ (x : St) (t : Nat), x.fine → ∀ y ∈ x.lines t, LnOk t x.deep x.total y
  | .mk kd nm ns e a g lo hi bd el, t, h => by
    have hf := first_len h
    have hb := Sts.lines_ok bd (t + 1) h.2.1
    have hl := Sts.lines_ok el (t + 1) h.2.2
    intro y hy
    simp only [St.lines, List.mem_cons] at hy
    simp only [St.deep, St.total] at *
    rcases hy with rfl | hy
    · exact ⟨Nat.le_refl _, by simp only []; omega, hf⟩
    · split at hy
      · rw [List.mem_append, List.mem_append] at hy
        rcases hy with hy | hy | hy
        · have := hb y hy; exact ⟨by have := this.1; omega, by have := this.2.1; omega, by have := this.2.2; omega⟩
        · split at hy
          · cases hy
          · rw [List.mem_cons] at hy
            rcases hy with rfl | hy
            · exact ⟨Nat.le_refl _, by simp only []; omega, by simp only [elseT, List.length_cons, List.length_nil]; omega⟩
            · have := hl y hy; exact ⟨by have := this.1; omega, by have := this.2.1; omega, by have := this.2.2; omega⟩
        · rw [List.mem_singleton] at hy
          subst hy
          exact ⟨Nat.le_refl _, by simp only []; omega, by simp only [List.length_cons, List.length_nil]; omega⟩
      · cases hy
theorem Sts.lines_ok : ∀ (l : Sts) (t : Nat), l.fine → ∀ y ∈ l.lines t, LnOk t l.deep l.total y
  | .nil, _, _ => fun _ h => by cases h
  | .cons x r, t, h => by
    have hx := St.lines_ok x t h.1
    have hr := Sts.lines_ok r t h.2
    intro y hy
    simp only [Sts.lines, List.mem_append] at hy
    simp only [Sts.deep, Sts.total]
    rcases hy with hy | hy
    · have := hx y hy; exact ⟨this.1, by have := this.2.1; omega, by have := this.2.2; omega⟩
    · have := hr y hy; exact ⟨this.1, by have := this.2.1; omega, by have := this.2.2; omega⟩
end

def shutO (o : Int) (s : List UInt8) : Int := if s.headD 0 = 125 then o - 1 else o
def stepO (o : Int) (s : List UInt8) : Int := if s.getLastD 0 = 123 then shutO o s + 1 else shutO o s
def openT : List (Nat × List UInt8) → Int → Int
  | [], o => o
  | x :: r, o => openT r (stepO o x.2)
def Braced : List (Nat × List UInt8) → Int → Prop
  | [], _ => True
  | x :: r, o => (x.2 ≠ [] ∧ (x.1 : Int) = shutO o x.2) ∧ Braced r (stepO o x.2)
theorem openT_app : ∀ (l r : List (Nat × List UInt8)) (o : Int), openT (l ++ r) o = openT r (openT l o)
  | [], _, _ => rfl
  | _x :: l, r, _o => openT_app l r _
theorem Braced.app : ∀ (l r : List (Nat × List UInt8)) (o : Int), Braced l o → Braced r (openT l o) → Braced (l ++ r) o
  | [], _, _, _, h => h
  | _x :: l, r, _o, h, k => ⟨h.1, Braced.app l r _ h.2 k⟩
theorem Braced.get : ∀ (l : List (Nat × List UInt8)) (o : Int), Braced l o → ∀ (k : Nat) (x : Nat × List UInt8), l[k]? = some x → x.2 ≠ [] ∧ (x.1 : Int) = shutO (openT (l.take k) o) x.2 ∧ openT (l.take (k + 1)) o = stepO (openT (l.take k) o) x.2
  | [], _, _, k, x, hk => by simp at hk
  | y :: l, o, h, 0, x, hk => by simp at hk; subst hk; exact ⟨h.1.1, h.1.2, rfl⟩
  | y :: l, o, h, k + 1, x, hk => by
    have := Braced.get l _ h.2 k x (by simpa using hk)
    simpa [List.take_succ_cons, openT] using this
theorem name_head {nm r : List UInt8} (h : nameB nm = true) : (nm ++ r).headD 0 ≠ 125 ∧ nm ++ r ≠ [] := by
  cases nm with
  | nil => rw [name_ne0] at h; cases h
  | cons c s =>
    simp only [nameB, Bool.and_eq_true] at h
    have hc := h.1.1.2
    refine ⟨?_, by simp⟩
    intro he
    simp only [List.headD_cons, List.cons_append] at he hc
    subst he
    revert hc; decide
where name_ne0 : nameB [] = false := by decide
theorem stepO_flat {o : Int} {s : List UInt8} (h : s.headD 0 ≠ 125) (k : s.getLastD 0 ≠ 123) : stepO o s = o := by rw [stepO, if_neg k, shutO, if_neg h]
theorem last_app (a b : List UInt8) (c : UInt8) : (a ++ (b ++ [c])).getLastD 0 = c := by
  rw [← List.append_assoc, List.getLastD_eq_getLast?, List.getLast?_append]; simp
theorem last_one (a : List UInt8) (c : UInt8) : (a ++ [c]).getLastD 0 = c := by
  rw [List.getLastD_eq_getLast?, List.getLast?_append]; simp
theorem last_two (a : List UInt8) (b c : UInt8) : (a ++ [b, c]).getLastD 0 = c := last_app a [b] c
theorem head_app (c : UInt8) (r s : List UInt8) : ((c :: r) ++ s).headD 0 = c := rfl
theorem join_head {ns : List (List UInt8)} (r : List UInt8) (h : namesB ns = true) (h0 : ns.length ≠ 0) : (Lib.join ns [44, 32] ++ r).headD 0 ≠ 125 ∧ Lib.join ns [44, 32] ++ r ≠ [] := by
  cases ns with
  | nil => exact absurd rfl h0
  | cons x s =>
    simp only [namesB, List.all_cons, Bool.and_eq_true] at h
    rw [Lib.join_cons, List.append_assoc]
    exact name_head h.1
theorem first_braced {x : St} (h : x.may = true) : x.first ≠ [] ∧ x.first.headD 0 ≠ 125 ∧ (x.first.getLastD 0 = 123 ↔ (x.kind = 3 ∨ x.kind = 4 ∨ x.kind = 5)) := by
  obtain ⟨kd, nm, ns, e, a, g, lo, hi, bd, el⟩ := x
  have hno : kd < 1 ∨ 6 < kd ∨ kd = 1 ∨ kd = 2 ∨ kd = 3 ∨ kd = 4 ∨ kd = 5 ∨ kd = 6 := by omega
  rw [← first_eq]
  simp only [St.kind]
  rcases hno with k | k | rfl | rfl | rfl | rfl | rfl | rfl
  · rw [st_may_no kd (.inl k)] at h; cases h
  · rw [st_may_no kd (.inr k)] at h; cases h
  · rw [st_may_1] at h; simp only [Bool.and_eq_true] at h
    have := name_head (r := [32, 61, 32] ++ e.text ++ [59]) h.1.1
    rw [firstT, if_pos rfl, last_one]
    simp only [List.append_assoc] at this ⊢
    exact ⟨this.2, this.1, by decide⟩
  · rw [st_may_2] at h; simp only [Bool.and_eq_true] at h
    have := name_head (r := [91] ++ a.text ++ [93] ++ [32, 61, 32] ++ e.text ++ [59]) h.1.1
    rw [firstT, if_neg (by decide), if_pos rfl, last_one]
    simp only [List.append_assoc] at this ⊢
    exact ⟨this.2, this.1, by decide⟩
  · rw [firstT, if_neg (by decide), if_neg (by decide), if_pos rfl, last_two]
    exact ⟨by simp, by rw [List.append_assoc, head_app]; decide, by decide⟩
  · rw [firstT, if_neg (by decide), if_neg (by decide), if_neg (by decide), if_pos rfl, last_two]
    exact ⟨by simp, by rw [List.append_assoc, head_app]; decide, by decide⟩
  · rw [firstT, if_neg (by decide), if_neg (by decide), if_neg (by decide), if_neg (by decide), if_pos rfl, last_two]
    exact ⟨by simp, by simp only [List.append_assoc]; rw [head_app]; decide, by decide⟩
  · rw [st_may_6] at h; simp only [Bool.and_eq_true] at h
    rw [firstT, if_neg (by decide), if_neg (by decide), if_neg (by decide), if_neg (by decide), if_neg (by decide)]
    split
    · have := name_head (r := [40] ++ Lib.join g.texts [44, 32] ++ [41] ++ [59]) h.1.1
      rw [last_one]
      simp only [List.append_assoc] at this ⊢
      exact ⟨this.2, this.1, by decide⟩
    · rename_i h0
      have := join_head (r := [32, 61, 32] ++ ((nm ++ ([40] ++ Lib.join g.texts [44, 32] ++ [41])) ++ [59])) h.1.2.1 h0
      rw [last_app]
      rw [List.append_assoc]
      exact ⟨this.2, this.1, by decide⟩
theorem open_shut (t : Nat) : Braced [(t, [125])] ((t + 1 : Nat) : Int) ∧ openT [(t, [125])] ((t + 1 : Nat) : Int) = (t : Int) := by
  have h1 : shutO ((t + 1 : Nat) : Int) [125] = (t : Int) := by
    have : shutO ((t + 1 : Nat) : Int) [125] = ((t + 1 : Nat) : Int) - 1 := if_pos rfl
    omega
  have h2 : stepO ((t + 1 : Nat) : Int) [125] = (t : Int) := by rw [stepO, if_neg (by decide), h1]
  exact ⟨⟨⟨by simp, h1.symm⟩, trivial⟩, h2⟩
theorem open_else (t : Nat) : shutO ((t + 1 : Nat) : Int) elseT = (t : Int) ∧ stepO ((t + 1 : Nat) : Int) elseT = ((t + 1 : Nat) : Int) := by
  have h0 : shutO ((t + 1 : Nat) : Int) elseT = ((t + 1 : Nat) : Int) - 1 := if_pos rfl
  have h1 : shutO ((t + 1 : Nat) : Int) elseT = (t : Int) := by omega
  have h2 : stepO ((t + 1 : Nat) : Int) elseT = shutO ((t + 1 : Nat) : Int) elseT + 1 := if_pos rfl
  exact ⟨h1, by omega⟩
mutual
theorem St.lines_braced : ∀ (x : St) (t : Nat), x.may = true → Braced (x.lines t) t ∧ openT (x.lines t) t = t
  | .mk kd nm ns e a g lo hi bd el, t, h => by
    obtain ⟨f1, f2, f3⟩ := first_braced h
    rw [← first_eq] at f1 f2 f3
    simp only [St.lines, St.kind] at f3 ⊢
    generalize firstT kd nm ns e.text a.text g.texts lo hi = s at *
    have hs : shutO (t : Int) s = (t : Int) := by rw [shutO, if_neg f2]
    by_cases hk : kd = 3 ∨ kd = 4 ∨ kd = 5
    · have hst : stepO (t : Int) s = ((t + 1 : Nat) : Int) := by rw [stepO, if_pos (f3.2 hk), hs]; omega
      have hb : bd.may = true := by
        rcases hk with rfl | rfl | rfl
        · rw [st_may_3] at h; simp only [Bool.and_eq_true] at h; exact h.1.2.1
        · rw [st_may_4] at h; simp only [Bool.and_eq_true] at h; exact h.1.2
        · rw [st_may_5] at h; simp only [Bool.and_eq_true] at h; exact h.1.2
      have hB := Sts.lines_braced bd (t + 1) hb
      rw [if_pos hk]
      by_cases h0 : el.len = 0
      · rw [if_pos h0, List.nil_append]
        refine ⟨⟨⟨f1, hs.symm⟩, ?_⟩, ?_⟩
        · rw [hst]; exact Braced.app _ _ _ hB.1 (by rw [hB.2]; exact (open_shut t).1)
        · rw [openT, hst, openT_app, hB.2]; exact (open_shut t).2
      · have he : el.may = true := by
          rcases hk with rfl | rfl | rfl
          · rw [st_may_3] at h; simp only [Bool.and_eq_true] at h; exact h.1.2.2
          · rw [st_may_4] at h; simp only [Bool.and_eq_true, St.isZero, decide_eq_true_eq] at h; exact absurd h.2.2.2.2.2.2.2.2.2.2 h0
          · rw [st_may_5] at h; simp only [Bool.and_eq_true, St.isZero, decide_eq_true_eq] at h; exact absurd h.2.2.2.2.2.2.2.2.2.2 h0
        have hE := Sts.lines_braced el (t + 1) he
        have oe := open_else t
        have hT0 : openT ((t, elseT) :: el.lines (t + 1)) ((t + 1 : Nat) : Int) = ((t + 1 : Nat) : Int) := by rw [openT]; simp only []; rw [oe.2, hE.2]
        have hTail : Braced (((t, elseT) :: el.lines (t + 1)) ++ [(t, [125])]) ((t + 1 : Nat) : Int) ∧ openT (((t, elseT) :: el.lines (t + 1)) ++ [(t, [125])]) ((t + 1 : Nat) : Int) = t := by
          constructor
          · refine Braced.app _ _ _ ⟨⟨by simp [elseT], oe.1.symm⟩, by simp only []; rw [oe.2]; exact hE.1⟩ ?_
            rw [hT0]; exact (open_shut t).1
          · rw [openT_app, hT0]; exact (open_shut t).2
        rw [if_neg h0]
        refine ⟨⟨⟨f1, hs.symm⟩, ?_⟩, ?_⟩
        · rw [hst]; exact Braced.app _ _ _ hB.1 (by rw [hB.2]; exact hTail.1)
        · rw [openT, hst, openT_app, hB.2]; exact hTail.2
    · have hst : stepO (t : Int) s = (t : Int) := by rw [stepO, if_neg (fun h => hk (f3.1 h)), hs]
      rw [if_neg hk]
      exact ⟨⟨⟨f1, hs.symm⟩, trivial⟩, by rw [openT, hst]; rfl⟩
theorem Sts.lines_braced : ∀ (l : Sts) (t : Nat), l.may = true → Braced (l.lines t) t ∧ openT (l.lines t) t = t
  | .nil, _, _ => ⟨trivial, rfl⟩
  | .cons x r, t, h => by
    rw [Sts.may, Bool.and_eq_true] at h
    have hx := St.lines_braced x t h.1
    have hr := Sts.lines_braced r t h.2
    simp only [Sts.lines]
    exact ⟨Braced.app _ _ _ hx.1 (by rw [hx.2]; exact hr.1), by rw [openT_app, hx.2]; exact hr.2⟩
end
end Go.Proofs.YtkjhofnkgcjcoaaDoor
