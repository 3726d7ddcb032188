/- I3, V5, V6, V7, R5, V8, LV as one. -/
import Derived.Test.YtlhbledakddbbaaGreatDoorQ7
import Derived.Test.YtlhbledakddbbaaGreatDoorR3
import Derived.Test.YtlhbledakddbbaaGreatDoorZaF
/- Unlike programs that can be told have unlike texts: functions, regions, lines. -/
namespace Go.Proofs.YtlhbledakddbbaaGreatDoor
open Go.RowKit

theorem sec_cut {a b : Bool} {r s : List UInt8} {c d : UInt8} (hc : c ≠ 32) (hd : d ≠ 32) (h : secT a ++ c :: r = secT b ++ d :: s) : a = b ∧ c :: r = d :: s := by
  cases a <;> cases b
  · exact ⟨rfl, h⟩
  · simp only [secT, List.cons_append, Bool.false_eq_true, if_false, if_true, List.nil_append, List.cons.injEq] at h; exact absurd h.1 hc
  · simp only [secT, List.cons_append, Bool.false_eq_true, if_false, if_true, List.nil_append, List.cons.injEq] at h; exact absurd h.1.symm hd
  · exact ⟨rfl, List.append_cancel_left h⟩
theorem sec_brk (a : Bool) {c : UInt8} (r : List UInt8) (h : isPart c = false) : Brk (secT a ++ c :: r) := by
  cases a
  · exact brk_of _ h
  · exact b32 _
theorem mayP_parts {v : Vr} (h : v.mayP = true) : nameB v.name = true ∧ v.kind = 1 ∧ v.size = 0 := by
  unfold Vr.mayP at h
  rw [Bool.and_eq_true, Bool.and_eq_true] at h
  exact ⟨h.1, of_decide_eq_true h.2.1, of_decide_eq_true h.2.2⟩
theorem param_eq {v w : Vr} (hv : v.mayP = true) (hw : w.mayP = true) (h1 : v.name = w.name) (h2 : v.secret = w.secret) : v = w := by
  have a := mayP_parts hv
  have b := mayP_parts hw
  obtain ⟨n, k, s, c⟩ := v
  obtain ⟨n', k', s', c'⟩ := w
  obtain ⟨_, a1, a2⟩ := a
  obtain ⟨_, b1, b2⟩ := b
  simp only at a1 a2 b1 b2 h1 h2
  rw [a1, a2, b1, b2, h1, h2]
theorem tail_head (ts : List (List UInt8)) (c : UInt8) (s : List UInt8) : ∃ d r, Lib.joinTail [44, 32] ts ++ c :: s = d :: r ∧ (d = 44 ∨ d = c) := by
  cases ts with
  | nil => exact ⟨c, s, rfl, .inr rfl⟩
  | cons x t => rw [joinTail_cons]; exact ⟨_, _, rfl, .inl rfl⟩
/-- one parameter, and what stands behind it -/
theorem param_cut {v w : Vr} {r s : List UInt8} (hv : v.mayP = true) (hw : w.mayP = true) (hr : ∃ d t, r = d :: t ∧ (d = 44 ∨ d = 41)) (hs : ∃ d t, s = d :: t ∧ (d = 44 ∨ d = 41)) (h : v.param ++ r = w.param ++ s) : v = w ∧ r = s := by
  obtain ⟨d, t, rfl, hd⟩ := hr
  obtain ⟨d', t', rfl, hd'⟩ := hs
  have p : ∀ {x : UInt8}, (x = 44 ∨ x = 41) → isPart x = false ∧ x ≠ 32 := fun hx => by rcases hx with rfl | rfl <;> exact ⟨by decide, by decide⟩
  simp only [Vr.param, List.append_assoc] at h
  obtain ⟨h1, h2⟩ := word_cut _ _ _ _ (name_parts (mayP_parts hv).1).1 (name_parts (mayP_parts hw).1).1 (sec_brk _ _ (p hd).1) (sec_brk _ _ (p hd').1) h
  obtain ⟨h3, h4⟩ := sec_cut (p hd).2 (p hd').2 h2
  exact ⟨param_eq hv hw h1 h3, h4⟩
theorem paramsTail_cut : ∀ (a b : List Vr) (r s : List UInt8), a.all Vr.mayP = true → b.all Vr.mayP = true → Lib.joinTail [44, 32] (a.map Vr.param) ++ 41 :: r = Lib.joinTail [44, 32] (b.map Vr.param) ++ 41 :: s → a = b ∧ r = s
  | [], [], r, s, _, _, h => by simp only [List.map_nil, joinTail_nil, List.nil_append, List.cons.injEq, true_and] at h; exact ⟨rfl, h⟩
  | [], y :: b, r, s, _, _, h => by simp [joinTail_nil, joinTail_cons] at h
  | x :: a, [], r, s, _, _, h => by simp [joinTail_nil, joinTail_cons] at h
  | x :: a, y :: b, r, s, ha, hb, h => by
    simp only [List.map_cons, joinTail_cons, List.cons_append, List.append_assoc, List.cons.injEq, true_and] at h
    simp only [List.all_cons, Bool.and_eq_true] at ha hb
    obtain ⟨h1, h2⟩ := param_cut ha.1 hb.1 (tail_head _ _ _) (tail_head _ _ _) h
    obtain ⟨h3, h4⟩ := paramsTail_cut a b r s ha.2 hb.2 h2
    exact ⟨by rw [h1, h3], h4⟩
theorem param_head {v : Vr} (h : v.mayP = true) (r : List UInt8) : ∃ c s, v.param ++ r = c :: s ∧ c ≠ 41 := by
  obtain ⟨_, ⟨c, s, e, hc⟩, _⟩ := name_parts (mayP_parts h).1
  exact ⟨c, _, by rw [Vr.param, e]; rfl, (let_ne hc).2.2.2.1⟩
theorem params_cut {a b : List Vr} {r s : List UInt8} (ha : a.all Vr.mayP = true) (hb : b.all Vr.mayP = true) (h : Lib.join (a.map Vr.param) [44, 32] ++ 41 :: r = Lib.join (b.map Vr.param) [44, 32] ++ 41 :: s) : a = b ∧ r = s := by
  cases a with
  | nil =>
    cases b with
    | nil => simp only [List.map_nil, Lib.join_nil, List.nil_append, List.cons.injEq, true_and] at h; exact ⟨rfl, h⟩
    | cons y b =>
      simp only [List.all_cons, Bool.and_eq_true] at hb
      obtain ⟨c, t, e, hc⟩ := param_head hb.1 (Lib.joinTail [44, 32] (b.map Vr.param) ++ 41 :: s)
      simp only [List.map_nil, List.map_cons, Lib.join_nil, Lib.join_cons, List.append_assoc, e, List.nil_append, List.cons.injEq] at h
      exact absurd h.1.symm hc
  | cons x a =>
    simp only [List.all_cons, Bool.and_eq_true] at ha
    cases b with
    | nil =>
      obtain ⟨c, t, e, hc⟩ := param_head ha.1 (Lib.joinTail [44, 32] (a.map Vr.param) ++ 41 :: r)
      simp only [List.map_nil, List.map_cons, Lib.join_nil, Lib.join_cons, List.append_assoc, e, List.nil_append, List.cons.injEq] at h
      exact absurd h.1 hc
    | cons y b =>
      simp only [List.all_cons, Bool.and_eq_true] at hb
      simp only [List.map_cons, Lib.join_cons, List.append_assoc] at h
      obtain ⟨h1, h2⟩ := param_cut ha.1 hb.1 (tail_head _ _ _) (tail_head _ _ _) h
      obtain ⟨h3, h4⟩ := paramsTail_cut a b r s ha.2 hb.2 h2
      exact ⟨by rw [h1, h3], h4⟩
/-- a variable's line -/
theorem may_var {v : Vr} (h : v.may = true) : (∃ nm, v = ⟨nm, 1, 0, false⟩ ∧ nameB nm = true) ∨ (∃ nm n sc, (v = ⟨nm, 2, (n : Nat), sc⟩ ∨ v = ⟨nm, 3, (n : Nat), sc⟩) ∧ nameB nm = true) := by
  unfold Vr.may at h
  split at h
  · rename_i hk
    rw [Bool.and_eq_true, Bool.not_eq_true'] at h
    obtain ⟨h1, _, h2⟩ := mayP_parts h.1
    obtain ⟨n, k, s, c⟩ := v
    simp only at hk h1 h2 h
    exact .inl ⟨n, by rw [hk, h2, h.2], h1⟩
  · split at h
    · rename_i _ hk
      rw [Bool.and_eq_true] at h
      have h2 := of_decide_eq_true h.2
      obtain ⟨n, k, s, c⟩ := v
      simp only at hk h h2
      obtain ⟨m, rfl⟩ := Int.eq_ofNat_of_zero_le h2
      refine .inr ⟨n, m, c, ?_, h.1⟩
      rcases hk with rfl | rfl
      · exact .inl rfl
      · exact .inr rfl
    · cases h
theorem line_1 (nm : List UInt8) : (Vr.mk nm 1 0 false).line = [118, 97, 114] ++ 32 :: (nm ++ [59]) := by simp [Vr.line]
theorem line_2 (nm : List UInt8) (n : Nat) (sc : Bool) : (Vr.mk nm 2 (n : Nat) sc).line = [97, 114, 114, 97, 121] ++ 32 :: (nm ++ 32 :: (Lib.decDigits n ++ (secT sc ++ [59]))) := by simp [Vr.line, Vr.word]
theorem line_3 (nm : List UInt8) (n : Nat) (sc : Bool) : (Vr.mk nm 3 (n : Nat) sc).line = [115, 116, 97, 99, 107] ++ 32 :: (nm ++ 32 :: (Lib.decDigits n ++ (secT sc ++ [59]))) := by simp [Vr.line, Vr.word]
theorem b59 (r : List UInt8) : Brk (59 :: r) := brk_of r (by decide)
theorem sized_cut {nm nm' : List UInt8} {n n' : Nat} {sc sc' : Bool} {r s : List UInt8} (hn : nameB nm = true) (hn' : nameB nm' = true) (h : nm ++ 32 :: (Lib.decDigits n ++ (secT sc ++ 59 :: r)) = nm' ++ 32 :: (Lib.decDigits n' ++ (secT sc' ++ 59 :: s))) : nm = nm' ∧ n = n' ∧ sc = sc' := by
  obtain ⟨h1, h2⟩ := word_cut _ _ _ _ (name_parts hn).1 (name_parts hn').1 (b32 _) (b32 _) h
  simp only [List.cons.injEq, true_and] at h2
  obtain ⟨h3, h4⟩ := dec_cut (sec_brk _ _ (by decide)) (sec_brk _ _ (by decide)) h2
  exact ⟨h1, h3, (sec_cut (by decide) (by decide) h4).1⟩
theorem var_cut {v w : Vr} (hv : v.may = true) (hw : w.may = true) (h : v.line = w.line) : v = w := by
  rcases may_var hv with ⟨nm, rfl, hn⟩ | ⟨nm, n, sc, rfl | rfl, hn⟩ <;> rcases may_var hw with ⟨nm', rfl, hn'⟩ | ⟨nm', n', sc', rfl | rfl, hn'⟩
  · rw [line_1, line_1] at h
    simp only [List.cons_append, List.nil_append, List.cons.injEq, true_and] at h
    rw [(word_cut _ _ _ _ (name_parts hn).1 (name_parts hn').1 (b59 _) (b59 _) h).1]
  · rw [line_1, line_2] at h; simp at h
  · rw [line_1, line_3] at h; simp at h
  · rw [line_2, line_1] at h; simp at h
  · rw [line_2, line_2] at h
    simp only [List.cons_append, List.nil_append, List.cons.injEq, true_and] at h
    obtain ⟨rfl, rfl, rfl⟩ := sized_cut hn hn' h; rfl
  · rw [line_2, line_3] at h; simp at h
  · rw [line_3, line_1] at h; simp at h
  · rw [line_3, line_2] at h; simp at h
  · rw [line_3, line_3] at h
    simp only [List.cons_append, List.nil_append, List.cons.injEq, true_and] at h
    obtain ⟨rfl, rfl, rfl⟩ := sized_cut hn hn' h; rfl
theorem line_word {v : Vr} (h : v.may = true) : ∃ w, Word0 w v.line ∧ (w = [118, 97, 114] ∨ w = [97, 114, 114, 97, 121] ∨ w = [115, 116, 97, 99, 107]) := by
  rcases may_var h with ⟨nm, rfl, hn⟩ | ⟨nm, n, sc, rfl | rfl, hn⟩
  · exact ⟨_, ⟨_, line_1 nm, by decide, b32 _⟩, .inl rfl⟩
  · exact ⟨_, ⟨_, line_2 nm n sc, by decide, b32 _⟩, .inr (.inl rfl)⟩
  · exact ⟨_, ⟨_, line_3 nm n sc, by decide, b32 _⟩, .inr (.inr rfl)⟩
/-- what stands behind variables is no variable -/
def NoVar (r : List (Nat × List UInt8)) : Prop := ∀ y s, r = y :: s → ∀ v : Vr, v.may = true → y.2 ≠ v.line
theorem vars_cut : ∀ (a b : List Vr) (r s : List (Nat × List UInt8)), a.all Vr.may = true → b.all Vr.may = true → NoVar r → NoVar s → a.map (fun v => (1, v.line)) ++ r = b.map (fun v => (1, v.line)) ++ s → a = b ∧ r = s
  | [], [], _, _, _, _, _, _, h => ⟨rfl, h⟩
  | [], y :: b, r, s, _, hb, hr, _, h => by
    simp only [List.map_nil, List.map_cons, List.nil_append, List.cons_append] at h
    simp only [List.all_cons, Bool.and_eq_true] at hb
    exact absurd rfl (hr _ _ h y hb.1)
  | x :: a, [], r, s, ha, _, _, hs, h => by
    simp only [List.map_nil, List.map_cons, List.nil_append, List.cons_append] at h
    simp only [List.all_cons, Bool.and_eq_true] at ha
    exact absurd rfl (hs _ _ h.symm x ha.1)
  | x :: a, y :: b, r, s, ha, hb, hr, hs, h => by
    simp only [List.map_cons, List.cons_append, List.cons.injEq, Prod.mk.injEq, true_and] at h
    simp only [List.all_cons, Bool.and_eq_true] at ha hb
    obtain ⟨h3, h4⟩ := vars_cut a b r s ha.2 hb.2 hr hs h.2
    exact ⟨by rw [var_cut ha.1 hb.1 h.1, h3], h4⟩
theorem first_no_var {x : St} (hx : x.may = true) {v : Vr} (hv : v.may = true) : x.first ≠ v.line := by
  intro e
  obtain ⟨w, h1, h2⟩ := (St.shape hx).word
  obtain ⟨u, h3, h4⟩ := line_word hv
  rw [e] at h1
  obtain rfl := h1.uniq h3
  rcases h2 with h2 | h2
  · have := (name_parts h2).2.2
    rcases h4 with rfl | rfl | rfl <;> (revert this; decide)
  · rcases h4 with rfl | rfl | rfl <;> (revert h2; decide)
theorem body_no_var {l : Sts} (hl : l.may = true) (t : Nat) (r : List (Nat × List UInt8)) : NoVar (l.lines t ++ ((0, [125]) :: r)) := by
  intro y s e v hv
  cases l with
  | nil =>
    simp only [Sts.lines, List.nil_append, List.cons.injEq] at e
    rw [← e.1]
    intro h
    obtain ⟨u, ⟨q, h3, _, _⟩, h4⟩ := line_word hv
    rw [h3] at h
    rcases h4 with rfl | rfl | rfl <;> simp at h
  | cons x l =>
    rw [Sts.may, Bool.and_eq_true] at hl
    obtain ⟨kd, nm, ns, e', a, g, lo, hi, bd, el⟩ := x
    simp only [Sts.lines, St.lines, List.cons_append, List.cons.injEq, first_eq] at e
    rw [← e.1]
    exact first_no_var hl.1 hv
theorem can_may {l : Sts} (h : l.can = true) : l.may = true := by unfold Sts.can at h; rw [Bool.and_eq_true] at h; exact h.2
theorem fnc_parts {f : Fnc} (h : f.may = true) : nameB f.name = true ∧ f.params.all Vr.mayP = true ∧ f.vars.all Vr.may = true ∧ namesB f.rets = true ∧ f.body.may = true := by
  unfold Fnc.may at h
  simp only [Bool.and_eq_true] at h
  exact ⟨h.1, h.2.1, h.2.2.1, h.2.2.2.1, can_may h.2.2.2.2⟩
theorem head_form (f : Fnc) : f.head = [102, 110] ++ 32 :: (f.name ++ 40 :: (Lib.join (f.params.map Vr.param) [44, 32] ++ 41 :: ((if f.rets.length = 0 then [] else [32, 45, 62, 32] ++ Lib.join f.rets [44, 32]) ++ [32, 123]))) := by
  simp [Fnc.head]
theorem head_cut {f g : Fnc} (hf : f.may = true) (hg : g.may = true) (h : f.head = g.head) : f.name = g.name ∧ f.params = g.params ∧ f.rets = g.rets := by
  obtain ⟨f1, f2, _, f4, _⟩ := fnc_parts hf
  obtain ⟨g1, g2, _, g4, _⟩ := fnc_parts hg
  rw [head_form, head_form] at h
  simp only [List.cons_append, List.nil_append, List.cons.injEq, true_and] at h
  obtain ⟨h1, h2⟩ := word_cut _ _ _ _ (name_parts f1).1 (name_parts g1).1 (b40 _) (b40 _) h
  simp only [List.cons.injEq, true_and] at h2
  obtain ⟨h3, h4⟩ := params_cut f2 g2 h2
  refine ⟨h1, h3, ?_⟩
  generalize f.rets = a at *
  generalize g.rets = b at *
  cases a with
  | nil =>
    cases b with
    | nil => rfl
    | cons y b => simp at h4
  | cons x a =>
    cases b with
    | nil => simp at h4
    | cons y b =>
      simp only [namesB, List.all_cons, Bool.and_eq_true] at f4 g4
      rw [if_neg (by simp), if_neg (by simp), Lib.join_cons, Lib.join_cons] at h4
      simp only [List.cons_append, List.append_assoc, List.cons.injEq, true_and] at h4
      obtain ⟨h5, h6⟩ := word_cut _ _ _ _ (name_parts f4.1).1 (name_parts g4.1).1 (tail_brk _ _ (by decide)) (tail_brk _ _ (by decide)) h4
      obtain ⟨h7, _⟩ := names_cut _ _ _ _ f4.2 g4.2 h6
      rw [h5, h7]
theorem fnc_cut {f g : Fnc} {r s : List (Nat × List UInt8)} (hf : f.may = true) (hg : g.may = true) (h : f.lines ++ r = g.lines ++ s) : f = g ∧ r = s := by
  obtain ⟨_, _, f3, _, f5⟩ := fnc_parts hf
  obtain ⟨_, _, g3, _, g5⟩ := fnc_parts hg
  simp only [Fnc.lines, List.cons_append, List.append_assoc, List.cons.injEq, Prod.mk.injEq, true_and, List.nil_append] at h
  obtain ⟨h1, h2, h3⟩ := head_cut hf hg h.1
  obtain ⟨h4, h5⟩ := vars_cut _ _ _ _ f3 g3 (body_no_var f5 1 _) (body_no_var g5 1 _) h.2
  obtain ⟨h6, h7⟩ := Sts.cut _ _ _ 1 _ _ (Nat.lt_succ_self _) f5 g5 (close_of _ rfl) (close_of _ rfl) h5
  simp only [List.cons.injEq, true_and] at h7
  obtain ⟨a1, a2, a3, a4, a5⟩ := f
  obtain ⟨b1, b2, b3, b4, b5⟩ := g
  simp only at h1 h2 h3 h4 h6
  exact ⟨by rw [h1, h2, h3, h4, h6], h7⟩
theorem fns_cut : ∀ (a b : List Fnc), a.all Fnc.may = true → b.all Fnc.may = true → a.flatMap Fnc.lines = b.flatMap Fnc.lines → a = b
  | [], [], _, _, _ => rfl
  | [], y :: b, _, _, h => by simp [Fnc.lines] at h
  | x :: a, [], _, _, h => by simp [Fnc.lines] at h
  | x :: a, y :: b, ha, hb, h => by
    simp only [List.all_cons, Bool.and_eq_true] at ha hb
    simp only [List.flatMap_cons] at h
    obtain ⟨h1, h2⟩ := fnc_cut ha.1 hb.1 h
    rw [h1, fns_cut a b ha.2 hb.2 h2]
theorem rgn_parts {r : Rgn} (h : r.may = true) : ∃ nm a n sc, r = ⟨nm, (a : Nat), (n : Nat), sc⟩ ∧ nameB nm = true := by
  unfold Rgn.may at h
  rw [Bool.and_eq_true, Bool.and_eq_true] at h
  have h1 := of_decide_eq_true h.2.1
  have h2 := of_decide_eq_true h.2.2
  obtain ⟨nm, a, n, sc⟩ := r
  simp only at h1 h2 h
  obtain ⟨a', rfl⟩ := Int.eq_ofNat_of_zero_le h1
  obtain ⟨n', rfl⟩ := Int.eq_ofNat_of_zero_le h2
  exact ⟨nm, a', n', sc, rfl, h.1⟩
theorem rline_form (nm : List UInt8) (a n : Nat) (sc : Bool) : (Rgn.mk nm (a : Nat) (n : Nat) sc).line = [114, 101, 103, 105, 111, 110] ++ 32 :: (nm ++ 32 :: (Lib.decDigits a ++ 32 :: (Lib.decDigits n ++ (secT sc ++ [59])))) := by simp [Rgn.line]
theorem rgn_cut {r s : Rgn} (hr : r.may = true) (hs : s.may = true) (h : r.line = s.line) : r = s := by
  obtain ⟨nm, a, n, sc, rfl, hn⟩ := rgn_parts hr
  obtain ⟨nm', a', n', sc', rfl, hn'⟩ := rgn_parts hs
  rw [rline_form, rline_form] at h
  simp only [List.cons_append, List.nil_append, List.cons.injEq, true_and] at h
  obtain ⟨h1, h2⟩ := word_cut _ _ _ _ (name_parts hn).1 (name_parts hn').1 (b32 _) (b32 _) h
  simp only [List.cons.injEq, true_and] at h2
  obtain ⟨h3, h4⟩ := dec_cut (b32 _) (b32 _) h2
  simp only [List.cons.injEq, true_and] at h4
  obtain ⟨h5, h6⟩ := dec_cut (sec_brk _ _ (by decide)) (sec_brk _ _ (by decide)) h4
  rw [h1, h3, h5, (sec_cut (by decide) (by decide) h6).1]
theorem regs_cut : ∀ (a b : List Rgn) (f g : List Fnc), a.all Rgn.may = true → b.all Rgn.may = true → a.map (fun r => (0, r.line)) ++ f.flatMap Fnc.lines = b.map (fun r => (0, r.line)) ++ g.flatMap Fnc.lines → a = b ∧ f.flatMap Fnc.lines = g.flatMap Fnc.lines
  | [], [], _, _, _, _, h => ⟨rfl, h⟩
  | [], y :: b, f, g, _, hb, h => by
    simp only [List.all_cons, Bool.and_eq_true] at hb
    obtain ⟨nm, a, n, sc, rfl, hn⟩ := rgn_parts hb.1
    simp only [List.map_nil, List.map_cons, List.nil_append, List.cons_append, rline_form] at h
    cases f with
    | nil => simp at h
    | cons x f => simp [Fnc.lines, head_form] at h
  | x :: a, [], f, g, ha, _, h => by
    simp only [List.all_cons, Bool.and_eq_true] at ha
    obtain ⟨nm, a', n, sc, rfl, hn⟩ := rgn_parts ha.1
    simp only [List.map_nil, List.map_cons, List.nil_append, List.cons_append, rline_form] at h
    cases g with
    | nil => simp at h
    | cons x g => simp [Fnc.lines, head_form] at h
  | x :: a, y :: b, f, g, ha, hb, h => by
    simp only [List.map_cons, List.cons_append, List.cons.injEq, Prod.mk.injEq, true_and] at h
    simp only [List.all_cons, Bool.and_eq_true] at ha hb
    obtain ⟨h3, h4⟩ := regs_cut a b f g ha.2 hb.2 h.2
    exact ⟨by rw [rgn_cut ha.1 hb.1 h.1, h3], h4⟩
theorem prg_cut {p q : Prg} (hp : p.may = true) (hq : q.may = true) (h : p.lines = q.lines) : p = q := by
  unfold Prg.may at hp hq
  rw [Bool.and_eq_true] at hp hq
  obtain ⟨a, f⟩ := p
  obtain ⟨b, g⟩ := q
  simp only [Prg.lines] at h hp hq
  obtain ⟨h1, h2⟩ := regs_cut a b f g hp.1 hq.1 h
  rw [h1, fns_cut f g hp.2 hq.2 h2]

/-- a line's text: no end of line in it, no tab ahead -/
def Ln (s : List UInt8) : Prop := (∀ c ∈ s, c ≠ 10) ∧ ∃ c r, s = c :: r ∧ c ≠ 9
theorem line_cut {x y : Nat × List UInt8} {r s : List UInt8} (hx : Ln x.2) (hy : Ln y.2) (h : lineT x ++ r = lineT y ++ s) : x = y ∧ r = s := by
  obtain ⟨a, p⟩ := x
  obtain ⟨b, q⟩ := y
  obtain ⟨hx1, c, p', rfl, hc⟩ := hx
  obtain ⟨hy1, d, q', rfl, hd⟩ := hy
  simp only [lineT, List.append_assoc] at h
  have tabs : ∀ (a b : Nat) (u v : List UInt8), List.replicate a 9 ++ (c :: u) = List.replicate b 9 ++ (d :: v) → a = b ∧ c :: u = d :: v := by
    intro a
    induction a with
    | zero =>
      intro b u v h
      cases b with
      | zero => exact ⟨rfl, h⟩
      | succ b => simp only [List.replicate_zero, List.nil_append, List.replicate_succ, List.cons_append, List.cons.injEq] at h; exact absurd h.1 hc
    | succ a ih =>
      intro b u v h
      cases b with
      | zero => simp only [List.replicate_zero, List.nil_append, List.replicate_succ, List.cons_append, List.cons.injEq] at h; exact absurd h.1.symm hd
      | succ b =>
        simp only [List.replicate_succ, List.cons_append, List.cons.injEq, true_and] at h
        obtain ⟨h1, h2⟩ := ih b u v h
        exact ⟨by rw [h1], h2⟩
  have nl : ∀ (u v r s : List UInt8), (∀ c ∈ u, c ≠ 10) → (∀ c ∈ v, c ≠ 10) → u ++ 10 :: r = v ++ 10 :: s → u = v ∧ r = s := by
    intro u
    induction u with
    | nil =>
      intro v r s _ hv h
      cases v with
      | nil => simp only [List.nil_append, List.cons.injEq, true_and] at h; exact ⟨rfl, h⟩
      | cons y v => simp only [List.nil_append, List.cons_append, List.cons.injEq] at h; exact absurd h.1.symm (hv y (by simp))
    | cons x u ih =>
      intro v r s hu hv h
      cases v with
      | nil => simp only [List.nil_append, List.cons_append, List.cons.injEq] at h; exact absurd h.1 (hu x (by simp))
      | cons y v =>
        simp only [List.cons_append, List.cons.injEq] at h
        obtain ⟨h1, h2⟩ := ih v r s (fun c hc => hu c (by simp [hc])) (fun c hc => hv c (by simp [hc])) h.2
        exact ⟨by rw [h.1, h1], h2⟩
  simp only [List.cons_append] at h
  obtain ⟨h1, h2⟩ := tabs _ _ _ _ h
  obtain ⟨h3, h4⟩ := nl (c :: p') (d :: q') r s hx1 hy1 (by simpa using h2)
  exact ⟨by rw [h1, h3], h4⟩
theorem lines_cut : ∀ (l m : List (Nat × List UInt8)), (∀ x ∈ l, Ln x.2) → (∀ x ∈ m, Ln x.2) → linesT l = linesT m → l = m
  | [], [], _, _, _ => rfl
  | [], y :: m, _, _, h => by
    have := congrArg List.length h
    simp [linesT, lineT] at this
  | x :: l, [], _, _, h => by
    have := congrArg List.length h
    simp [linesT, lineT] at this
  | x :: l, y :: m, hl, hm, h => by
    simp only [linesT, List.flatMap_cons] at h
    obtain ⟨h1, h2⟩ := line_cut (hl x (by simp)) (hm y (by simp)) h
    rw [h1, lines_cut l m (fun z hz => hl z (by simp [hz])) (fun z hz => hm z (by simp [hz])) h2]
/-- no end of line -/
def Nl (s : List UInt8) : Prop := ∀ c ∈ s, c ≠ 10
instance nlDec (s : List UInt8) : Decidable (Nl s) := inferInstanceAs (Decidable (∀ c ∈ s, c ≠ 10))
theorem Nl.nil : Nl [] := fun _ h => by cases h
theorem Nl.cons {c : UInt8} {s : List UInt8} (h : c ≠ 10) (k : Nl s) : Nl (c :: s) := fun d hd => by
  rw [List.mem_cons] at hd
  rcases hd with rfl | hd
  · exact h
  · exact k d hd
theorem Nl.app {a b : List UInt8} (h : Nl a) (k : Nl b) : Nl (a ++ b) := fun d hd => by
  rw [List.mem_append] at hd
  rcases hd with hd | hd
  · exact h d hd
  · exact k d hd
theorem nl_parts {s : List UInt8} (h : s.all isPart = true) : Nl s := fun c hc e => by
  rw [List.all_eq_true] at h
  have := h c hc
  rw [e] at this; revert this; decide
theorem nl_name {s : List UInt8} (h : nameB s = true) : Nl s := nl_parts (name_parts h).1
theorem nl_dec (n : Nat) : Nl (Lib.decDigits n) := nl_parts (dec_parts n).1
theorem nl_sec (b : Bool) : Nl (secT b) := by cases b <;> decide
theorem nl_sign {o : Int} (h1 : 6 ≤ o) (h2 : o ≤ 20) : Nl (signOf o) := by
  rcases fifteen h1 h2 with rfl | rfl | rfl | rfl | rfl | rfl | rfl | rfl | rfl | rfl | rfl | rfl | rfl | rfl | rfl <;> decide
theorem Ex.nl : ∀ (n : Nat) (x : Ex), x.size < n → x.may = true → Nl x.text
  | 0, _, h, _ => absurd h (Nat.not_lt_zero _)
  | n + 1, x, hsz, hx => by
    have ih := Ex.nl n
    have H := Ex.shape hx
    clear hx
    generalize x.text = t at *
    cases H with
    | const wd => exact nl_dec wd
    | var nm hn => exact nl_name hn
    | index nm hn y hy => exact (nl_name hn).app (.cons (by decide) ((ih y (by simp only [Ex.size, Exs.size] at hsz; omega) hy).app (by decide)))
    | not y hy => exact .cons (by decide) (ih y (by simp only [Ex.size, Exs.size] at hsz; omega) hy)
    | neg y hy => exact .cons (by decide) (ih y (by simp only [Ex.size, Exs.size] at hsz; omega) hy)
    | pick x y z hx hy hz =>
      exact Nl.app (by decide) (.cons (by decide) ((ih x (by simp only [Ex.size, Exs.size] at hsz; omega) hx).app (.cons (by decide) (.cons (by decide)
        ((ih y (by simp only [Ex.size, Exs.size] at hsz; omega) hy).app (.cons (by decide) (.cons (by decide) ((ih z (by simp only [Ex.size, Exs.size] at hsz; omega) hz).app (by decide)))))))))
    | two op h1 h2 x y hx hy =>
      exact .cons (by decide) ((ih x (by simp only [Ex.size, Exs.size] at hsz; omega) hx).app (.cons (by decide) ((nl_sign h1 h2).app (.cons (by decide) ((ih y (by simp only [Ex.size, Exs.size] at hsz; omega) hy).app (by decide))))))
theorem ex_nl {x : Ex} (h : x.may = true) : Nl x.text := Ex.nl _ x (Nat.lt_succ_self _) h
theorem nl_tail : ∀ (l : List (List UInt8)), (∀ x ∈ l, Nl x) → Nl (Lib.joinTail [44, 32] l)
  | [], _ => Nl.nil
  | x :: r, h => by rw [joinTail_cons]; exact .cons (by decide) (.cons (by decide) ((h x (by simp)).app (nl_tail r fun y hy => h y (by simp [hy]))))
theorem nl_join (l : List (List UInt8)) (h : ∀ x ∈ l, Nl x) : Nl (Lib.join l [44, 32]) := by
  cases l with
  | nil => exact Nl.nil
  | cons x r => rw [Lib.join_cons]; exact (h x (by simp)).app (nl_tail r fun y hy => h y (by simp [hy]))
theorem names_nl {l : List (List UInt8)} (h : namesB l = true) : ∀ x ∈ l, Nl x := fun x hx => by
  unfold namesB at h
  rw [List.all_eq_true] at h
  exact nl_name (h x hx)
theorem exs_nl : ∀ (a : Exs), a.may = true → ∀ t ∈ a.texts, Nl t
  | .nil, _ => fun _ h => by cases h
  | .cons x r, h => by
    rw [Exs.may, Bool.and_eq_true] at h
    intro t ht
    simp only [Exs.texts, List.mem_cons] at ht
    rcases ht with rfl | ht
    · exact ex_nl h.1
    · exact exs_nl r h.2 t ht
theorem first_nl {x : St} (h : x.may = true) : Nl x.first := by
  have H := St.shape h
  clear h
  generalize x.first = t at *
  cases H with
  | set nm hn e he => exact (nl_name hn).app (.cons (by decide) (.cons (by decide) (.cons (by decide) ((ex_nl he).app (by decide)))))
  | put nm hn a ha e he => exact (nl_name hn).app (.cons (by decide) ((ex_nl ha).app (.cons (by decide) (.cons (by decide) (.cons (by decide) (.cons (by decide) ((ex_nl he).app (by decide))))))))
  | ifs e he bd el hb hl => exact Nl.app (by decide) (.cons (by decide) ((ex_nl he).app (by decide)))
  | whl e he bd hb => exact Nl.app (by decide) (.cons (by decide) ((ex_nl he).app (by decide)))
  | «for» nm hn lo hi bd hb => exact Nl.app (by decide) (.cons (by decide) ((nl_name hn).app (.cons (by decide) ((nl_dec lo).app (.cons (by decide) ((nl_dec hi).app (by decide)))))))
  | call nm hn g hg => exact (nl_name hn).app (.cons (by decide) ((nl_join _ (exs_nl g hg)).app (by decide)))
  | calls n0 h0 ns hs nm hn g hg => exact (nl_name h0).app ((nl_tail _ (names_nl hs)).app (.cons (by decide) (.cons (by decide) (.cons (by decide) ((nl_name hn).app (.cons (by decide) ((nl_join _ (exs_nl g hg)).app (by decide))))))))
theorem word_ln {w t : List UInt8} (h : Word0 w t) (hw : w ≠ []) : ∃ c r, t = c :: r ∧ c ≠ 9 := by
  obtain ⟨r, rfl, h1, _⟩ := h
  cases w with
  | nil => exact absurd rfl hw
  | cons c s =>
    rw [List.all_cons, Bool.and_eq_true] at h1
    refine ⟨c, s ++ r, rfl, fun e => ?_⟩
    rw [e] at h1; exact absurd h1.1 (by decide)
theorem first_ln {x : St} (h : x.may = true) : Ln x.first := by
  obtain ⟨w, h1, h2⟩ := (St.shape h).word
  refine ⟨first_nl h, word_ln h1 ?_⟩
  rintro rfl
  rcases h2 with h2 | h2 <;> (revert h2; decide)
theorem ln_125 : Ln [125] := ⟨by decide, _, _, rfl, by decide⟩
theorem ln_else : Ln elseT := ⟨by decide, _, _, rfl, by decide⟩
mutual
theorem St.lines_ln : ∀ (x : St) (t : Nat), x.may = true → ∀ y ∈ x.lines t, Ln y.2
  | .mk kd nm ns e a g lo hi bd el, t, h => by
    have hf := first_ln h
    have hB := may_block h
    have hb := Sts.lines_ln bd (t + 1) hB.1
    have hl := Sts.lines_ln el (t + 1) hB.2.1
    intro y hy
    simp only [St.lines, List.mem_cons, first_eq] at hy
    rcases hy with rfl | hy
    · exact hf
    · split at hy
      · rw [List.mem_append, List.mem_append] at hy
        rcases hy with hy | hy | hy
        · exact hb y hy
        · split at hy
          · cases hy
          · rw [List.mem_cons] at hy
            rcases hy with rfl | hy
            · exact ln_else
            · exact hl y hy
        · rw [List.mem_singleton] at hy
          subst hy
          exact ln_125
      · cases hy
theorem Sts.lines_ln : ∀ (l : Sts) (t : Nat), l.may = true → ∀ y ∈ l.lines t, Ln y.2
  | .nil, _, _ => fun _ h => by cases h
  | .cons x r, t, h => by
    rw [Sts.may, Bool.and_eq_true] at h
    intro y hy
    simp only [Sts.lines, List.mem_append] at hy
    rcases hy with hy | hy
    · exact St.lines_ln x t h.1 y hy
    · exact Sts.lines_ln r t h.2 y hy
end
theorem var_ln {v : Vr} (h : v.may = true) : Ln v.line := by
  obtain ⟨w, h1, h2⟩ := line_word h
  refine ⟨?_, word_ln h1 (by rcases h2 with rfl | rfl | rfl <;> simp)⟩
  rcases may_var h with ⟨nm, rfl, hn⟩ | ⟨nm, n, sc, rfl | rfl, hn⟩
  · rw [line_1]; exact Nl.app (by decide) (.cons (by decide) ((nl_name hn).app (by decide)))
  · rw [line_2]; exact Nl.app (by decide) (.cons (by decide) ((nl_name hn).app (.cons (by decide) ((nl_dec n).app ((nl_sec sc).app (by decide))))))
  · rw [line_3]; exact Nl.app (by decide) (.cons (by decide) ((nl_name hn).app (.cons (by decide) ((nl_dec n).app ((nl_sec sc).app (by decide))))))
theorem rgn_ln {r : Rgn} (h : r.may = true) : Ln r.line := by
  obtain ⟨nm, a, n, sc, rfl, hn⟩ := rgn_parts h
  rw [rline_form]
  exact ⟨Nl.app (by decide) (.cons (by decide) ((nl_name hn).app (.cons (by decide) ((nl_dec a).app (.cons (by decide) ((nl_dec n).app ((nl_sec sc).app (by decide)))))))), _, _, rfl, by decide⟩
theorem head_ln {f : Fnc} (h : f.may = true) : Ln f.head := by
  obtain ⟨f1, f2, _, f4, _⟩ := fnc_parts h
  rw [head_form]
  refine ⟨Nl.app (by decide) (.cons (by decide) ((nl_name f1).app (.cons (by decide) (Nl.app (nl_join _ ?_) (.cons (by decide) (Nl.app ?_ (by decide))))))), _, _, rfl, by decide⟩
  · intro x hx
    rw [List.mem_map] at hx
    obtain ⟨v, hv, rfl⟩ := hx
    rw [List.all_eq_true] at f2
    exact (nl_name (mayP_parts (f2 v hv)).1).app (nl_sec _)
  · split
    · exact Nl.nil
    · exact Nl.app (by decide) (nl_join _ (names_nl f4))
theorem fnc_ln {f : Fnc} (h : f.may = true) : ∀ y ∈ f.lines, Ln y.2 := by
  obtain ⟨_, _, f3, _, f5⟩ := fnc_parts h
  intro y hy
  simp only [Fnc.lines, List.mem_cons, List.mem_append, List.mem_map, List.not_mem_nil, or_false] at hy
  rcases hy with rfl | ⟨v, hv, rfl⟩ | hy | rfl
  · exact head_ln h
  · rw [List.all_eq_true] at f3; exact var_ln (f3 v hv)
  · exact Sts.lines_ln _ _ f5 y hy
  · exact ln_125
theorem prg_ln {p : Prg} (h : p.may = true) : ∀ y ∈ p.lines, Ln y.2 := by
  unfold Prg.may at h
  rw [Bool.and_eq_true, List.all_eq_true, List.all_eq_true] at h
  intro y hy
  simp only [Prg.lines, List.mem_append, List.mem_map, List.mem_flatMap] at hy
  rcases hy with ⟨r, hr, rfl⟩ | ⟨f, hf, hy⟩
  · exact rgn_ln (h.1 r hr)
  · exact fnc_ln (h.2 f hf) y hy
/-- THE TEXTS OF TWO PROGRAMS THAT CAN BE TOLD ARE ONE JUST IF THEY ARE -/
theorem text_apart {p q : Prg} (hp : p.may = true) (hq : q.may = true) : p.text = q.text ↔ p = q :=
  ⟨fun h => prg_cut hp hq (lines_cut _ _ (prg_ln hp) (prg_ln hq) h), fun h => by rw [h]⟩
end Go.Proofs.YtlhbledakddbbaaGreatDoor
/- A function's lines, shown one by one. -/
namespace Go.Proofs.YtlhbledakddbbaaGreatDoor
open Go.RowKit
attribute [local go_sem] Oper.semAt_some

/-- who is shown lines, and what he leaves -/
structure FnEnv (l M N : Nat) (w0 : World) (L : List (Nat × List UInt8)) (J Jx : Nat → World → Prop) : Prop where
  gl : Glob w0
  mv : ∀ k A B, J k A → Rn N A B → J k B
  mx : ∀ k A B, Jx k A → Rn N A B → Jx k B
  bel : ∀ k A, J k A → Below w0.heap.size w0 A
  hn : ∀ k A, J k A → N ≤ A.heap.size
  yl : ∀ k x W1, L[k]? = some x → J k W1 → YieldAt Fence.wide M Tryz.prog l (encL x) W1 fun e W' => ∃ v, e = .returned (.bool v) ∧ JJ J Jx v (k + 1) W' ∧ Up N W1 W'
theorem FnEnv.drew {l M N : Nat} {w0 : World} {L : List (Nat × List UInt8)} {J Jx : Nat → World → Prop} (E : FnEnv l M N w0 L J Jx) {k : Nat} {A : World} (h : J k A) : J k A.drew := E.mv k A _ h ⟨(Below.refl _ A).drew, fun _ _ h _ => h⟩
theorem FnEnv.fwd {l M N : Nat} {w0 : World} {L : List (Nat × List UInt8)} {J Jx : Nat → World → Prop} (E : FnEnv l M N w0 L J Jx) {k : Nat} {A B : World} (h : J k A) (hB : Below A.heap.size A B) : J k B := E.mv k A B h (Rn.of_below hB (E.hn k A h))

/-- what the first line's showing leaves -/
def PostA (b o l n3 : Nat) (hs : ByteArray) (R : Bool → World → Prop) : Exit → Act → World → Prop
  | .normal, a, W => ∃ v, a = { tmps := #[.pointer (some ⟨b, o, none⟩), .func (.yield l) #[] #[], undef, .pointer (some ⟨n3, 0, none⟩), .pointer (some ⟨n3 + 1, 0, none⟩), undef, undef, undef, undef, .func (.yield l) #[] #[], .pointer (some ⟨b, o, none⟩), .string hs, .bool v, .bool (!v), undef, undef, undef, undef, undef, undef, undef, undef, undef, undef, undef, undef, undef, undef, undef, undef, undef, undef, undef, undef, undef, undef, undef, undef, undef, undef, undef, undef, undef, undef], defers := [] } ∧ R v W
  | _, _, _ => False
/-- what a variable's line's showing leaves -/
def PostB (b o l n3 nw n bv ov k cv : Nat) (hs hvs : ByteArray) (VA u28 : Value) (R : Bool → World → Prop) : Exit → Act → World → Prop
  | .normal, a, W => ∃ v, a = { tmps := #[.pointer (some ⟨b, o, none⟩), .func (.yield l) #[] #[], undef, .pointer (some ⟨n3, 0, none⟩), .pointer (some ⟨n3 + 1, 0, none⟩), undef, .pointer (some ⟨nw, 0, none⟩), undef, undef, .func (.yield l) #[] #[], .pointer (some ⟨b, o, none⟩), .string hs, .bool true, .bool false, .pointer (some ⟨b, o, none⟩), .pointer (some ⟨b, o, none⟩), .pointer (some ⟨b, o + 2, none⟩), .slice (some ⟨bv, ov, none⟩) n cv, .int .i64 (n : Int), .int .i64 (k : Int), .bool true, .pointer (some ⟨bv, ov + k * 4, none⟩), VA, .func (.yield l) #[] #[], VA, .string hvs, .bool v, .bool (!v), u28, undef, undef, undef, undef, undef, undef, undef, undef, undef, undef, undef, undef, undef, undef, undef], defers := [] } ∧ R v W
  | _, _, _ => False
theorem can_deep {f : Fnc} (h : f.may = true) : f.body.deep ≤ 64 := by
  unfold Fnc.may Sts.can at h
  simp only [Bool.and_eq_true, decide_eq_true_eq] at h
  exact h.2.2.2.2.1
set_option maxRecDepth 100000 in
set_option maxHeartbeats 6400000 in
theorem showFunc_any {l M N : Nat} {w0 : World} {L : List (Nat × List UInt8)} {J Jx : Nat → World → Prop} (E : FnEnv l M N w0 L J Jx) (f : Fnc) (b o d : Nat) (hb : b < w0.heap.size) (hf : f.At w0 w0.heap.size b o) (hm : f.may = true) (hfit : f.fit) (hp : f.params.length ≤ 1000000)
    (hlen : ∀ y ∈ f.lines, y.2.length ≤ 1000000) (hseg : Seg L d f.lines) (w : World) (h0 : J d w) :
    Calls Tryz.prog 86 #[.pointer (some ⟨b, o, none⟩), .func (.yield l) #[] #[]] w fun e w' => ∃ v, e = .returned (.bool v) ∧ Shown J Jx L (d + f.lines.length) v w' := by
  have HE := Lib.hid E
  have HJ0 := Lib.hid h0
  have hN := E.hn _ _ h0
  obtain ⟨s, cc, ok⟩ := hf.open
  have HFL := Lib.hid (fun (w1 : World) (hB : Below w0.heap.size w0 w1) => funcLine_any f b o w1 (Nat.lt_of_lt_of_le hb hB.size) (Fnc.At.later hB hB.size f b o hb hf) hp (hlen _ (by rw [Fnc.lines]; exact List.mem_cons_self)))
  obtain ⟨nm, ps, vs, rs, bd⟩ := f
  have x2 : w0.cell? ⟨b, o + 2, none⟩ = some (.slice s.pv vs.length s.cv) := cc 2 _ rfl
  have x4 : w0.cell? ⟨b, o + 4, none⟩ = some (.slice s.pb bd.len s.cb) := cc 4 _ rfl
  obtain ⟨hs, hdt⟩ : ∃ k, str (Fnc.mk nm ps vs rs bd).head = k := ⟨_, rfl⟩
  rw [hdt] at HFL
  have hyl0 : encL (0, (Fnc.mk nm ps vs rs bd).head) = #[.int .i64 0, .string hs] := by rw [← hdt]; rfl
  have hL0 : L[d]? = some (0, (Fnc.mk nm ps vs rs bd).head) := by rw [Fnc.lines] at hseg; exact hseg.head
  clear h0 E hf cc hdt
  refine (callsIn_wide (n := M + 1)).1 ?_
  refine callsIn_of_wp_marks Tryz.func86 rfl trivial ?_ rfl
  simp only [Tryz.ntmps86, List.size_toArray, List.length_cons, List.length_nil, Nat.reduceAdd, Nat.reduceSub, Array.replicate_succ, Array.replicate_zero, List.push_toArray, List.append_toArray, List.nil_append, List.cons_append]
  gi_wp2_with fail
  obtain ⟨w1, hw1⟩ : ∃ w1, (w.alloc (.cells #[.func (.yield l) #[] #[]] 117)).alloc (.cells #[.bool false] 4) = w1 := ⟨_, rfl⟩
  have HB1 := Lib.hid (show Below w.heap.size w w1 by rw [← hw1]; exact ((Below.refl _ w).alloc (Nat.le_refl _) _).alloc (by simp) _)
  have k3 : w1.heap[w.heap.size]? = some (.cells #[.func (.yield l) #[] #[]] 117 (0, 0)) := by
    rw [← hw1, Below.heap_alloc _ _ _ (by simp)]; exact heap_alloc_new w _
  have k4 : w1.heap[w.heap.size + 1]? = some (.cells #[.bool false] 4 (0, 0)) := by
    rw [← hw1]; have := heap_alloc_new (w.alloc (.cells #[.func (.yield l) #[] #[]] 117)) (.cells #[.bool false] 4); simpa using this
  rw [hw1]
  have HJ1 := Lib.hid (HE.out.fwd HJ0.out HB1.out)
  generalize hn3 : w.heap.size = n3 at *
  have c3 := cell_of_one k3
  have HK3 := Lib.hid k3
  have HK4 := Lib.hid k4
  clear hw1 k3 k4 HB1 HJ0
  have HJD := Lib.hid (HE.out.drew HJ1.out)
  gi_wp2_with fail
  refine wpIn_mono (Q := PostA b o l n3 hs (fun v W => ∃ w2, Below w1.heap.size w1.drew w2 ∧ JJ J Jx v (d + 1) W ∧ Up N w2 W)) ?_ ?_
  · gi_region_with (first
    | (refine ⟨trivial, ?_⟩; gi_at_call 126; refine (callsIn_wide.2 (HFL.out w1.drew (HE.out.bel _ _ HJD.out))).mono ?_; rintro e w2 ⟨rfl, hB2⟩; have c3 := (hB2.cell (p := ⟨n3, 0, none⟩) (lt_of_block HK3.out)).trans c3; obtain ⟨fn, tmps, assign, body, hy, hR⟩ := HE.out.yl d _ w2 hL0 (HE.out.fwd HJD.out hB2); rw [hyl0] at hy)
    | (refine hR.mono ?_; rintro e w3 ⟨v, rfl, hj, hU⟩))
    all_goals exact ⟨v, rfl, w2, hB2, hj, hU⟩
  intro e a w3 hP
  cases e <;> try exact hP.elim
  obtain ⟨v, rfl, w2, hB2, hj, hU⟩ := hP
  have HK3' := Lib.hid (hU.same n3 _ ((hB2.block n3 (lt_of_block HK3.out)).trans HK3.out) hN (buf_fn _ _))
  have HK4' := Lib.hid (hU.same (n3 + 1) _ ((hB2.block (n3 + 1) (lt_of_block HK4.out)).trans HK4.out) (by omega) (buf_bool _ _))
  have HV := Lib.hid hj
  clear hj hU hB2 c3 HK3 HK4 HJ1 HJD HFL hL0 hyl0
  have c4 := cell_of_one HK4'.out
  have f4 := free_of_one HK4'.out
  have hd1 : d + 1 ≤ L.length := by have := hseg.len; rw [Fnc.lines, List.length_cons] at this; omega
  rcases HV.out with ⟨rfl, hj⟩ | ⟨rfl, hj⟩
  rotate_left
  · have HX := Lib.hid hj
    clear hj HV
    gi_wp2_with fail
    have cc : (w3.setCell ⟨n3 + 1, 0, none⟩ (.bool false)).cell? ⟨n3 + 1, 0, none⟩ = some (.bool false) := cell_of_one (one_setCell HK4'.out)
    refine ⟨.bool false, by simp [results, Tryz.results86, go_sem, cc], ?_⟩
    exact ⟨false, rfl, .inr ⟨rfl, d + 1, hd1, HE.out.mx _ _ _ HX.out ((Rn.refl _ _).setCell (p := ⟨n3 + 1, 0, none⟩) HK4'.out (buf_bool _ _) (by show N ≤ n3 + 1; omega) _)⟩⟩
  have HJ1 := Lib.hid hj
  clear hj HV
  rw [Fnc.lines] at hseg
  have hsg1 := hseg.tail
  have c2 := ((HE.out.bel _ _ HJ1.out).cell (p := ⟨b, o + 2, none⟩) hb).trans x2
  have hmv := (fnc_parts hm).2.2.1
  have hvl : vs.length ≤ 140737488355328 := ok.2.1.1
  have S1 := Lib.hid ok.2.1
  have HFt := Lib.hid hfit.2
  have HMv := Lib.hid (List.all_eq_true.1 hmv)
  have HLn := Lib.hid (fun v (hv : v ∈ vs) => hlen (1, Vr.line v) (by rw [Fnc.lines]; exact List.mem_cons_of_mem _ (List.mem_append_left _ (List.mem_map.2 ⟨v, hv, rfl⟩))))
  have HSg := Lib.hid hsg1
  clear hmv hsg1
  gi_wp2_with fail
  clear c2 c4 f4
  gi_loopw [19] (fun i wr => ∃ (k e : Nat) (r : List Vr), i = .int .i64 k ∧ k + r.length = vs.length ∧ e + r.length = d + 1 + vs.length ∧ Hid (∀ v ∈ r, v ∈ vs) ∧ Hid (∀ b o, s.pv = some ⟨b, o, none⟩ → Row (Vr.At w0) 4 vs b o → Row (Vr.At w0) 4 r b (o + k * 4)) ∧ Hid (Seg L e (r.map (fun v => (1, v.line)) ++ (bd.lines 1 ++ [(0, [125])]))) ∧ Hid (J e wr) ∧ Hid (wr.heap[n3]? = some (.cells #[.func (.yield l) #[] #[]] 117 (0, 0)) ∧ wr.heap[n3 + 1]? = some (.cells #[.bool false] 4 (0, 0)))) (fun i _ => vs.length - (intOf i).toNat)
  case atStart => exact ⟨0, d + 1, vs, rfl, by omega, rfl, Lib.hid fun v h => h, Lib.hid fun b o _ h => by rw [Nat.zero_mul]; exact h, HSg, HJ1, Lib.hid ⟨HK3'.out, HK4'.out⟩⟩
  case round =>
    obtain ⟨k, e, r, rfl, hk, hed, hmem, hat, hS, hJ, hK⟩ := hrel
    cases r with
    | cons v r =>
      simp only [List.length_cons] at hk
      have hlt : k < vs.length := by omega
      obtain ⟨bv, ov, hpv, hbv, hA⟩ : ∃ b o, s.pv = some ⟨b, o, none⟩ ∧ b < w0.heap.size ∧ Row (Vr.At w0) 4 vs b o := by
        rcases S1.out.2 with h0 | h0
        · omega
        · exact h0
      obtain ⟨hx, hr⟩ := hat.out bv ov hpv hA
      have HR := Lib.hid hr
      have hBw := HE.out.bel _ _ hJ.out
      obtain ⟨g0, g1, g2, g3⟩ := Vr.At.later hBw v bv _ hbv hx
      have hv := hmem.out v (by simp)
      have hsg := hS.out
      rw [List.map_cons, List.cons_append] at hsg
      obtain ⟨hvs, hdv⟩ : ∃ k, str v.line = k := ⟨_, rfl⟩
      have HVL := Lib.hid (fun (w1 : World) (hB : Below w0.heap.size w0 w1) => varLine_any v (HMv.out v hv) (HFt.out v hv) w1 (HE.out.gl.later hB) (HLn.out v hv))
      rw [hdv] at HVL
      have hylv : encL (1, v.line) = #[.int .i64 1, .string hvs] := by rw [← hdv]; rfl
      have hLv := hsg.head
      have hsgT := hsg.tail
      have hwN : wr.heap.size ≥ N := HE.out.hn _ _ hJ.out
      have hbvw : bv < wr.heap.size := Nat.lt_of_lt_of_le hbv hBw.size
      obtain ⟨k3, k4⟩ := hK.out
      have hl3 := lt_of_block k3
      have hl4 := lt_of_block k4
      have c3 := cell_of_one k3
      rw [hpv]
      clear hdv hx hr hA hsg
      gi_wp2_with fail
      obtain ⟨wA, hwA⟩ : ∃ wA, wr.alloc (.cells #[.string (str v.name), .int .i64 v.kind, .int .i64 v.size, .bool v.secret] 80) = wA := ⟨_, rfl⟩
      have hBA : Below wr.heap.size wr wA := by rw [← hwA]; exact (Below.refl _ _).alloc (Nat.le_refl _) _
      have k6 : wA.heap[wr.heap.size]? = some (.cells #[.string (str v.name), .int .i64 v.kind, .int .i64 v.size, .bool v.secret] 80 (0, 0)) := by rw [← hwA]; exact heap_alloc_new wr _
      have v0 : wA.cell? ⟨wr.heap.size, 0, none⟩ = some (.string (str v.name)) := cell_block k6 rfl
      have v1 : wA.cell? ⟨wr.heap.size, 1, none⟩ = some (.int .i64 v.kind) := cell_block k6 rfl
      have v2 : wA.cell? ⟨wr.heap.size, 2, none⟩ = some (.int .i64 v.size) := cell_block k6 rfl
      have v3 : wA.cell? ⟨wr.heap.size, 3, none⟩ = some (.bool v.secret) := cell_block k6 rfl
      rw [hwA]
      have hA3 := (hBA.block n3 hl3).trans k3
      have hA4 := (hBA.block (n3 + 1) hl4).trans k4
      have c3 := cell_of_one hA3
      have HJA := Lib.hid (HE.out.drew (HE.out.fwd hJ.out hBA))
      have HA := Lib.hid (And.intro hA3 hA4)
      have hzA := hBA.size
      clear hwA k6 hBA hA3 hA4 k3 k4 g0 g1 g2 g3
      refine wpIn_mono (Q := PostB b o l n3 wr.heap.size vs.length bv ov k s.cv hs hvs (.agg #[.string (str v.name), .int .i64 v.kind, .int .i64 v.size, .bool v.secret]) u28 (fun q W => ∃ w2, Below wA.heap.size wA.drew w2 ∧ JJ J Jx q (e + 1) W ∧ Up N w2 W)) ?_ ?_
      · gi_region_with (first
        | (refine ⟨trivial, ?_⟩; gi_at_call 127; refine (callsIn_wide.2 (HVL.out wA.drew (HE.out.bel _ _ HJA.out))).mono ?_; rintro z w2 ⟨rfl, hB2⟩; have c3 := (hB2.cell (p := ⟨n3, 0, none⟩) (lt_of_block HA.out.1)).trans c3; obtain ⟨fn, tmps, assign, body, hy, hR⟩ := HE.out.yl e _ w2 hLv (HE.out.fwd HJA.out hB2); rw [hylv] at hy)
        | (refine hR.mono ?_; rintro z w4 ⟨q, rfl, hj, hU⟩))
        all_goals exact ⟨q, rfl, w2, hB2, hj, hU⟩
      intro z a w4 hP
      cases z <;> try exact hP.elim
      obtain ⟨q, rfl, w2, hB2, hj, hU⟩ := hP
      have k3 := hU.same n3 _ ((hB2.block n3 (lt_of_block HA.out.1)).trans HA.out.1) hN (buf_fn _ _)
      have k4 := hU.same (n3 + 1) _ ((hB2.block (n3 + 1) (lt_of_block HA.out.2)).trans HA.out.2) (by omega) (buf_bool _ _)
      have he1 : e + 1 ≤ L.length := by have := hS.out.len; rw [List.map_cons, List.cons_append, List.length_cons] at this; omega
      have HK4 := Lib.hid (And.intro k3 k4)
      clear hB2 hU c3 v0 v1 v2 v3
      rcases hj with ⟨rfl, hj⟩ | ⟨rfl, hj⟩
      · have HJ4 := Lib.hid hj
        clear hj k3 k4
        gi_wp2_with fail
        refine ⟨⟨k + 1, e + 1, r, by go_num, by omega, by simp only [List.length_cons] at hed; omega, Lib.hid fun x hx => hmem.out x (List.mem_cons_of_mem _ hx), Lib.hid fun b' o' e' _ => by cases e'; rw [show ov + (k + 1) * 4 = ov + k * 4 + 4 by omega]; exact HR.out, Lib.hid hsgT, HJ4, HK4⟩, by simp [intOf]; omega⟩
      · have HX := Lib.hid hj
        clear hj
        have c4 := cell_of_one k4
        have f4 := free_of_one k4
        gi_wp2_with fail
        have cc : (w4.setCell ⟨n3 + 1, 0, none⟩ (.bool false)).cell? ⟨n3 + 1, 0, none⟩ = some (.bool false) := cell_of_one (one_setCell k4)
        refine ⟨.bool false, by simp [results, Tryz.results86, go_sem, cc], ?_⟩
        exact ⟨false, rfl, .inr ⟨rfl, e + 1, he1, HE.out.mx _ _ _ HX.out ((Rn.refl _ _).setCell (p := ⟨n3 + 1, 0, none⟩) k4 (buf_bool _ _) (by show N ≤ n3 + 1; omega) _)⟩⟩
    | nil =>
      simp only [List.length_nil, Nat.add_zero] at hk hed
      have hge : ¬ k < vs.length := by omega
      have hsg := hS.out
      rw [List.map_nil, List.nil_append] at hsg
      have hBw := HE.out.bel _ _ hJ.out
      have hbw : b < wr.heap.size := Nat.lt_of_lt_of_le hb hBw.size
      have c4 := (hBw.cell (p := ⟨b, o + 4, none⟩) hb).trans x4
      have hwN : N ≤ wr.heap.size := HE.out.hn _ _ hJ.out
      gi_wp2_with fail
      refine ⟨trivial, ?_⟩
      refine (callsIn_wide.2 (stmtLines_any _ _ _ _)).mono ?_
      rintro z w4 ⟨bx, rfl, hx, hbx, hB4⟩
      obtain ⟨k3, k4⟩ := hK.out
      have hz3 := lt_of_block k3
      have hz4 := lt_of_block k4
      have hzw := hB4.size
      have HI := Lib.hid (show J (e + 0) w4 ∧ w4.heap[n3]? = some (.cells #[.func (.yield l) #[] #[]] 117 (0, 0)) ∧ w4.heap[n3 + 1]? = some (.cells #[.bool false] 4 (0, 0)) from
        ⟨HE.out.fwd hJ.out hB4, (hB4.block n3 hz3).trans k3, (hB4.block (n3 + 1) hz4).trans k4⟩)
      have hcan := (fnc_parts hm).2.2.2.2
      have hdeep : bd.deep ≤ 64 := can_deep hm
      have hln0 : ∀ y ∈ bd.lines 0, y.2.length ≤ 1000000 := fun y hy => hlen (upL y) (by rw [Fnc.lines, Sts.lines_up bd 0]; exact List.mem_cons_of_mem _ (List.mem_append_right _ (List.mem_append_left _ (List.mem_map.2 ⟨y, hy, rfl⟩))))
      have hXX := Lib.hid hx
      have hup : bd.lines 1 = (bd.lines 0).map upL := Sts.lines_up bd 0
      have hll : (bd.lines 1).length = (bd.lines 0).length := by rw [hup, List.length_map]
      have hget : ∀ (j : Nat) (x : Nat × List UInt8), (bd.lines 0)[j]? = some x → L[e + j]? = some (x.1 + 1, x.2) := fun j x h => hsg.left.get (by rw [hup, List.getElem?_map, h]; rfl)
      have hlast : L[e + (bd.lines 0).length]? = some (0, [125]) := by rw [← hll]; exact hsg.right.head
      have htab : ∀ (j : Nat) (x : Nat × List UInt8), (bd.lines 0)[j]? = some x → x.1 ≤ 64 := fun j x h => by
        have := Sts.lines_ok bd 0 (ok.2.2.2.fine) x (List.mem_of_getElem? h)
        have := this.2.1
        omega
      have hfin : e + (bd.lines 0).length + 1 ≤ L.length := by have := hsg.len; rw [List.length_append, hll, List.length_cons, List.length_nil] at this; omega
      have HFin := Lib.hid hfin
      have HTot := Lib.hid (show d + (Fnc.mk nm ps vs rs bd).lines.length = e + (bd.lines 0).length + 1 by simp only [Fnc.lines, List.length_cons, List.length_append, List.length_map, hll, List.length_nil]; omega)
      clear c4 hJ hK hB4 k3 k4 hx hS hsg hup hfin
      gi_wp2_with fail
      have hN4 : N ≤ w4.heap.size := HE.out.hn _ _ HI.out.1
      have hn4 : n3 + 1 < w4.heap.size := lt_of_block HI.out.2.2
      have HGet := Lib.hid hget
      have HTab := Lib.hid htab
      have HLast := Lib.hid hlast
      clear hget htab hlast
      refine range_own (F := Fence.wide) rfl (by omega) (gf := 107) (lb := #[.pointer (some ⟨bx, 0, none⟩)]) rfl trivial (enters_of Tryz.func107 (by kernel_rfl) rfl)
        (stmtLines1_all bd s.pb s.cb bx (M + 1 - 1) w0 w4 hcan (by omega) hln0 ok.2.2.2 HE.out.gl hXX.out) (Below.refl _ w4) (fun _ => rfl)
        (fun j W => J (e + j) W ∧ W.heap[n3]? = some (.cells #[.func (.yield l) #[] #[]] 117 (0, 0)) ∧ W.heap[n3 + 1]? = some (.cells #[.bool false] 4 (0, 0)))
        (fun cd _ W => cd = .ret ∧ (∃ i, i ≤ L.length ∧ Jx i W) ∧ W.heap[n3 + 1]? = some (.cells #[.bool false] 4 (0, 0))) (fun j A h => HE.out.bel _ _ h.1)
        (fun j A B h hAB => ⟨HE.out.mv _ _ _ h.1 (hAB.mono hN4), (hAB.bel.block n3 (by omega)).trans h.2.1, (hAB.bel.block (n3 + 1) hn4).trans h.2.2⟩)
        (fun cd j A B h hAB => ⟨h.1, (by obtain ⟨i, hi, hx⟩ := h.2.1; exact ⟨i, hi, HE.out.mx _ _ _ hx (hAB.mono hN4)⟩), (hAB.bel.block (n3 + 1) hn4).trans h.2.2⟩) HI.out
        (fun _ _ _ => True) (fun _ _ _ _ _ _ => trivial) ?_ ?_ ?_ ?_ ?_
      rotate_left
      · intro l' j x W K hx hi hW hK
        simp only [encL]
        simp only [List.zip_toArray, List.zip_cons_cons, List.zip_nil_left]
        gi_wp2_with fail
        obtain ⟨bb, _⟩ : ∃ bb : Nat, bb = 0 := ⟨_, rfl⟩
        exact hK bb _ (Below.refl _ _) trivial
      · intro l' j x bb W hx hi hA hW
        obtain ⟨hj, k3, k4⟩ := hi
        have ht := HTab.out j x hx
        have hyl := Lib.hid (YieldAt.wide (M' := M + 1 - 1 - 1 - 1) (HE.out.yl _ _ W (HGet.out j x hx) hj))
        have c3 := cell_of_one k3
        have hl3 := lt_of_block k3
        have HK := Lib.hid (And.intro k3 k4)
        clear hj k3 k4
        obtain ⟨fn, tmps, assign, body, hy, hR⟩ := (show YieldAt (Fence.wide.inRound l') (M + 1 - 1 - 1 - 1) Tryz.prog l _ W _ from hyl.out)
        simp only [encL] at hy
        rw [show ((x.1 + 1 : Nat) : Int) = (x.1 : Int) + 1 by omega] at hy
        have HX := Lib.hid hx
        clear hyl hx
        gi_wp2_with fail
        refine ⟨fun h => (by cases h), ?_⟩
        refine hR.mono ?_
        rintro z w5 ⟨v, rfl, hj, hU⟩
        have k3 := hU.same n3 _ HK.out.1 hN (buf_fn _ _)
        have k4 := hU.same (n3 + 1) _ HK.out.2 (by omega) (buf_bool _ _)
        clear hy hR c3
        rcases hj with ⟨rfl, hj⟩ | ⟨rfl, hj⟩
        · have HP := Lib.hid (And.intro (hU.mono hN4) (And.intro hj (And.intro k3 k4)))
          clear hj hU k3 k4
          gi_wp2_with fail
          exact ⟨HP.out.1, by rw [← Nat.add_assoc]; exact HP.out.2.1, HP.out.2.2⟩
        · have HP := Lib.hid (And.intro (hU.mono hN4) (And.intro hj k4))
          have c4 := cell_of_one k4
          have f4 := free_of_one k4
          have hkL : e + j + 1 ≤ L.length := by have := (List.getElem?_eq_some_iff.1 (HGet.out j x HX.out)).1; omega
          clear hj hU k3 k4
          gi_wp2_with fail
          exact ⟨HP.out.1.setCell (p := ⟨n3 + 1, 0, none⟩) hn4 _, rfl, ⟨e + j + 1, hkL, HE.out.mx _ _ _ HP.out.2.1 ((Rn.refl _ _).setCell (p := ⟨n3 + 1, 0, none⟩) HP.out.2.2 (buf_bool _ _) (by show N ≤ n3 + 1; omega) _)⟩, one_setCell HP.out.2.2⟩
      · rintro D W hD ⟨hj, k3, k4⟩ hDh
        have c3 := cell_of_one k3
        have c4 := cell_of_one k4
        have f4 := free_of_one k4
        obtain ⟨fn, tmps, assign, body, hy, hR⟩ := HE.out.yl _ _ W HLast.out hj
        rw [show encL (0, [125]) = #[.int .i64 0, .string ⟨#[125]⟩] from rfl] at hy
        have hlt3 := lt_of_block k3
        have hlt4 := lt_of_block k4
        have hltD := lt_of_block hDh
        gi_wp2_with fail
        refine hR.mono ?_
        rintro z w5 ⟨v, rfl, hj2, hU⟩
        have k4' := hU.same (n3 + 1) _ k4 (by omega) (buf_bool _ _)
        have kD := hU.same D _ hDh (by omega) (buf_def _)
        have d4 := cell_of_one k4'
        have e4 := free_of_one k4'
        have HH := Lib.hid (And.intro hj2 (And.intro k4' kD))
        clear hj2 hU k4' kD c3 c4 f4 k3 k4 hDh hy hR hj
        gi_wp2_with fail
        obtain ⟨hj2, k4, kD⟩ := HH.out
        have hr2 := one_setCell (u := .bool v) k4
        have hs2 : Rn N w5 (w5.setCell ⟨n3 + 1, 0, none⟩ (.bool v)) := (Rn.refl _ _).setCell (p := ⟨n3 + 1, 0, none⟩) k4 (buf_bool _ _) (by show N ≤ n3 + 1; omega) _
        have hK' : (w5.setCell ⟨n3 + 1, 0, none⟩ (.bool v)).heap[D]? = some (.deferred (some [])) := (Below.heap_setCell w5 _ _ D (by show D ≠ n3 + 1; omega)).trans kD
        have hc2 : ((w5.setCell ⟨n3 + 1, 0, none⟩ (.bool v)).putObj D (.deferred none)).cell? ⟨n3 + 1, 0, none⟩ = some (.bool v) := (World.cell?_of_block (World.putObj_heap_other (by show n3 + 1 ≠ D; omega))).trans (cell_of_one hr2)
        refine ⟨by simp, .inl ⟨_, _, rfl, run_takeDeferred hK', ?_⟩⟩
        refine ⟨.bool v, by simp [results, Tryz.results86, go_sem, hc2], ?_⟩
        have hs3 := hs2.trans (rn_put (o' := .deferred (some [])) (.deferred none) (by omega) hK' (buf_def _))
        rcases hj2 with ⟨rfl, h⟩ | ⟨rfl, h⟩
        · exact ⟨true, rfl, .inl ⟨rfl, by rw [HTot.out]; exact HE.out.mv _ _ _ h hs3⟩⟩
        · exact ⟨false, rfl, .inr ⟨rfl, _, HFin.out, HE.out.mx _ _ _ h hs3⟩⟩
      · rintro D cd k' W hD hk' ⟨hc, ⟨i, hi, hxi⟩, k4⟩ hDh
        subst hc
        have HDh := Lib.hid hDh
        have HX := Lib.hid hxi
        have HK4 := Lib.hid k4
        have hlt4 := lt_of_block k4
        clear hDh hxi k4
        gi_wp2_with fail
        have hc2 : (W.putObj D (.deferred none)).cell? ⟨n3 + 1, 0, none⟩ = some (.bool false) := (World.cell?_of_block (World.putObj_heap_other (by show n3 + 1 ≠ D; omega))).trans (cell_of_one HK4.out)
        refine ⟨by simp, .inl ⟨_, _, rfl, run_takeDeferred HDh.out, ?_⟩⟩
        refine ⟨.bool false, by simp [results, Tryz.results86, go_sem, hc2], ?_⟩
        exact ⟨false, rfl, .inr ⟨rfl, i, hi, HE.out.mx _ _ _ HX.out (rn_put (o' := .deferred (some [])) (.deferred none) (by omega) HDh.out (buf_def _))⟩⟩
end Go.Proofs.YtlhbledakddbbaaGreatDoor
/- A program's lines, as an iterator hands them on. -/
namespace Go.Proofs.YtlhbledakddbbaaGreatDoor
open Go.RowKit
attribute [local go_sem] Oper.semAt_some

theorem Prg.lines_eq (rg : List Rgn) (fs : List Fnc) : (Prg.mk rg fs).lines = rg.map (fun r => (0, r.line)) ++ fs.flatMap Fnc.lines := rfl
set_option maxRecDepth 100000 in
set_option maxHeartbeats 6400000 in
theorem programLines1_all (x : Prg) (p q : Option Addr) (c d bp n : Nat) (w0 wx : World) (hm : x.may = true) (hfit : x.fit) (hps : ∀ f ∈ x.fns, f.params.length ≤ 1000000) (hlen : ∀ y ∈ x.lines, y.2.length ≤ 1000000) (hok : x.Ok w0 w0.heap.size p q) (hG0 : Glob w0) :
    SeqOwn (fun A => Below w0.heap.size w0 A ∧ A.heap[bp]? = some (.cells #[.slice p x.regs.length c, .slice q x.fns.length d] 39 (0, 0))) Fence.wide n Tryz.prog 84 #[.pointer (some ⟨bp, 0, none⟩)] encL x.lines wx := by
  intro l J Jx W hW hJ hJx hG hY h0
  refine callsIn_wide.2 ?_
  obtain ⟨M, hM⟩ : ∃ M, M = n - 1 := ⟨_, rfl⟩
  obtain ⟨L, hL⟩ : ∃ L, L = x.lines := ⟨_, rfl⟩
  have E : FnEnv l M W.heap.size w0 L (fun k A => J k A ∧ W.heap.size ≤ A.heap.size) Jx :=
    { gl := hG0
      mv := fun k A B h hAB => ⟨hJ k A B h.1 hAB, Nat.le_trans h.2 hAB.bel.size⟩
      mx := hJx
      bel := fun k A h => (hG k A h.1).1
      hn := fun k A h => h.2
      yl := fun k y W1 hx hj => by
        obtain ⟨fn, tmps, assign, body, hy, hR⟩ := jj_of (hY k y W1 (by rw [← hL]; exact hx) hj.1)
        refine ⟨fn, tmps, assign, body, hy, (by rw [hM]; exact hR.mono (by
          rintro e w ⟨v, rfl, hjj, hU⟩
          refine ⟨v, rfl, ?_, hU⟩
          rcases hjj with ⟨rfl, h⟩ | ⟨rfl, h⟩
          · exact .inl ⟨rfl, h, Nat.le_trans hj.2 hU.size⟩
          · exact .inr ⟨rfl, h⟩))⟩ }
  have HE := Lib.hid E
  clear hM
  have HG := Lib.hid (fun k A (h : J k A) => (hG k A h).2)
  have HJ0 : Hid (J 0 W ∧ W.heap.size ≤ W.heap.size) := Lib.hid ⟨h0, Nat.le_refl _⟩
  obtain ⟨rg, fs⟩ := x
  simp only [] at HG
  rw [Prg.lines_eq] at hL hlen
  rw [Prg.lines_eq, ← hL]
  unfold Prg.may at hm
  simp only [Bool.and_eq_true] at hm
  have HMr := Lib.hid (List.all_eq_true.1 hm.1)
  have HMf := Lib.hid (List.all_eq_true.1 hm.2)
  have HFr := Lib.hid hfit.1
  have HFf := Lib.hid hfit.2
  have HPs := Lib.hid hps
  have S1 := Lib.hid hok.1
  have S2 := Lib.hid hok.2
  have hr63 : rg.length ≤ 140737488355328 := hok.1.1
  have hf63 : fs.length ≤ 140737488355328 := hok.2.1
  have HLn := Lib.hid hlen
  have HSg : Hid (Seg L 0 (rg.map (fun r => (0, r.line)) ++ fs.flatMap Fnc.lines)) := Lib.hid (by rw [← hL]; exact Seg.all _)
  have HLL := Lib.hid (show L.length = rg.length + (fs.flatMap Fnc.lines).length by rw [hL, List.length_append, List.length_map])
  have hGc := HG.out 0 W h0
  clear hJ hJx hG hY h0 hW E hL hlen hm hfit hps hok
  show Calls Tryz.prog 84 #[.func (.yield l) #[] #[], .pointer (some ⟨bp, 0, none⟩)] W _
  have c0 : W.cell? ⟨bp, 0, none⟩ = some (.slice p rg.length c) := cell_block hGc rfl
  go_enter Tryz.func84, Tryz.ntmps84
  go_wp2_with fail
  clear c0 hGc
  go_loopw [9] (fun i wr => ∃ (k : Nat) (r : List Rgn), i = .int .i64 k ∧ k + r.length = rg.length ∧ Hid (∀ v ∈ r, v ∈ rg) ∧ Hid (∀ b o, p = some ⟨b, o, none⟩ → Row (Rgn.At w0) 4 rg b o → Row (Rgn.At w0) 4 r b (o + k * 4)) ∧ Hid (Seg L k (r.map (fun r => (0, r.line)) ++ fs.flatMap Fnc.lines)) ∧ Hid (J k wr ∧ W.heap.size ≤ wr.heap.size)) (fun i _ => rg.length - (intOf i).toNat)
  case atStart => exact ⟨0, rg, rfl, by omega, Lib.hid fun v h => h, Lib.hid fun b o _ h => by rw [Nat.zero_mul]; exact h, HSg, HJ0⟩
  case round =>
    obtain ⟨k, r, rfl, hk, hmem, hat, hS, hj⟩ := hrel
    cases r with
    | cons v r =>
      simp only [List.length_cons] at hk
      have hlt : k < rg.length := by omega
      obtain ⟨bv, ov, rfl, hbv, hA⟩ : ∃ b o, p = some ⟨b, o, none⟩ ∧ b < w0.heap.size ∧ Row (Rgn.At w0) 4 rg b o := by
        rcases S1.out.2 with h0 | h0
        · omega
        · exact h0
      obtain ⟨hx, hr⟩ := hat.out bv ov rfl hA
      have HR := Lib.hid hr
      have hBw := HE.out.bel _ _ hj.out
      obtain ⟨g0, g1, g2, g3⟩ := Rgn.At.later hBw v bv _ hbv hx
      have hv := hmem.out v (by simp)
      have hsg := hS.out
      rw [List.map_cons, List.cons_append] at hsg
      obtain ⟨hvs, hdv⟩ : ∃ k, str v.line = k := ⟨_, rfl⟩
      have HVL := Lib.hid (fun (w1 : World) (hB : Below w0.heap.size w0 w1) => regionLine_any v (HMr.out v hv) (HFr.out v hv) w1 (HE.out.gl.later hB) (HLn.out (0, v.line) (List.mem_append_left _ (List.mem_map.2 ⟨v, hv, rfl⟩))))
      rw [hdv] at HVL
      have hylv : encL (0, v.line) = #[.int .i64 0, .string hvs] := by rw [← hdv]; rfl
      have HLv := Lib.hid hsg.head
      have HsgT := Lib.hid hsg.tail
      have hbvw : bv < wr.heap.size := Nat.lt_of_lt_of_le hbv hBw.size
      have hk1 : k + 1 ≤ L.length := by have := hsg.len; rw [List.length_cons] at this; omega
      clear hdv hx hr hA hsg hS hat
      go_upto_region 3 with fail
      obtain ⟨wA, hwA⟩ : ∃ wA, wr.alloc (.cells #[.string (str v.name), .int .i64 v.addr, .int .i64 v.size, .bool v.secret] 77) = wA := ⟨_, rfl⟩
      have hBA : Below wr.heap.size wr wA := by rw [← hwA]; exact (Below.refl _ _).alloc (Nat.le_refl _) _
      have k6 : wA.heap[wr.heap.size]? = some (.cells #[.string (str v.name), .int .i64 v.addr, .int .i64 v.size, .bool v.secret] 77 (0, 0)) := by rw [← hwA]; exact heap_alloc_new wr _
      have v0 : wA.cell? ⟨wr.heap.size, 0, none⟩ = some (.string (str v.name)) := cell_block k6 rfl
      have v1 : wA.cell? ⟨wr.heap.size, 1, none⟩ = some (.int .i64 v.addr) := cell_block k6 rfl
      have v2 : wA.cell? ⟨wr.heap.size, 2, none⟩ = some (.int .i64 v.size) := cell_block k6 rfl
      have v3 : wA.cell? ⟨wr.heap.size, 3, none⟩ = some (.bool v.secret) := cell_block k6 rfl
      rw [hwA]
      have HJA := Lib.hid (HE.out.fwd hj.out hBA)
      clear hwA k6 hBA g0 g1 g2 g3 hj
      refine (wpIn_wide (n := M + 1)).1 ?_
      gi_wp2_with fail
      refine ⟨trivial, ?_⟩
      refine (callsIn_wide.2 (HVL.out wA (HE.out.bel _ _ HJA.out))).mono ?_
      rintro z w2 ⟨rfl, hB2⟩
      obtain ⟨fn, tmps, assign, body, hy, hR⟩ := HE.out.yl k _ w2 HLv.out (HE.out.fwd HJA.out hB2)
      rw [hylv] at hy
      clear v0 v1 v2 v3 hB2 HVL
      gi_wp2_with fail
      refine hR.mono ?_
      rintro z w3 ⟨v, rfl, hj, hU⟩
      clear hU hy hR
      rcases hj with ⟨rfl, hj⟩ | ⟨rfl, hj⟩
      · have HJ3 := Lib.hid hj
        clear hj
        gi_wp2_with fail
        go_wp2_with fail
        go_roundw
        case rel => exact ⟨k + 1, r, by go_num, by omega, Lib.hid fun x hx => hmem.out x (List.mem_cons_of_mem _ hx), Lib.hid fun b' o' e' _ => by cases e'; rw [show ov + (k + 1) * 4 = ov + k * 4 + 4 by omega]; exact HR.out, HsgT, HJ3⟩
        case measure => simp [intOf]; omega
      · have HX := Lib.hid hj
        clear hj
        gi_wp2_with fail
        go_wp2_with fail
        refine bodyPost_ret (results_none rfl _ _ _) rfl ?_
        exact ⟨⟨_, rfl⟩, .inr ⟨k + 1, hk1, HX.out⟩⟩
    | nil =>
      simp only [List.length_nil, Nat.add_zero] at hk
      subst hk
      have hge : ¬ rg.length < rg.length := by omega
      have hsg := hS.out
      rw [List.map_nil, List.nil_append] at hsg
      have HSg2 := Lib.hid hsg
      have hGc := HG.out _ _ hj.out.1
      have c1 : wr.cell? ⟨bp, 1, none⟩ = some (.slice q fs.length d) := cell_block hGc rfl
      clear hsg hGc hS hat
      go_wp2_with fail
      clear c1
      go_loopw [22] (fun i w2 => ∃ (k e : Nat) (r : List Fnc), i = .int .i64 k ∧ k + r.length = fs.length ∧ Hid (∀ v ∈ r, v ∈ fs) ∧ Hid (∀ b o, q = some ⟨b, o, none⟩ → Row (Fnc.At w0 w0.heap.size) 5 fs b o → Row (Fnc.At w0 w0.heap.size) 5 r b (o + k * 5)) ∧ Hid (Seg L e (r.flatMap Fnc.lines) ∧ e + (r.flatMap Fnc.lines).length = L.length) ∧ Hid (J e w2 ∧ W.heap.size ≤ w2.heap.size)) (fun i _ => fs.length - (intOf i).toNat)
      case atStart => exact ⟨0, rg.length, fs, rfl, by omega, Lib.hid fun v h => h, Lib.hid fun b o _ h => by rw [Nat.zero_mul]; exact h, Lib.hid ⟨HSg2.out, by rw [HLL.out]⟩, hj⟩
      case round =>
        obtain ⟨k2, e, r, rfl, hk2, hmem2, hat2, hS2, hj2⟩ := hrel
        cases r with
        | nil =>
          simp only [List.length_nil, Nat.add_zero] at hk2
          have hge2 : ¬ k2 < fs.length := by omega
          have he : e = L.length := by have := hS2.out.2; simpa using this
          go_wp2_with fail
          go_end0
          subst he
          exact ⟨⟨_, rfl⟩, .inl hj2.out.1⟩
        | cons f r =>
          simp only [List.length_cons] at hk2
          have hlt2 : k2 < fs.length := by omega
          obtain ⟨bf, of, rfl, hbf, hA⟩ : ∃ b o, q = some ⟨b, o, none⟩ ∧ b < w0.heap.size ∧ Row (Fnc.At w0 w0.heap.size) 5 fs b o := by
            rcases S2.out.2 with h0 | h0
            · omega
            · exact h0
          obtain ⟨hx, hr⟩ := hat2.out bf of rfl hA
          have HR := Lib.hid hr
          have hfm := hmem2.out f (by simp)
          obtain ⟨hsg, htt⟩ := hS2.out
          rw [List.flatMap_cons] at hsg htt
          have HF := Lib.hid (showFunc_any HE.out f bf (of + k2 * 5) e hbf hx (HMf.out f hfm) (HFf.out f hfm) (HPs.out f hfm) (fun y hy => HLn.out y (List.mem_append_right _ (List.mem_flatMap.2 ⟨f, hfm, hy⟩))) hsg.left wr hj2.out)
          have HsgT := Lib.hid (show Seg L (e + f.lines.length) (r.flatMap Fnc.lines) ∧ e + f.lines.length + (r.flatMap Fnc.lines).length = L.length from ⟨hsg.right, by rw [List.length_append] at htt; omega⟩)
          have hGc := HG.out _ _ hj2.out.1
          have c1 : wr.cell? ⟨bp, 1, none⟩ = some (.slice (some ⟨bf, of, none⟩) fs.length d) := cell_block hGc rfl
          clear hx hr hA hsg htt hS2 hGc hat2
          go_wp2_with fail
          refine HF.out.mono ?_
          rintro z w3 ⟨v, rfl, hs⟩
          have HS := Lib.hid hs
          clear hs c1
          rcases HS.out with ⟨rfl, h⟩ | ⟨rfl, h⟩
          · have HJ3 := Lib.hid h
            clear h
            go_wp2_with fail
            go_roundw
            case rel => exact ⟨k2 + 1, e + f.lines.length, r, by go_num, by omega, Lib.hid fun x hx => hmem2.out x (List.mem_cons_of_mem _ hx), Lib.hid fun b' o' e' _ => by cases e'; rw [show of + (k2 + 1) * 5 = of + k2 * 5 + 5 by omega]; exact HR.out, HsgT, HJ3⟩
            case measure => simp [intOf]; omega
          · have HX := Lib.hid h
            clear h
            go_wp2_with fail
            refine bodyPost_ret (results_none rfl _ _ _) rfl ?_
            exact ⟨⟨_, rfl⟩, .inr HX.out⟩
end Go.Proofs.YtlhbledakddbbaaGreatDoor
/- The text of any program. -/
namespace Go.Proofs.YtlhbledakddbbaaGreatDoor
open Go.RowKit
attribute [local go_sem] Oper.semAt_some

def Prg.err (x : Prg) : Nat := if x.may then (if x.text.length ≤ 65536 then 0 else 3) else 2
def Prg.out (x : Prg) : List UInt8 := if x.err = 0 then x.text else []
theorem linesT_app (a b : List (Nat × List UInt8)) : linesT (a ++ b) = linesT a ++ linesT b := by simp [linesT]
theorem linesT_take {L : List (Nat × List UInt8)} {k : Nat} {x : Nat × List UInt8} (h : L[k]? = some x) : linesT (L.take (k + 1)) = linesT (L.take k) ++ (List.replicate x.1 9 ++ (x.2 ++ [10])) := by
  rw [List.take_add_one, h, Option.toList_some, linesT_app]
  simp [linesT, lineT]
theorem linesT_le (L : List (Nat × List UInt8)) (k : Nat) : (linesT (L.take k)).length ≤ (linesT L).length := by
  have := congrArg List.length (linesT_app (L.take k) (L.drop k))
  rw [List.take_append_drop, List.length_append] at this
  omega
theorem repeat_tab (t : Nat) (ht : t ≤ 1000) (w : World) : Calls Tryz.prog 46 #[.string ⟨#[9]⟩, .int .i64 (t : Int)] w fun e w' => e = .returned (.string (str (List.replicate t 9))) ∧ Below w.heap.size w w' := by
  have h := Tryz.strings_Repeat ⟨#[9]⟩ t w (by omega) (by show 1 * t ≤ _; omega)
  have e : Lib.repeatL (⟨#[9]⟩ : ByteArray).data.toList t = List.replicate t 9 := by
    have := Lib.repeatL_replicate 9 1 t
    rw [Nat.mul_one] at this
    exact this
  rw [e] at h
  exact h

/-- what stays while Text goes through the lines -/
structure TX (w : World) (bp nb : Nat) (PV : Array Value) (L : List (Nat × List UInt8)) (k : Nat) (W : World) : Prop where
  pr : W.heap[bp]? = some (.cells PV 39 (0, 0))
  bd : Lib.IsBuilder 85 5 nb nb (Lib.byteCells (linesT (L.take k))) W
  r0 : W.heap[w.heap.size + 1]? = some (.cells #[.string ⟨#[]⟩] 9 (0, 0))
  r1 : W.heap[w.heap.size + 2]? = some (.cells #[.int .i64 0] 29 (0, 0))
  bw : Below w.heap.size w W
  ln : (linesT (L.take k)).length ≤ 65536
  fr : k = 0 → W.heap[nb]? = some (.cells #[.pointer none, .slice none 0 0] 85 (0, 0))
theorem TX.rn {w : World} {bp nb n : Nat} {PV : Array Value} {L : List (Nat × List UInt8)} {k : Nat} {A B : World} (h : TX w bp nb PV L k A) (hAB : Rn n A B) (h1 : bp < n) (h2 : w.heap.size + 2 < n) : TX w bp nb PV L k B :=
  ⟨(hAB.bel.block _ h1).trans h.pr, builder_rn h.bd hAB, (hAB.bel.block _ (by omega)).trans h.r0, (hAB.bel.block _ h2).trans h.r1, h.bw.trans (hAB.bel.mono (by omega)), h.ln, fun e => hAB.buf _ _ (h.fr e) (buf_b _ _)⟩

theorem string_fresh (b : Nat) (w : World) (h : w.heap[b]? = some (.cells #[.pointer none, .slice none 0 0] 85 (0, 0))) :
    Calls Tryz.prog 49 #[.pointer (some ⟨b, 0, none⟩)] w fun e w' => e = .returned (.string ⟨#[]⟩) ∧ Below w.heap.size w w' :=
  Any.Builder_String_nil Tryz.lays169 Tryz.Builder_Extra_169 w.heap.size b _ w h
set_option maxRecDepth 100000 in
set_option maxHeartbeats 6400000 in
theorem text_no (x : Prg) (h6 : ∀ f ∈ x.fns, f.body.wt ≤ 1000000) (p q : Option Addr) (c d : Nat) (w : World) (hok : x.Ok w w.heap.size p q) (hm : x.may = false) :
    Calls Tryz.prog 17 #[x.val p q c d] w fun e w' => e = .returned (.tuple #[.string (str x.out), .int .i64 (x.err : Int)]) ∧ Below w.heap.size w w' := by
  have he : x.err = 2 := by unfold Prg.err; rw [hm]; rfl
  have ho : x.out = [] := by unfold Prg.out; rw [he]; rfl
  rw [he, ho]
  have HMy := Lib.hid (fun (w1 : World) (hB : Below w.heap.size w w1) => may_any x h6 p q c d w.heap.size w1 hB.size (hok.later hB (Nat.le_refl _)))
  rw [hm] at HMy
  unfold Prg.val at HMy ⊢
  clear hok hm he ho
  refine (callsIn_wide (n := 4)).1 ?_
  refine callsIn_of_wp_marks Tryz.func17 rfl trivial ?_ rfl
  simp only [Tryz.ntmps17, List.size_toArray, List.length_cons, List.length_nil, Nat.reduceAdd, Nat.reduceSub, Array.replicate_succ, Array.replicate_zero, List.push_toArray, List.append_toArray, List.nil_append, List.cons_append]
  gi_wp2_with fail
  obtain ⟨w1, hw1⟩ : ∃ w1, ((w.alloc (.cells #[.slice p x.regs.length c, .slice q x.fns.length d] 39)).alloc (.cells #[.string ⟨#[]⟩] 9)).alloc (.cells #[.int .i64 0] 29) = w1 := ⟨_, rfl⟩
  have hB1 : Below w.heap.size w w1 := by rw [← hw1]; exact (((Below.refl _ w).alloc (Nat.le_refl _) _).alloc (by simp) _).alloc (by simp; omega) _
  have k1 : w1.heap[w.heap.size + 1]? = some (.cells #[.string ⟨#[]⟩] 9 (0, 0)) := by
    rw [← hw1, Below.heap_alloc _ _ _ (by simp)]; have := heap_alloc_new (w.alloc (.cells #[.slice p x.regs.length c, .slice q x.fns.length d] 39)) (.cells #[.string ⟨#[]⟩] 9); simpa using this
  have k2 : w1.heap[w.heap.size + 2]? = some (.cells #[.int .i64 0] 29 (0, 0)) := by
    rw [← hw1]; have := heap_alloc_new ((w.alloc (.cells #[.slice p x.regs.length c, .slice q x.fns.length d] 39)).alloc (.cells #[.string ⟨#[]⟩] 9)) (.cells #[.int .i64 0] 29); simpa using this
  rw [hw1]
  clear hw1
  refine ⟨trivial, ?_⟩
  refine (callsIn_wide.2 (HMy.out w1 hB1)).mono ?_
  rintro e w2 ⟨rfl, hB2⟩
  have j1 := (hB2.block _ (lt_of_block k1)).trans k1
  have j2 := (hB2.block _ (lt_of_block k2)).trans k2
  have HB := Lib.hid (hB1.trans (hB2.mono hB1.size))
  have c1 := cell_of_one j1
  have c2 := cell_of_one j2
  have f1 := free_of_one j1
  have f2 := free_of_one j2
  have HJ := Lib.hid (And.intro j1 j2)
  clear k1 k2 hB1 hB2 j1 j2
  gi_wp2_with fail
  obtain ⟨X, hX⟩ : ∃ X, w2.setCell ⟨w.heap.size + 1, 0, none⟩ (.string ⟨#[]⟩) = X := ⟨_, rfl⟩
  have x1 : X.heap[w.heap.size + 1]? = some (.cells #[.string ⟨#[]⟩] 9 (0, 0)) := by rw [← hX]; exact one_setCell HJ.out.1
  have x2 : X.heap[w.heap.size + 2]? = some (.cells #[.int .i64 0] 29 (0, 0)) := by rw [← hX]; exact (Below.heap_setCell w2 _ _ _ (by show w.heap.size + 2 ≠ w.heap.size + 1; omega)).trans HJ.out.2
  have hbX : Below w.heap.size w X := by rw [← hX]; exact HB.out.setCell (p := ⟨w.heap.size + 1, 0, none⟩) (by show w.heap.size ≤ w.heap.size + 1; omega) _
  obtain ⟨Y, hY⟩ : ∃ Y, X.setCell ⟨w.heap.size + 1 + 1, 0, none⟩ (.int .i64 2) = Y := ⟨_, rfl⟩
  have y1 : Y.heap[w.heap.size + 1]? = some (.cells #[.string ⟨#[]⟩] 9 (0, 0)) := by rw [← hY]; exact (Below.heap_setCell X _ _ _ (by show w.heap.size + 1 ≠ w.heap.size + 1 + 1; omega)).trans x1
  have y2 : Y.heap[w.heap.size + 1 + 1]? = some (.cells #[.int .i64 2] 29 (0, 0)) := by rw [← hY]; exact one_setCell x2
  have hbY : Below w.heap.size w Y := by rw [← hY]; exact hbX.setCell (p := ⟨w.heap.size + 1 + 1, 0, none⟩) (by show w.heap.size ≤ w.heap.size + 1 + 1; omega) _
  rw [hX, hY]
  have d1 := cell_of_one y1
  have d2 := cell_of_one y2
  refine ⟨.tuple #[.string ⟨#[]⟩, .int .i64 2], ?_, rfl, hbY⟩
  simp [results, Tryz.results17, go_sem, d1, d2]

set_option maxRecDepth 100000 in
set_option maxHeartbeats 6400000 in
theorem text_yes (x : Prg) (h6 : ∀ f ∈ x.fns, f.body.wt ≤ 1000000) (p q : Option Addr) (c d : Nat) (w : World) (hG : Glob w) (hok : x.Ok w w.heap.size p q) (hm : x.may = true) (hfit : x.fit) (hps : ∀ f ∈ x.fns, f.params.length ≤ 1000000) (hlen : ∀ y ∈ x.lines, y.1 ≤ 1000 ∧ y.2.length ≤ 1000000) :
    Calls Tryz.prog 17 #[x.val p q c d] w fun e w' => e = .returned (.tuple #[.string (str x.out), .int .i64 (x.err : Int)]) ∧ Below w.heap.size w w' := by
  have HMy := Lib.hid (fun (w1 : World) (hB : Below w.heap.size w w1) => may_any x h6 p q c d w.heap.size w1 hB.size (hok.later hB (Nat.le_refl _)))
  rw [hm] at HMy
  have HRes1 := Lib.hid (show x.text.length ≤ 65536 → x.out = x.text ∧ x.err = 0 from fun h => by
    have he : x.err = 0 := by unfold Prg.err; rw [if_pos hm, if_pos h]
    exact ⟨by unfold Prg.out; rw [if_pos he], he⟩)
  have HRes2 := Lib.hid (show ¬ x.text.length ≤ 65536 → x.out = [] ∧ x.err = 3 from fun h => by
    have he : x.err = 3 := by unfold Prg.err; rw [if_pos hm, if_neg h]
    exact ⟨by unfold Prg.out; rw [if_neg (by omega)], he⟩)
  have HSeq := Lib.hid (fun bp n wx => programLines1_all x p q c d bp n w wx hm hfit hps (fun y hy => (hlen y hy).2) hok hG)
  have HLen := Lib.hid hlen
  have hxt : linesT x.lines = x.text := rfl
  obtain ⟨L, hL⟩ : ∃ L, x.lines = L := ⟨_, rfl⟩
  rw [hL] at HSeq HLen hxt
  have HXT := Lib.hid hxt
  obtain ⟨PV, hPV⟩ : ∃ PV : Array Value, PV = #[.slice p x.regs.length c, .slice q x.fns.length d] := ⟨_, rfl⟩
  unfold Prg.val at HMy ⊢
  rw [← hPV] at HMy HSeq ⊢
  have HPV := Lib.hid hPV
  clear hok hm hG hfit hps hlen hL h6 hxt
  rw [hPV]
  refine (callsIn_wide (n := 4)).1 ?_
  refine callsIn_of_wp_marks Tryz.func17 rfl trivial ?_ rfl
  simp only [Tryz.ntmps17, List.size_toArray, List.length_cons, List.length_nil, Nat.reduceAdd, Nat.reduceSub, Array.replicate_succ, Array.replicate_zero, List.push_toArray, List.append_toArray, List.nil_append, List.cons_append]
  gi_wp2_with fail
  obtain ⟨w1, hw1⟩ : ∃ w1, ((w.alloc (.cells #[.slice p x.regs.length c, .slice q x.fns.length d] 39)).alloc (.cells #[.string ⟨#[]⟩] 9)).alloc (.cells #[.int .i64 0] 29) = w1 := ⟨_, rfl⟩
  have hB1 : Below w.heap.size w w1 := by rw [← hw1]; exact (((Below.refl _ w).alloc (Nat.le_refl _) _).alloc (by simp) _).alloc (by simp; omega) _
  have k0 : w1.heap[w.heap.size]? = some (.cells #[.slice p x.regs.length c, .slice q x.fns.length d] 39 (0, 0)) := by
    rw [← hw1, Below.heap_alloc _ _ _ (by simp; omega), Below.heap_alloc _ _ _ (by simp)]; exact heap_alloc_new w _
  have k1 : w1.heap[w.heap.size + 1]? = some (.cells #[.string ⟨#[]⟩] 9 (0, 0)) := by
    rw [← hw1, Below.heap_alloc _ _ _ (by simp)]; have := heap_alloc_new (w.alloc (.cells #[.slice p x.regs.length c, .slice q x.fns.length d] 39)) (.cells #[.string ⟨#[]⟩] 9); simpa using this
  have k2 : w1.heap[w.heap.size + 2]? = some (.cells #[.int .i64 0] 29 (0, 0)) := by
    rw [← hw1]; have := heap_alloc_new ((w.alloc (.cells #[.slice p x.regs.length c, .slice q x.fns.length d] 39)).alloc (.cells #[.string ⟨#[]⟩] 9)) (.cells #[.int .i64 0] 29); simpa using this
  rw [hw1]
  clear hw1
  have l2 := lt_of_block k2
  rw [hPV] at HMy HSeq
  refine ⟨trivial, ?_⟩
  refine (callsIn_wide.2 (HMy.out w1 hB1)).mono ?_
  rintro e w2 ⟨rfl, hB2⟩
  have hBw2 := hB1.trans (hB2.mono hB1.size)
  obtain ⟨w3, hw3⟩ : ∃ w3, w2.alloc (.cells #[.pointer none, .slice none 0 0] 85) = w3 := ⟨_, rfl⟩
  have hB3 : Below w2.heap.size w2 w3 := by rw [← hw3]; exact (Below.refl _ w2).alloc (Nat.le_refl _) _
  have kb : w3.heap[w2.heap.size]? = some (.cells #[.pointer none, .slice none 0 0] 85 (0, 0)) := by rw [← hw3]; exact heap_alloc_new w2 _
  have z2 := hB2.size
  have z3 := hB3.size
  have m0 := (hB3.block _ (by omega)).trans ((hB2.block _ (lt_of_block k0)).trans k0)
  have m1 := (hB3.block _ (by omega)).trans ((hB2.block _ (lt_of_block k1)).trans k1)
  have m2 := (hB3.block _ (by omega)).trans ((hB2.block _ (lt_of_block k2)).trans k2)
  have hBw3 := hBw2.trans (hB3.mono hBw2.size)
  have hb3 : Lib.IsBuilder 85 5 w2.heap.size w2.heap.size (Lib.byteCells (linesT (L.take 0))) w3 := .inl ⟨Nat.le_refl _, _, kb, World.ownsRow_nil _ _ _ _, by simp [Value.ownBlock]⟩
  have p0 : w2.cell? ⟨w.heap.size, 0, none⟩ = some (.slice p x.regs.length c) := cell_block ((hB2.block _ (lt_of_block k0)).trans k0) rfl
  have p1 : w2.cell? ⟨w.heap.size, 1, none⟩ = some (.slice q x.fns.length d) := cell_block ((hB2.block _ (lt_of_block k0)).trans k0) rfl
  have q0 : w3.cell? ⟨w.heap.size, 0, none⟩ = some (.slice p x.regs.length c) := cell_block m0 rfl
  have q1 : w3.cell? ⟨w.heap.size, 1, none⟩ = some (.slice q x.fns.length d) := cell_block m0 rfl
  gi_wp2_with fail
  refine ⟨trivial, ?_⟩
  refine (callsIn_wide.2 (programLines_any _ _ w3)).mono ?_
  rintro e w4 ⟨bp, rfl, hbp, hbz4, hB4⟩
  have z4 := hB4.size
  have lbp := lt_of_block hbp
  have HI : Hid (TX w bp w2.heap.size #[.slice p x.regs.length c, .slice q x.fns.length d] L 0 w4) := Lib.hid
    { pr := hbp
      bd := builder_rn hb3 (Rn.of_below hB4 (Nat.le_refl _))
      r0 := (hB4.block _ (by omega)).trans m1
      r1 := (hB4.block _ (by omega)).trans m2
      bw := hBw3.trans (hB4.mono (by omega))
      ln := by simp [linesT]
      fr := fun _ => (hB4.block _ (lt_of_block kb)).trans kb }
  have hz : w.heap.size + 2 < w2.heap.size ∧ w2.heap.size < w4.heap.size ∧ bp < w4.heap.size := by
    have := lt_of_block kb
    exact ⟨by omega, by omega, lbp⟩
  clear k0 k1 k2 l2 z2 z3 z4 m0 m1 m2 p0 p1 q0 q1 kb hw3 hb3 hB1 hB2 hB3 hB4 hBw2 hBw3 hbp hbz4 lbp HMy
  generalize w2.heap.size = nb at *
  gi_wp2_with fail
  refine range_own (F := Fence.wide) rfl (by omega) (gf := 84) (lb := #[.pointer (some ⟨bp, 0, none⟩)]) rfl trivial (enters_of Tryz.func84 (by kernel_rfl) rfl)
    (HSeq.out bp (4 - 1) w4) (Below.refl _ w4) (fun _ => rfl)
    (fun k W => TX w bp nb #[.slice p x.regs.length c, .slice q x.fns.length d] L k W)
    (fun cd _ W => cd = .ret ∧ ¬ x.text.length ≤ 65536 ∧ W.heap[w.heap.size + 1]? = some (.cells #[.string ⟨#[]⟩] 9 (0, 0)) ∧ W.heap[w.heap.size + 2]? = some (.cells #[.int .i64 3] 29 (0, 0)) ∧ Below w.heap.size w W)
    (fun k A h => ⟨h.bw, h.pr⟩)
    (fun k A B h hAB => h.rn hAB hz.2.2 (by omega))
    (fun cd k A B h hAB => ⟨h.1, h.2.1, (hAB.bel.block _ (by omega)).trans h.2.2.1, (hAB.bel.block _ (by omega)).trans h.2.2.2.1, h.2.2.2.2.trans (hAB.bel.mono (by omega))⟩) HI.out (fun _ _ _ => True) (fun _ _ _ _ _ _ => trivial) ?_ ?_ ?_ ?_ ?_
  rotate_left
  · intro l k y W K hx hi hW hK
    simp only [encL]
    simp only [List.zip_toArray, List.zip_cons_cons, List.zip_nil_left]
    gi_wp2_with fail
    obtain ⟨bb, _⟩ : ∃ bb : Nat, bb = 0 := ⟨_, rfl⟩
    exact hK bb _ (Below.refl _ _) trivial
  · intro l k y bb W hx hi hA hW
    obtain ⟨tb, ln⟩ := y
    obtain ⟨htb, hll⟩ := HLen.out _ (List.mem_of_getElem? hx)
    have hkL := (List.getElem?_eq_some_iff.1 hx).1
    simp only [] at htb hll
    have ht := linesT_take hx
    simp only [] at ht
    have hnW : nb ≤ W.heap.size := by omega
    have hln := size_len (str ln)
    rw [str_data] at hln
    have hlt := size_len (str (List.replicate tb 9))
    rw [str_data, List.length_replicate] at hlt
    have hcl := cells_len (linesT (L.take k))
    have h65 := hi.ln
    gi_wp2_with fail
    refine ⟨trivial, ?_⟩
    refine (CallsIn.inRound l (callsIn_wide.2 (repeat_tab tb htb W))).mono ?_
    rintro e wA ⟨rfl, hBA⟩
    have hiA := hi.rn (Rn.of_below hBA (Nat.le_of_lt hW)) hz.2.2 (by omega)
    have hzA := hBA.size
    gi_wp2_with fail
    refine ⟨trivial, ?_⟩
    refine (CallsIn.inRound l (callsIn_wide.2 (writeString_any nb nb _ (str (List.replicate tb 9)) wA hiA.bd (by rw [hcl, hlt]; omega) (by omega)))).mono ?_
    rintro e w5 ⟨rfl, hb5, hB5, hk5⟩
    have z5 := hB5.size
    rw [str_cells, ← cells_app] at hb5
    gi_wp2_with fail
    refine ⟨trivial, ?_⟩
    refine (CallsIn.inRound l (callsIn_wide.2 (writeString_any nb nb _ (str ln) w5 (.inr hb5) (by rw [cells_len, hln, List.length_append, List.length_replicate]; omega) (by omega)))).mono ?_
    rintro e w6 ⟨rfl, hb6, hB6, hk6⟩
    have z6 := hB6.size
    rw [str_cells, ← cells_app] at hb6
    gi_wp2_with fail
    refine ⟨trivial, ?_⟩
    refine (CallsIn.inRound l (callsIn_wide.2 (writeByte_any nb nb _ 10 w6 (.inr hb6) (by rw [cells_len]; simp only [List.length_append, List.length_replicate]; omega) (by omega)))).mono ?_
    rintro e w7 ⟨rfl, hb7, hB7, hk7⟩
    have z7 := hB7.size
    rw [← cells_one, ← cells_app] at hb7
    have ht7 : linesT (L.take k) ++ List.replicate tb 9 ++ ln ++ [10] = linesT (L.take (k + 1)) := by rw [ht]; simp
    rw [ht7] at hb7
    have hU : Up w4.heap.size W w7 := ((Up.refl w4.heap.size W).below hBA).trans ((hk5.trans (hk6.trans hk7)).up _)
    have hB : Below nb wA w7 := hB5.trans (hB6.trans hB7)
    have hk := hk5.trans (hk6.trans hk7)
    have hpr : w7.heap[bp]? = some (.cells #[.slice p x.regs.length c, .slice q x.fns.length d] 39 (0, 0)) := hk.same _ _ hiA.pr (by intro h; rcases h with h | h <;> exact absurd h (by decide))
    have hr0 := (hB.block _ (by omega)).trans hiA.r0
    have hr1 := (hB.block _ (by omega)).trans hiA.r1
    have hbw := hiA.bw.trans (hB.mono (by omega))
    have HT := Lib.hid (show Up w4.heap.size W w7 ∧ ((linesT (L.take (k + 1))).length ≤ 65536 → TX w bp nb #[.slice p x.regs.length c, .slice q x.fns.length d] L (k + 1) w7) from
      ⟨hU, fun h => ⟨hpr, .inr hb7, hr0, hr1, hbw, h, fun e => by omega⟩⟩)
    have HR := Lib.hid (And.intro hr0 (And.intro hr1 hbw))
    have c1 := cell_of_one hr0
    have c2 := cell_of_one hr1
    have f1 := free_of_one hr0
    have f2 := free_of_one hr1
    have hLen := Tryz.Builder_Len nb nb _ w7 (.inr hb7)
    rw [cells_len] at hLen
    have hle := linesT_le L (k + 1)
    rw [HXT.out] at hle
    clear hb5 hb6 hb7 hB5 hB6 hB7 hk5 hk6 hk7 ht ht7 hln hcl hU hB hk hpr hr0 hr1 hbw hi hiA hBA
    gi_wp2_with fail
    refine ⟨trivial, ?_⟩
    refine (CallsIn.inRound l (callsIn_wide.2 hLen)).mono ?_
    rintro e wr ⟨rfl, rfl⟩
    clear hLen
    by_cases hg : (linesT (L.take (k + 1))).length ≤ 65536
    · have hgt : ¬ ((65536 : Int) < ((linesT (L.take (k + 1))).length : Int)) := by omega
      gi_wp2_with fail
      exact ⟨HT.out.1, HT.out.2 hg⟩
    · have hgt : (65536 : Int) < ((linesT (L.take (k + 1))).length : Int) := by omega
      have hbig : ¬ x.text.length ≤ 65536 := by omega
      gi_wp2_with fail
      have hr1 : (wr.setCell ⟨w.heap.size + 1, 0, none⟩ (.string ⟨#[]⟩)).heap[w.heap.size + 2]? = some (.cells #[.int .i64 0] 29 (0, 0)) := (Below.heap_setCell wr _ _ _ (by show w.heap.size + 2 ≠ w.heap.size + 1; omega)).trans HR.out.2.1
      refine ⟨(HT.out.1.setCell (p := ⟨w.heap.size + 1, 0, none⟩) (by show w.heap.size + 1 < w4.heap.size; omega) _).setCell (p := ⟨w.heap.size + 1 + 1, 0, none⟩) (by show w.heap.size + 1 + 1 < w4.heap.size; omega) _, rfl, hbig, ?_, one_setCell (b := w.heap.size + 1 + 1) hr1, (HR.out.2.2.setCell (p := ⟨w.heap.size + 1, 0, none⟩) (by show w.heap.size ≤ w.heap.size + 1; omega) _).setCell (p := ⟨w.heap.size + 1 + 1, 0, none⟩) (by show w.heap.size ≤ w.heap.size + 1 + 1; omega) _⟩
      exact (Below.heap_setCell _ _ _ _ (by show w.heap.size + 1 ≠ w.heap.size + 1 + 1; omega)).trans (one_setCell HR.out.1)
  · rintro D W hD hi hDh
    have lW := lt_of_block hDh
    have htx : linesT (L.take L.length) = x.text := by rw [List.take_length, HXT.out]
    have hle : x.text.length ≤ 65536 := by rw [← htx]; exact hi.ln
    obtain ⟨ho, he⟩ := HRes1.out hle
    have HStr : Hid (Calls Tryz.prog 49 #[.pointer (some ⟨nb, 0, none⟩)] W fun e w' => e = .returned (.string (str x.text)) ∧ Below nb W w' ∧ w'.heap[D]? = some (.deferred (some []))) := Lib.hid (by
      by_cases h0 : x.text = []
      · have hL0 : L.length = 0 := by
          cases hLL : L with
          | nil => rfl
          | cons y r => rw [hLL] at HXT; have := congrArg List.length (HXT.out.trans h0); simp [linesT, lineT] at this
        refine (string_fresh nb W (hi.fr hL0)).mono ?_
        rintro e w' ⟨rfl, hB⟩
        exact ⟨by rw [h0]; rfl, hB.mono (by omega), (hB.block _ lW).trans hDh⟩
      · have hbd := hi.bd
        rw [htx] at hbd
        refine (string_any nb nb x.text W hbd h0).mono ?_
        rintro e w' ⟨rfl, hB, hK⟩
        exact ⟨rfl, hB, hK.same _ _ hDh (buf_def _)⟩)
    gi_wp2_with fail
    refine ⟨trivial, ?_⟩
    refine (callsIn_wide.2 HStr.out).mono ?_
    rintro e w5 ⟨rfl, hB5, kD⟩
    have k1 := (hB5.block _ (by omega)).trans hi.r0
    have k2 := (hB5.block _ (by omega)).trans hi.r1
    have c1 := cell_of_one k1
    have c2 := cell_of_one k2
    have f1 := free_of_one k1
    have f2 := free_of_one k2
    have hbw := hi.bw.trans (hB5.mono (by omega))
    have HH := Lib.hid (And.intro k1 (And.intro k2 (And.intro kD hbw)))
    clear k1 k2 kD hbw hB5 HStr hi hDh
    gi_wp2_with fail
    obtain ⟨k1, k2, kD, hbw⟩ := HH.out
    obtain ⟨X, hX⟩ : ∃ X, w5.setCell ⟨w.heap.size + 1, 0, none⟩ (.string (str x.text)) = X := ⟨_, rfl⟩
    have x1 : X.heap[w.heap.size + 1]? = some (.cells #[.string (str x.text)] 9 (0, 0)) := by rw [← hX]; exact one_setCell k1
    have x2 : X.heap[w.heap.size + 2]? = some (.cells #[.int .i64 0] 29 (0, 0)) := by rw [← hX]; exact (Below.heap_setCell w5 _ _ _ (by show w.heap.size + 2 ≠ w.heap.size + 1; omega)).trans k2
    have xD : X.heap[D]? = some (.deferred (some [])) := by rw [← hX]; exact (Below.heap_setCell w5 _ _ _ (by show D ≠ w.heap.size + 1; omega)).trans kD
    have hbX : Below w.heap.size w X := by rw [← hX]; exact hbw.setCell (p := ⟨w.heap.size + 1, 0, none⟩) (by show w.heap.size ≤ w.heap.size + 1; omega) _
    obtain ⟨Y, hY⟩ : ∃ Y, X.setCell ⟨w.heap.size + 1 + 1, 0, none⟩ (.int .i64 0) = Y := ⟨_, rfl⟩
    have y1 : Y.heap[w.heap.size + 1]? = some (.cells #[.string (str x.text)] 9 (0, 0)) := by rw [← hY]; exact (Below.heap_setCell X _ _ _ (by show w.heap.size + 1 ≠ w.heap.size + 1 + 1; omega)).trans x1
    have y2 : Y.heap[w.heap.size + 1 + 1]? = some (.cells #[.int .i64 0] 29 (0, 0)) := by rw [← hY]; exact one_setCell x2
    have yD : Y.heap[D]? = some (.deferred (some [])) := by rw [← hY]; exact (Below.heap_setCell X _ _ _ (by show D ≠ w.heap.size + 1 + 1; omega)).trans xD
    have hbY : Below w.heap.size w Y := by rw [← hY]; exact hbX.setCell (p := ⟨w.heap.size + 1 + 1, 0, none⟩) (by show w.heap.size ≤ w.heap.size + 1 + 1; omega) _
    rw [hX, hY]
    have d1 : (Y.putObj D (.deferred none)).cell? ⟨w.heap.size + 1, 0, none⟩ = some (.string (str x.text)) := (World.cell?_of_block (World.putObj_heap_other (by show w.heap.size + 1 ≠ D; omega))).trans (cell_of_one y1)
    have d2 : (Y.putObj D (.deferred none)).cell? ⟨w.heap.size + 1 + 1, 0, none⟩ = some (.int .i64 0) := (World.cell?_of_block (World.putObj_heap_other (by show w.heap.size + 1 + 1 ≠ D; omega))).trans (cell_of_one y2)
    have hbZ : Below w.heap.size w (Y.putObj D (.deferred none)) := hbY.trans ⟨rfl, rfl, rfl, by simp, fun _ hk => World.putObj_heap_other (by omega)⟩
    refine ⟨by simp, .inl ⟨_, _, rfl, run_takeDeferred yD, ?_⟩⟩
    refine ⟨.tuple #[.string (str x.text), .int .i64 0], ?_, by rw [ho, he]; rfl, hbZ⟩
    simp [results, Tryz.results17, go_sem, d1, d2]
  · rintro D cd k W hD hk ⟨hc, hbig, k1, k2, hbw⟩ hDh
    subst hc
    obtain ⟨ho, he⟩ := HRes2.out hbig
    have lW := lt_of_block hDh
    have HH := Lib.hid (And.intro k1 (And.intro k2 (And.intro hDh hbw)))
    clear k1 k2 hDh hbw
    gi_wp2_with fail
    obtain ⟨k1, k2, hDh, hbw⟩ := HH.out
    have d1 : (W.putObj D (.deferred none)).cell? ⟨w.heap.size + 1, 0, none⟩ = some (.string ⟨#[]⟩) := (World.cell?_of_block (World.putObj_heap_other (by show w.heap.size + 1 ≠ D; omega))).trans (cell_of_one k1)
    have d2 : (W.putObj D (.deferred none)).cell? ⟨w.heap.size + 1 + 1, 0, none⟩ = some (.int .i64 3) := (World.cell?_of_block (World.putObj_heap_other (by show w.heap.size + 1 + 1 ≠ D; omega))).trans (cell_of_one k2)
    have hbZ : Below w.heap.size w (W.putObj D (.deferred none)) := hbw.trans ⟨rfl, rfl, rfl, by simp, fun _ hk => World.putObj_heap_other (by omega)⟩
    refine ⟨by simp, .inl ⟨_, _, rfl, run_takeDeferred hDh, ?_⟩⟩
    refine ⟨.tuple #[.string ⟨#[]⟩, .int .i64 3], ?_, by rw [ho, he]; rfl, hbZ⟩
    simp [results, Tryz.results17, go_sem, d1, d2]
end Go.Proofs.YtlhbledakddbbaaGreatDoor
/- How much a program has: the document's Long. -/
namespace Go.Proofs.YtlhbledakddbbaaGreatDoor
open Go.RowKit

def rgnsT : List Rgn → Nat
  | [] => 0
  | x :: r => 1 + x.name.length + rgnsT r
def vrsT : List Vr → Nat
  | [] => 0
  | x :: r => 1 + x.name.length + vrsT r
def Fnc.total (x : Fnc) : Nat := 1 + x.name.length + vrsT x.params + vrsT x.vars + strsT x.rets + x.body.total
def fnsT : List Fnc → Nat
  | [] => 0
  | x :: r => x.total + fnsT r
def Prg.total (x : Prg) : Nat := x.regs.length + x.fns.length + rgnsT x.regs + fnsT x.fns
set_option maxRecDepth 100000 in
set_option maxHeartbeats 12800000 in
theorem long_any (x : Prg) (M : Nat) (hM : M ≤ 5000) (p q : Option Addr) (c d N : Nat) (w : World) (h : x.Ok w N p q) (hN : N ≤ w.heap.size) :
    Calls Tryz.prog 16 #[x.val p q c d, .int .i64 M] w fun e w' => e = .returned (.bool (decide (M < x.total))) ∧ Below w.heap.size w w' := by
  obtain ⟨rg, xs⟩ := x
  obtain ⟨tot, htot⟩ : ∃ t, t = (Prg.mk rg xs).total := ⟨_, rfl⟩
  rw [← htot]
  unfold Prg.total at htot
  simp only [] at htot
  obtain ⟨W0, hW0⟩ : ∃ W0, w.alloc (Obj.cells #[.slice p rg.length c, .slice q xs.length d] 39) = W0 := ⟨_, rfl⟩
  have HW0 := Lib.hid (show Below w.heap.size w W0 by rw [← hW0]; exact (Below.refl _ w).alloc (Nat.le_refl _) _)
  have HX0 := Lib.hid (fun w1 hb => cells_later (w0 := W0) (w1 := w1) (b := w.heap.size) (A := #[.slice p rg.length c, .slice q xs.length d]) (t := 39) (by rw [← hW0]; exact heap_alloc_new w _) hb)
  have R1 := Lib.hid (show RowIn w.heap.size (Rgn.At w) 4 rg p from h.1.imp hN fun _ _ _ _ h => h)
  have S1 := Lib.hid (show RowIn N (Fnc.At w N) 5 xs q from h.2)
  have hm3 : rg.length ≤ 140737488355328 := h.1.1
  have hm4 : xs.length ≤ 140737488355328 := h.2.1
  have HXN := Lib.hid hN
  clear h hN
  show Calls _ _ #[.agg #[.slice p rg.length c, .slice q xs.length d], .int .i64 M] w _
  obtain ⟨v0, hv0e⟩ : ∃ v, v = rg.length + xs.length := ⟨_, rfl⟩
  have hw0 : IntKind.i64.wrap ((rg.length : Int) + (xs.length : Int)) = (v0 : Int) := by rw [IntWalk.i64_in _ (by omega)]; omega
  have hw1 : (rg.length : Int) + (xs.length : Int) = (v0 : Int) := by omega
  have hv0 : v0 ≤ 300000000000000 := by omega
  have hE0 := Lib.hid (show Cnt M tot v0 (rgnsT rg + (fnsT xs)) by
    unfold Cnt
    by_cases hz : v0 ≤ M
    · left; omega
    · right; omega)
  have gz0 : W0.cell? ⟨w.heap.size, 0, none⟩ = some (.slice p rg.length c) := HX0.out _ (Below.refl _ _) 0 _ rfl
  have gz1 : W0.cell? ⟨w.heap.size, 1, none⟩ = some (.slice q xs.length d) := HX0.out _ (Below.refl _ _) 1 _ rfl
  clear hv0e htot
  go_enter Tryz.func16, Tryz.ntmps16
  go_upto_block 0 with fail
  go_cut [5, 6] from 19 to 40 (fun s5 s9 wx => ∃ v2 j : Nat, s5 = .int .i64 v2 ∧ s9 = .int .i64 j ∧ v2 ≤ 300000000000000 ∧ Hid (Cnt M tot v2 (fnsT xs)) ∧ Hid (Below W0.heap.size W0 wx))
  case first =>
    go_wp2_with fail
    go_loopw [5, 6] (fun t i wx => ∃ (ds rs : List Rgn) (v2 : Nat), t = .int .i64 v2 ∧ i = .int .i64 ds.length ∧ Hid (rg = ds ++ rs) ∧ ds.length + rs.length = rg.length ∧ v2 ≤ 300000000000000 ∧ Hid (Cnt M tot v2 (rgnsT rs + (fnsT xs))) ∧ Hid (Below W0.heap.size W0 wx)) (fun _ i _ => rg.length - (intOf i).toNat)
    case atStart => exact ⟨[], rg, v0, rfl, rfl, Lib.hid rfl, by simp, hv0, hE0, Lib.hid (Below.refl _ _)⟩
    case round =>
      obtain ⟨ds, rs, v2, rfl, rfl, EN, hk2, hv2, hE2, HB2⟩ := hrel
      have gx2 : wr.cell? ⟨w.heap.size, 0, none⟩ = some (.slice p rg.length c) := HX0.out _ HB2.out _ _ rfl
      have hm2 : rg.length ≤ 140737488355328 := R1.out.1
      cases rs with
      | nil =>
        simp only [List.length_nil] at hk2
        have hge2 : ¬ ds.length < rg.length := by omega
        go_wp2_with fail
        go_meet
        exact ⟨v2, _, rfl, rfl, hv2, Lib.hid (by have := hE2.out; simpa [rgnsT] using this), HB2⟩
      | cons y rs =>
        simp only [List.length_cons] at hk2
        have hlt2 : ds.length < rg.length := by omega
        by_cases hM2 : v2 ≤ M
        · rcases R1.out.2 with h30 | ⟨b3, o3, hp3, hb3, ha3⟩
          · omega
          rw [EN.out] at ha3
          have g3 : wr.cell? ⟨b3, o3 + ds.length * 4, none⟩ = some (.string (str y.name)) := (HB2.out.cell (show b3 < W0.heap.size by have := HW0.out.size; omega)).trans ((HW0.out.cell hb3).trans (by have := (Row.drop _ _ _ ha3).1; exact this.1))
          rw [hp3] at gx2
          have HN2 := Lib.hid (fun w => rname_nat y.name M hM w)
          have hn2 : 1 + min y.name.length M ≤ M + 1 := by omega
          have hc2 : (1 + min y.name.length M ≤ M ∧ 1 + y.name.length = 1 + min y.name.length M) ∨ (M < 1 + min y.name.length M ∧ M < 1 + y.name.length) := by omega
          generalize 1 + min y.name.length M = n2 at HN2 hn2 hc2
          obtain ⟨m2, hme⟩ : ∃ m, m = v2 + n2 := ⟨_, rfl⟩
          have HM2 := Lib.hid hme
          have hwr : IntKind.i64.wrap ((v2 : Int) + (n2 : Int)) = (m2 : Int) := by rw [hme]; exact wrap_add v2 n2 (by omega)
          have hw2 : (v2 : Int) + (n2 : Int) = (m2 : Int) := by omega
          have HH := Lib.hid hp3
          have HE3 := Lib.hid (show Cnt M tot m2 (rgnsT rs + (fnsT xs)) by have := hE2.out; unfold Cnt at *; simp only [rgnsT] at this; omega)
          have hmb : m2 ≤ 300000000000000 := by omega
          clear ha3 hme hp3 hc2
          go_wp2_with fail
          refine (HN2.out _).mono ?_
          rintro z w' ⟨rfl, rfl⟩
          go_wp2_with fail
          go_roundw
          case rel => exact ⟨ds ++ [y], rs, m2, rfl, by rw [List.length_append]; go_num, Lib.hid (by rw [EN.out]; simp), by simp; omega, hmb, HE3, HB2⟩
          case measure => simp [intOf]; omega
        · go_wp2_with fail
          go_meet
          exact ⟨v2, _, rfl, rfl, hv2, Lib.hid (by have := hE2.out; unfold Cnt at *; simp only [rgnsT] at this; omega), HB2⟩
  case rest =>
    obtain ⟨v1, j1, rfl, rfl, hv1, hE1, hB1⟩ := hcut
    clear hE0
    go_wp2_with fail
    go_loopw [5, 7] (fun t i wx => ∃ (ds rs : List Fnc) (v2 : Nat), t = .int .i64 v2 ∧ i = .int .i64 ds.length ∧ Hid (xs = ds ++ rs) ∧ ds.length + rs.length = xs.length ∧ v2 ≤ 300000000000000 ∧ Hid (Cnt M tot v2 (fnsT rs)) ∧ Hid (Below W0.heap.size W0 wx)) (fun _ i _ => xs.length - (intOf i).toNat)
    case atStart => exact ⟨[], xs, v1, rfl, rfl, Lib.hid rfl, by simp, hv1, hE1, hB1⟩
    case round =>
      clear hB1 hE1
      obtain ⟨ds, rs, v2, rfl, rfl, E1, hk2, hv2, hE2, hBr⟩ := hrel
      have gx1 : wr.cell? ⟨w.heap.size, 1, none⟩ = some (.slice q xs.length d) := HX0.out _ hBr.out _ _ rfl
      have hm2 : xs.length ≤ 140737488355328 := S1.out.1
      cases rs with
      | nil =>
        simp only [List.length_nil] at hk2
        have hge2 : ¬ ds.length < xs.length := by omega
        have hb : decide (M < tot) = decide (M < v2) := by have := hE2.out; unfold Cnt at this; simp only [fnsT] at this; rcases this with ⟨a, b⟩ | ⟨a, b⟩ <;> (rw [decide_eq_decide]; omega)
        have HV := Lib.hid hb
        clear hb
        go_wp2_with fail
        go_ret
        exact ⟨ret_bool (by rw [HV.out]), HW0.out.trans (hBr.out.mono HW0.out.size)⟩
      | cons y rs =>
        simp only [List.length_cons] at hk2
        have hlt2 : ds.length < xs.length := by omega
        by_cases hM2 : v2 ≤ M
        · rcases S1.out.2 with h30 | ⟨b1, o1, rfl, hb1, ha1⟩
          · omega
          rw [E1.out] at ha1
          obtain ⟨wo, rfl⟩ : ∃ wo : World, wo = wr := ⟨_, rfl⟩
          have HBww := HW0.out.trans (hBr.out.mono HW0.out.size)
          obtain ⟨s, c1, ok1⟩ := Fnc.At.openP (Fnc.At.later (HBww.mono HXN.out) (Nat.le_trans HXN.out HBww.size) y b1 _ hb1 (Row.drop _ _ _ ha1).1)
          have hbl : b1 < wo.heap.size := by have := HBww.size; have := HXN.out; omega
          obtain ⟨A1, hA1⟩ : ∃ A1, y.cells s = A1 := ⟨_, rfl⟩
          have HZ1 := Lib.hid (show A1.size = 5 by rw [← hA1]; rfl)
          have HO1 := Lib.hid (show A1.all (·.oneCell') = true by rw [← hA1]; exact oneFnc _ _)
          have F1 := Lib.hid (show wo.rangeAt b1 (o1 + ds.length * 5) A1.toList from fun j z hz => c1 j z (by rw [hA1, ← Array.getElem?_toList]; exact hz))
          have HI1 := Lib.hid (infoFnc.trans (by rw [HZ1.out]) : (Tryz.prog.info? 49).map (·.size) = some A1.size)
          obtain ⟨W1, hW1⟩ : ∃ W1, wo.alloc (Obj.cells A1 49) = W1 := ⟨_, rfl⟩
          have HWr := Lib.hid (show Below wo.heap.size wo W1 by rw [← hW1]; exact (Below.refl _ wo).alloc (Nat.le_refl _) _)
          have HXA := Lib.hid (fun w1 hb => cells_later (w0 := W1) (w1 := w1) (b := wo.heap.size) (A := A1) (t := 49) (by rw [← hW1]; exact heap_alloc_new wo _) hb)
          obtain ⟨nm, ps, vs, rt, bd⟩ := y
          have HXC := Lib.hid (show ∀ w1, Below W1.heap.size W1 w1 → ∀ j z, (#[.string (str nm), .slice s.pp ps.length s.cp, .slice s.pv vs.length s.cv, .slice s.pr rt.length s.cr, .slice s.pb bd.len s.cb] : Array Value)[j]? = some z → w1.cell? ⟨wo.heap.size, j, none⟩ = some z from fun w1 hb j z hz => HXA.out w1 hb j z (by rw [← hA1]; exact hz))
          have HOK := Lib.hid (show (Fnc.mk nm ps vs rt bd).Ok wo wo.heap.size s from ok1)
          have HR1 := Lib.hid (show RowIn wo.heap.size (Vr.At wo) 4 ps s.pp from ok1.1)
          have HR2 := Lib.hid (show RowIn wo.heap.size (Vr.At wo) 4 vs s.pv from ok1.2.1)
          have HR3 := Lib.hid (show RowIn wo.heap.size (StrAt wo) 1 rt s.pr from ok1.2.2.1.2)
          have gx0 : W1.cell? ⟨wo.heap.size, 0, none⟩ = some (.string (str nm)) := HXC.out _ (Below.refl _ _) 0 _ rfl
          have HN := Lib.hid (fun w => rname_nat nm M hM w)
          have hn1 : 1 + min nm.length M ≤ M + 1 := by omega
          have hc1 : (1 + min nm.length M ≤ M ∧ 1 + nm.length = 1 + min nm.length M) ∨ (M < 1 + min nm.length M ∧ M < 1 + nm.length) := by omega
          generalize 1 + min nm.length M = n1 at HN hn1 hc1
          obtain ⟨m6, hme⟩ : ∃ m, m = v2 + n1 := ⟨_, rfl⟩
          have HM6 := Lib.hid hme
          have hwr6 : IntKind.i64.wrap ((v2 : Int) + (n1 : Int)) = (m6 : Int) := by rw [hme]; exact wrap_add v2 n1 (by omega)
          have hw6 : (v2 : Int) + (n1 : Int) = (m6 : Int) := by omega
          have hv6 : m6 ≤ 2 * M + 1 := by omega
          have hE6 := Lib.hid (show Cnt M tot m6 (vrsT ps + (vrsT vs + (strsT rt + (bd.total + fnsT rs)))) by have := hE2.out; unfold Cnt at *; simp only [fnsT, Fnc.total] at this; omega)
          have hB6 := Lib.hid (Below.refl W1.heap.size W1)
          obtain ⟨rs0, rfl⟩ : ∃ r, r = rs := ⟨_, rfl⟩
          clear ok1 HXA hA1 c1 ha1 hme hc1 HBww hE2
          go_wp2_with (first | (refine wpl_load rfl 49 _ rfl b1 (o1 + ds.length * 5) rfl A1 _ F1.out Tryz.underlying49 rfl HI1.out ?_) | (refine wpl_store_new rfl 49 _ _ rfl _ A1 _ rfl rfl (by rw [HZ1.out]; rfl) HI1.out HO1.out ?_))
          refine (HN.out _).mono ?_
          rintro z w' ⟨rfl, rfl⟩
          go_upto_block 4 with fail
          go_cut [5, 9] from 64 to 85 (fun s5 s9 wx => ∃ v2 j : Nat, s5 = .int .i64 v2 ∧ s9 = .int .i64 j ∧ v2 ≤ (2 * M + 1) ∧ Hid (Cnt M tot v2 (vrsT vs + (strsT rt + (bd.total + fnsT rs0)))) ∧ Hid (Below W1.heap.size W1 wx))
          case first =>
            go_wp2_with fail
            go_loopw [5, 9] (fun t i wx => ∃ (ds rs : List Vr) (v2 : Nat), t = .int .i64 v2 ∧ i = .int .i64 ds.length ∧ Hid (ps = ds ++ rs) ∧ ds.length + rs.length = ps.length ∧ v2 ≤ (2 * M + 1) ∧ Hid (Cnt M tot v2 (vrsT rs + (vrsT vs + (strsT rt + (bd.total + fnsT rs0))))) ∧ Hid (Below W1.heap.size W1 wx)) (fun _ i _ => ps.length - (intOf i).toNat)
            case atStart => exact ⟨[], ps, m6, rfl, rfl, Lib.hid rfl, by simp, hv6, hE6, hB6⟩
            case round =>
              obtain ⟨ds, rs, v2, rfl, rfl, EN, hk2, hv2, hE2, HB2⟩ := hrel
              have gx2 : wr.cell? ⟨wo.heap.size, 1, none⟩ = some (.slice s.pp ps.length s.cp) := HXC.out _ HB2.out _ _ rfl
              have hm2 : ps.length ≤ 140737488355328 := HR1.out.1
              cases rs with
              | nil =>
                simp only [List.length_nil] at hk2
                have hge2 : ¬ ds.length < ps.length := by omega
                go_wp2_with fail
                go_meet
                exact ⟨v2, _, rfl, rfl, hv2, Lib.hid (by have := hE2.out; simpa [vrsT] using this), HB2⟩
              | cons y rs =>
                simp only [List.length_cons] at hk2
                have hlt2 : ds.length < ps.length := by omega
                by_cases hM2 : v2 ≤ M
                · rcases HR1.out.2 with h30 | ⟨b3, o3, hp3, hb3, ha3⟩
                  · omega
                  rw [EN.out] at ha3
                  have g3 : wr.cell? ⟨b3, o3 + ds.length * 4, none⟩ = some (.string (str y.name)) := (HB2.out.cell (show b3 < W1.heap.size by have := HWr.out.size; omega)).trans ((HWr.out.cell hb3).trans (by have := (Row.drop _ _ _ ha3).1; exact this.1))
                  rw [hp3] at gx2
                  have HN2 := Lib.hid (fun w => rname_nat y.name M hM w)
                  have hn2 : 1 + min y.name.length M ≤ M + 1 := by omega
                  have hc2 : (1 + min y.name.length M ≤ M ∧ 1 + y.name.length = 1 + min y.name.length M) ∨ (M < 1 + min y.name.length M ∧ M < 1 + y.name.length) := by omega
                  generalize 1 + min y.name.length M = n2 at HN2 hn2 hc2
                  obtain ⟨m2, hme⟩ : ∃ m, m = v2 + n2 := ⟨_, rfl⟩
                  have HM2 := Lib.hid hme
                  have hwr : IntKind.i64.wrap ((v2 : Int) + (n2 : Int)) = (m2 : Int) := by rw [hme]; exact wrap_add v2 n2 (by omega)
                  have hw2 : (v2 : Int) + (n2 : Int) = (m2 : Int) := by omega
                  have HH := Lib.hid hp3
                  have HE3 := Lib.hid (show Cnt M tot m2 (vrsT rs + (vrsT vs + (strsT rt + (bd.total + fnsT rs0)))) by have := hE2.out; unfold Cnt at *; simp only [vrsT] at this; omega)
                  have hmb : m2 ≤ (2 * M + 1) := by omega
                  clear ha3 hme hp3 hc2
                  go_wp2_with fail
                  refine (HN2.out _).mono ?_
                  rintro z w' ⟨rfl, rfl⟩
                  go_wp2_with fail
                  go_roundw
                  case rel => exact ⟨ds ++ [y], rs, m2, rfl, by rw [List.length_append]; go_num, Lib.hid (by rw [EN.out]; simp), by simp; omega, hmb, HE3, HB2⟩
                  case measure => simp [intOf]; omega
                · go_wp2_with fail
                  go_meet
                  exact ⟨v2, _, rfl, rfl, hv2, Lib.hid (by have := hE2.out; unfold Cnt at *; simp only [vrsT] at this; omega), HB2⟩
          case rest =>
            obtain ⟨v7, j7, rfl, rfl, hv7, hE7, hB7⟩ := hcut
            clear hE6
            go_upto_block 6 with fail
            go_cut [5, 10] from 86 to 107 (fun s5 s9 wx => ∃ v2 j : Nat, s5 = .int .i64 v2 ∧ s9 = .int .i64 j ∧ v2 ≤ (2 * M + 1) ∧ Hid (Cnt M tot v2 (strsT rt + (bd.total + fnsT rs0))) ∧ Hid (Below W1.heap.size W1 wx))
            case first =>
              go_wp2_with fail
              go_loopw [5, 10] (fun t i wx => ∃ (ds rs : List Vr) (v2 : Nat), t = .int .i64 v2 ∧ i = .int .i64 ds.length ∧ Hid (vs = ds ++ rs) ∧ ds.length + rs.length = vs.length ∧ v2 ≤ (2 * M + 1) ∧ Hid (Cnt M tot v2 (vrsT rs + (strsT rt + (bd.total + fnsT rs0)))) ∧ Hid (Below W1.heap.size W1 wx)) (fun _ i _ => vs.length - (intOf i).toNat)
              case atStart => exact ⟨[], vs, v7, rfl, rfl, Lib.hid rfl, by simp, hv7, hE7, hB7⟩
              case round =>
                obtain ⟨ds, rs, v2, rfl, rfl, EN, hk2, hv2, hE2, HB2⟩ := hrel
                have gx2 : wr.cell? ⟨wo.heap.size, 2, none⟩ = some (.slice s.pv vs.length s.cv) := HXC.out _ HB2.out _ _ rfl
                have hm2 : vs.length ≤ 140737488355328 := HR2.out.1
                cases rs with
                | nil =>
                  simp only [List.length_nil] at hk2
                  have hge2 : ¬ ds.length < vs.length := by omega
                  go_wp2_with fail
                  go_meet
                  exact ⟨v2, _, rfl, rfl, hv2, Lib.hid (by have := hE2.out; simpa [vrsT] using this), HB2⟩
                | cons y rs =>
                  simp only [List.length_cons] at hk2
                  have hlt2 : ds.length < vs.length := by omega
                  by_cases hM2 : v2 ≤ M
                  · rcases HR2.out.2 with h30 | ⟨b3, o3, hp3, hb3, ha3⟩
                    · omega
                    rw [EN.out] at ha3
                    have g3 : wr.cell? ⟨b3, o3 + ds.length * 4, none⟩ = some (.string (str y.name)) := (HB2.out.cell (show b3 < W1.heap.size by have := HWr.out.size; omega)).trans ((HWr.out.cell hb3).trans (by have := (Row.drop _ _ _ ha3).1; exact this.1))
                    rw [hp3] at gx2
                    have HN2 := Lib.hid (fun w => rname_nat y.name M hM w)
                    have hn2 : 1 + min y.name.length M ≤ M + 1 := by omega
                    have hc2 : (1 + min y.name.length M ≤ M ∧ 1 + y.name.length = 1 + min y.name.length M) ∨ (M < 1 + min y.name.length M ∧ M < 1 + y.name.length) := by omega
                    generalize 1 + min y.name.length M = n2 at HN2 hn2 hc2
                    obtain ⟨m2, hme⟩ : ∃ m, m = v2 + n2 := ⟨_, rfl⟩
                    have HM2 := Lib.hid hme
                    have hwr : IntKind.i64.wrap ((v2 : Int) + (n2 : Int)) = (m2 : Int) := by rw [hme]; exact wrap_add v2 n2 (by omega)
                    have hw2 : (v2 : Int) + (n2 : Int) = (m2 : Int) := by omega
                    have HH := Lib.hid hp3
                    have HE3 := Lib.hid (show Cnt M tot m2 (vrsT rs + (strsT rt + (bd.total + fnsT rs0))) by have := hE2.out; unfold Cnt at *; simp only [vrsT] at this; omega)
                    have hmb : m2 ≤ (2 * M + 1) := by omega
                    clear ha3 hme hp3 hc2
                    go_wp2_with fail
                    refine (HN2.out _).mono ?_
                    rintro z w' ⟨rfl, rfl⟩
                    go_wp2_with fail
                    go_roundw
                    case rel => exact ⟨ds ++ [y], rs, m2, rfl, by rw [List.length_append]; go_num, Lib.hid (by rw [EN.out]; simp), by simp; omega, hmb, HE3, HB2⟩
                    case measure => simp [intOf]; omega
                  · go_wp2_with fail
                    go_meet
                    exact ⟨v2, _, rfl, rfl, hv2, Lib.hid (by have := hE2.out; unfold Cnt at *; simp only [vrsT] at this; omega), HB2⟩
            case rest =>
              obtain ⟨v8, j8, rfl, rfl, hv8, hE8, hB8⟩ := hcut
              clear hE7 hB7
              go_upto_block 8 with fail
              go_cut [5, 11] from 108 to 128 (fun s5 s9 wx => ∃ v2 j : Nat, s5 = .int .i64 v2 ∧ s9 = .int .i64 j ∧ v2 ≤ (2 * M + 1) ∧ Hid (Cnt M tot v2 (bd.total + fnsT rs0)) ∧ Hid (Below W1.heap.size W1 wx))
              case first =>
                go_wp2_with fail
                go_loopw [5, 11] (fun t i wx => ∃ (ds rs : List (List UInt8)) (v2 : Nat), t = .int .i64 v2 ∧ i = .int .i64 ds.length ∧ Hid (rt = ds ++ rs) ∧ ds.length + rs.length = rt.length ∧ v2 ≤ (2 * M + 1) ∧ Hid (Cnt M tot v2 (strsT rs + (bd.total + fnsT rs0))) ∧ Hid (Below W1.heap.size W1 wx)) (fun _ i _ => rt.length - (intOf i).toNat)
                case atStart => exact ⟨[], rt, v8, rfl, rfl, Lib.hid rfl, by simp, hv8, hE8, hB8⟩
                case round =>
                  obtain ⟨ds, rs, v2, rfl, rfl, EN, hk2, hv2, hE2, HB2⟩ := hrel
                  have gx2 : wr.cell? ⟨wo.heap.size, 3, none⟩ = some (.slice s.pr rt.length s.cr) := HXC.out _ HB2.out _ _ rfl
                  have hm2 : rt.length ≤ 140737488355328 := HR3.out.1
                  cases rs with
                  | nil =>
                    simp only [List.length_nil] at hk2
                    have hge2 : ¬ ds.length < rt.length := by omega
                    go_wp2_with fail
                    go_meet
                    exact ⟨v2, _, rfl, rfl, hv2, Lib.hid (by have := hE2.out; simpa [strsT] using this), HB2⟩
                  | cons y rs =>
                    simp only [List.length_cons] at hk2
                    have hlt2 : ds.length < rt.length := by omega
                    by_cases hM2 : v2 ≤ M
                    · rcases HR3.out.2 with h30 | ⟨b3, o3, hp3, hb3, ha3⟩
                      · omega
                      rw [EN.out] at ha3
                      have g3 : wr.cell? ⟨b3, o3 + ds.length, none⟩ = some (.string (str y)) := (HB2.out.cell (show b3 < W1.heap.size by have := HWr.out.size; omega)).trans ((HWr.out.cell hb3).trans (by have := (Row.drop _ _ _ ha3).1; rw [Nat.mul_one] at this; exact this))
                      rw [hp3] at gx2
                      have HN2 := Lib.hid (fun w => rname_nat y M hM w)
                      have hn2 : 1 + min y.length M ≤ M + 1 := by omega
                      have hc2 : (1 + min y.length M ≤ M ∧ 1 + y.length = 1 + min y.length M) ∨ (M < 1 + min y.length M ∧ M < 1 + y.length) := by omega
                      generalize 1 + min y.length M = n2 at HN2 hn2 hc2
                      obtain ⟨m2, hme⟩ : ∃ m, m = v2 + n2 := ⟨_, rfl⟩
                      have HM2 := Lib.hid hme
                      have hwr : IntKind.i64.wrap ((v2 : Int) + (n2 : Int)) = (m2 : Int) := by rw [hme]; exact wrap_add v2 n2 (by omega)
                      have hw2 : (v2 : Int) + (n2 : Int) = (m2 : Int) := by omega
                      have HH := Lib.hid hp3
                      have HE3 := Lib.hid (show Cnt M tot m2 (strsT rs + (bd.total + fnsT rs0)) by have := hE2.out; unfold Cnt at *; simp only [strsT] at this; omega)
                      have hmb : m2 ≤ (2 * M + 1) := by omega
                      clear ha3 hme hp3 hc2
                      go_wp2_with fail
                      refine (HN2.out _).mono ?_
                      rintro z w' ⟨rfl, rfl⟩
                      go_wp2_with fail
                      go_roundw
                      case rel => exact ⟨ds ++ [y], rs, m2, rfl, by rw [List.length_append]; go_num, Lib.hid (by rw [EN.out]; simp), by simp; omega, hmb, HE3, HB2⟩
                      case measure => simp [intOf]; omega
                    · go_wp2_with fail
                      go_meet
                      exact ⟨v2, _, rfl, rfl, hv2, Lib.hid (by have := hE2.out; unfold Cnt at *; simp only [strsT] at this; omega), HB2⟩
              case rest =>
                obtain ⟨v9, j9, rfl, rfl, hv9, hE9, hB9⟩ := hcut
                clear hE8 hB8
                have gx4 : wc.cell? ⟨wo.heap.size, 4, none⟩ = some (.slice s.pb bd.len s.cb) := HXC.out _ hB9.out 4 _ rfl
                have HC := Lib.hid (count_any bd M hM s.pb s.cb wo.heap.size wc (Sts.In.later HOK.out.2.2.2 (HWr.out.trans (hB9.out.mono HWr.out.size)) (Nat.le_refl _)) (HWr.out.trans (hB9.out.mono HWr.out.size)).size)
                go_wp2_with fail
                refine HC.out.mono ?_
                rintro z w9 ⟨⟨n9, rfl, hn9, hc9⟩, hB⟩
                obtain ⟨m9, hme⟩ : ∃ m, m = v9 + n9 := ⟨_, rfl⟩
                have hwr : IntKind.i64.wrap ((v9 : Int) + (n9 : Int)) = (m9 : Int) := by rw [hme]; exact wrap_add v9 n9 (by omega)
                have hw9 : (v9 : Int) + (n9 : Int) = (m9 : Int) := by omega
                have hv10 : m9 ≤ 300000000000000 := by omega
                have HE10 := Lib.hid (show Cnt M tot m9 (fnsT rs0) by have := hE9.out; unfold Cnt at *; omega)
                have HB10 := Lib.hid (hBr.out.trans ((HWr.out.trans ((hB9.out.trans (hB.mono hB9.out.size)).mono HWr.out.size)).mono hBr.out.size))
                clear hB hme hc9 HC
                go_wp2_with fail
                go_roundw
                case rel => exact ⟨ds ++ [Fnc.mk nm ps vs rt bd], rs0, m9, rfl, by rw [List.length_append]; go_num, Lib.hid (by rw [E1.out]; simp), by simp; omega, hv10, HE10, HB10⟩
                case measure => simp [intOf]; omega
        · have hb : decide (M < tot) = decide (M < v2) := by have := hE2.out; unfold Cnt at this; rcases this with ⟨a, b⟩ | ⟨a, b⟩ <;> (rw [decide_eq_decide]; omega)
          have HV := Lib.hid hb
          clear hb
          go_wp2_with fail
          go_ret
          exact ⟨ret_bool (by rw [HV.out]), HW0.out.trans (hBr.out.mono HW0.out.size)⟩
end Go.Proofs.YtlhbledakddbbaaGreatDoor
/- Bounds of what is short; the text of any short program. -/
namespace Go.Proofs.YtlhbledakddbbaaGreatDoor
open Go.RowKit

theorem vrsT_len (l : List Vr) : l.length ≤ vrsT l := by
  induction l with
  | nil => exact Nat.le_refl _
  | cons x r ih => simp only [List.length_cons, vrsT]; omega
theorem vrsT_mem {l : List Vr} {v : Vr} (h : v ∈ l) : v.name.length ≤ vrsT l := by
  induction l with
  | nil => cases h
  | cons x r ih =>
    simp only [vrsT]
    rcases List.mem_cons.1 h with rfl | h
    · omega
    · have := ih h; omega
theorem rgnsT_mem {l : List Rgn} {v : Rgn} (h : v ∈ l) : v.name.length ≤ rgnsT l := by
  induction l with
  | nil => cases h
  | cons x r ih =>
    simp only [rgnsT]
    rcases List.mem_cons.1 h with rfl | h
    · omega
    · have := ih h; omega
theorem fnsT_mem {l : List Fnc} {f : Fnc} (h : f ∈ l) : f.total ≤ fnsT l := by
  induction l with
  | nil => cases h
  | cons x r ih =>
    simp only [fnsT]
    rcases List.mem_cons.1 h with rfl | h
    · omega
    · have := ih h; omega
theorem secT_len (s : Bool) : (secT s).length ≤ 7 := by cases s <;> decide
theorem params_len (l : List Vr) : sumL (l.map Vr.param) ≤ 10 * vrsT l := by
  induction l with
  | nil => exact Nat.le_refl _
  | cons x r ih =>
    have := secT_len x.secret
    simp only [List.map_cons, sumL, vrsT, Vr.param, List.length_append]; omega
theorem dec_int {z : Int} (h : z ≤ 9223372036854775807) : (Lib.decDigits z.toNat).length ≤ 20 := dec_len (by omega)
theorem Rgn.line_len {r : Rgn} (h : r.fit) : r.line.length ≤ 100 + r.name.length := by
  have h1 := dec_int h.1.2
  have h2 := dec_int h.2.2
  have h3 := secT_len r.secret
  simp only [Rgn.line, List.length_append, List.length_cons, List.length_nil]; omega
theorem Vr.line_len {v : Vr} (h : v.fit) : v.line.length ≤ 100 + v.name.length := by
  have h2 := dec_int h.2
  have h3 := secT_len v.secret
  have h4 : v.word.length ≤ 6 := by unfold Vr.word; split <;> decide
  unfold Vr.line
  split <;> (simp only [List.length_append, List.length_cons, List.length_nil]; omega)
theorem Fnc.head_len (f : Fnc) : f.head.length ≤ 100 + 10 * f.total := by
  have h1 := joinL_len (f.params.map Vr.param)
  have h2 := params_len f.params
  have h3 := joinL_len f.rets
  have h4 := sumL_strs f.rets
  unfold Fnc.head Fnc.total
  split <;> (simp only [List.length_append, List.length_cons, List.length_nil]; omega)
/-- the lines of a short program that may be told: how far in, how long -/
theorem Prg.lines_len {x : Prg} {N : Nat} {w : World} {p q : Option Addr} (hok : x.Ok w N p q) (hfit : x.fit) (ht : x.total ≤ 5000) (hm : x.may = true) : ∀ y ∈ x.lines, y.1 ≤ 1000 ∧ y.2.length ≤ 1000000 := by
  intro y hy
  unfold Prg.total at ht
  rcases List.mem_append.1 hy with hy | hy
  · obtain ⟨r, hr, rfl⟩ := List.mem_map.1 hy
    have h1 := Rgn.line_len (hfit.1 r hr)
    have h2 := rgnsT_mem hr
    exact ⟨Nat.zero_le _, by simp only []; omega⟩
  · obtain ⟨f, hf, hy⟩ := List.mem_flatMap.1 hy
    have hft := fnsT_mem hf
    have hmf := by
      unfold Prg.may at hm
      rw [Bool.and_eq_true] at hm
      exact List.all_eq_true.1 hm.2 f hf
    have hd := can_deep hmf
    unfold Fnc.lines at hy
    rcases List.mem_cons.1 hy with rfl | hy
    · have := Fnc.head_len f
      exact ⟨Nat.zero_le _, by simp only []; omega⟩
    · rcases List.mem_append.1 hy with hy | hy
      · obtain ⟨v, hv, rfl⟩ := List.mem_map.1 hy
        have h1 := Vr.line_len ((hfit.2 f hf).2 v hv)
        have h2 := vrsT_mem hv
        unfold Fnc.total at hft
        exact ⟨by simp only []; omega, by simp only []; omega⟩
      · rcases List.mem_append.1 hy with hy | hy
        · have hfn : f.body.fine := by
            rcases hok.2.2 with h0 | ⟨b, o, _, _, hr⟩
            · have : x.fns = [] := List.length_eq_zero_iff.1 h0
              rw [this] at hf; cases hf
            · obtain ⟨i, hi⟩ := List.getElem?_of_mem hf
              obtain ⟨s, _, ok⟩ := (hr.get hi).open
              exact ok.2.2.2.fine
          have h1 := Sts.lines_ok f.body 1 hfn y hy
          unfold Fnc.total at hft
          exact ⟨by have := h1.2.1; omega, by have := h1.2.2; omega⟩
        · rw [List.mem_singleton] at hy
          subst hy
          exact ⟨Nat.zero_le _, by decide⟩
/-- the text of any short program -/
theorem text_any (x : Prg) (p q : Option Addr) (c d N : Nat) (w : World) (hG : Glob w) (hok : x.Ok w N p q) (hN : N ≤ w.heap.size) (hfit : x.fit) (ht : x.total ≤ 5000) :
    Calls Tryz.prog 17 #[x.val p q c d] w fun e w' => e = .returned (.tuple #[.string (str x.out), .int .i64 (x.err : Int)]) ∧ Below w.heap.size w w' := by
  have hok' := hok.later (Below.refl N w) hN
  have h6 : ∀ f ∈ x.fns, f.body.wt ≤ 1000000 := fun f hf => by
    have h1 := Sts.wt_total f.body
    have h2 := fnsT_mem hf
    unfold Prg.total at ht
    unfold Fnc.total at h2
    omega
  by_cases hm : x.may = true
  · refine text_yes x h6 p q c d w hG hok' hm hfit (fun f hf => ?_) (Prg.lines_len hok hfit ht hm)
    have h1 := vrsT_len f.params
    have h2 := fnsT_mem hf
    unfold Prg.total at ht
    unfold Fnc.total at h2
    omega
  · exact text_no x h6 p q c d w hok' (by simpa using hm)
/-- unlike programs that can be told have unlike texts -/
theorem apart_of {x y : Prg} (hx : x.err = 0) (hy : y.err = 0) : ((str x.out).toList == (str y.out).toList) = eqB x y := by
  have hmx : x.may = true := by
    cases h : x.may with
    | true => rfl
    | false => unfold Prg.err at hx; rw [h] at hx; simp at hx
  have hmy : y.may = true := by
    cases h : y.may with
    | true => rfl
    | false => unfold Prg.err at hy; rw [h] at hy; simp at hy
  have hox : x.out = x.text := by unfold Prg.out; rw [if_pos hx]
  have hoy : y.out = y.text := by unfold Prg.out; rw [if_pos hy]
  rw [hox, hoy]
  have key := text_apart hmx hmy
  have e1 : (str x.text).toList = x.text := ByteArray.toList_mk _
  have e2 : (str y.text).toList = y.text := ByteArray.toList_mk _
  rw [e1, e2]
  by_cases h : x = y
  · rw [← eqB_true h, h]
    exact beq_self_eq_true _
  · have h1 : ¬ x.text = y.text := fun e => h (key.1 e)
    have h2 : eqB x y = false := by unfold eqB; exact @decide_eq_false _ (Classical.propDecidable _) h
    rw [h2]
    exact beq_eq_false_iff_ne.2 h1
end Go.Proofs.YtlhbledakddbbaaGreatDoor
/- The law on unlike programs' texts: its walk. -/
namespace Go.Proofs.YtlhbledakddbbaaGreatDoor
open Go.RowKit

theorem err_le (x : Prg) : x.err ≤ 3 := by unfold Prg.err; split <;> (try split) <;> omega
set_option maxRecDepth 100000 in
set_option maxHeartbeats 6400000 in
theorem apart_law (x y : Prg) (p q p' q' : Option Addr) (c d c' d' : Nat) (w : World) (hG : Glob w) (hx : x.Ok w w.heap.size p q) (hy : y.Ok w w.heap.size p' q') (fx : x.fit) (fy : y.fit) :
    Calls Tryz.prog 6 #[x.val p q c d, y.val p' q' c' d'] w fun e w' => e = .returned (.bool true) ∧ Below w.heap.size w w' := by
  obtain ⟨ra, xs⟩ := x
  obtain ⟨rb, ys⟩ := y
  have HK := Lib.hid (fun w' (h : Below w.heap.size w w') => known_any w' (hG.later h))
  have HLa := Lib.hid (fun w' (h : Below w.heap.size w w') => long_any (Prg.mk ra xs) 5000 (Nat.le_refl _) p q c d w.heap.size w' (hx.later h (Nat.le_refl _)) h.size)
  have HLb := Lib.hid (fun w' (h : Below w.heap.size w w') => long_any (Prg.mk rb ys) 5000 (Nat.le_refl _) p' q' c' d' w.heap.size w' (hy.later h (Nat.le_refl _)) h.size)
  have HTa := Lib.hid (fun (ht : (Prg.mk ra xs).total ≤ 5000) w' (h : Below w.heap.size w w') => text_any (Prg.mk ra xs) p q c d w.heap.size w' (hG.later h) (hx.later h (Nat.le_refl _)) h.size fx ht)
  have HTb := Lib.hid (fun (ht : (Prg.mk rb ys).total ≤ 5000) w' (h : Below w.heap.size w w') => text_any (Prg.mk rb ys) p' q' c' d' w.heap.size w' (hG.later h) (hy.later h (Nat.le_refl _)) h.size fy ht)
  have HRab := Lib.hid (fun w' (h : Below w.heap.size w w') => rSame_any (Prg.mk ra xs) (Prg.mk rb ys) p q p' q' c d c' d' w.heap.size w' (hx.later h (Nat.le_refl _)) (hy.later h (Nat.le_refl _)) h.size)
  have HAp := Lib.hid (@apart_of (Prg.mk ra xs) (Prg.mk rb ys))
  have ea3 := err_le (Prg.mk ra xs)
  have eb3 := err_le (Prg.mk rb ys)
  generalize (Prg.mk ra xs).err = ea at HTa HAp ea3
  generalize (Prg.mk rb ys).err = eb at HTb HAp eb3
  obtain ⟨sa, hsa⟩ : ∃ s, str (Prg.mk ra xs).out = s := ⟨_, rfl⟩
  obtain ⟨sb, hsb⟩ : ∃ s, str (Prg.mk rb ys).out = s := ⟨_, rfl⟩
  rw [hsa] at HTa HAp
  rw [hsb] at HTb HAp
  generalize eqB (Prg.mk ra xs) (Prg.mk rb ys) = v at HAp HRab
  have HTot := Lib.hid (And.intro (rfl : decide (5000 < (Prg.mk ra xs).total) = decide (5000 < (Prg.mk ra xs).total)) (rfl : decide (5000 < (Prg.mk rb ys).total) = decide (5000 < (Prg.mk rb ys).total)))
  obtain ⟨w0, hw0⟩ : ∃ w0, ((w.alloc (Obj.cells #[.slice p ra.length c, .slice q xs.length d] 39)).alloc (Obj.cells #[.slice p' rb.length c', .slice q' ys.length d'] 39)) = w0 := ⟨_, rfl⟩
  have HW0 := Lib.hid (show Below w.heap.size w w0 by rw [← hw0]; exact ((Below.refl _ w).alloc (Nat.le_refl _) _).alloc (by simp) _)
  have HX0 := Lib.hid (fun w1 hb => cells_later (w0 := w0) (w1 := w1) (b := w.heap.size) (A := #[.slice p ra.length c, .slice q xs.length d]) (t := 39) (by rw [← hw0, Below.heap_alloc _ _ _ (by simp)]; exact heap_alloc_new w _) hb)
  have HY0 := Lib.hid (fun w1 hb => cells_later (w0 := w0) (w1 := w1) (b := w.heap.size + 1) (A := #[.slice p' rb.length c', .slice q' ys.length d']) (t := 39) (by rw [← hw0]; have := heap_alloc_new (w.alloc (Obj.cells #[.slice p ra.length c, .slice q xs.length d] 39)) (Obj.cells #[.slice p' rb.length c', .slice q' ys.length d'] 39); simpa using this) hb)
  unfold Prg.val at HLa HLb HTa HTb HRab
  simp only [] at HLa HLb HTa HTb HRab
  show Calls _ _ #[.agg #[.slice p ra.length c, .slice q xs.length d], .agg #[.slice p' rb.length c', .slice q' ys.length d']] w _
  clear hx hy hG hsa hsb fx fy
  go_enter Tryz.func6, Tryz.ntmps6
  go_wp2_with fail
  refine (HK.out _ HW0.out).mono ?_
  rintro z w1 ⟨rfl, hB⟩
  have HB1 := Lib.hid (HW0.out.trans (hB.mono HW0.out.size))
  have HD1 := Lib.hid hB
  have gx0 : w1.cell? ⟨w.heap.size, 0, none⟩ = some (.slice p ra.length c) := HX0.out _ hB 0 _ rfl
  have gx1 : w1.cell? ⟨w.heap.size, 1, none⟩ = some (.slice q xs.length d) := HX0.out _ hB 1 _ rfl
  clear hB hw0
  by_cases hla : 5000 < (Prg.mk ra xs).total
  · have HLa1 := Lib.hid (HLa.out _ HB1.out)
    rw [decide_eq_true hla] at HLa1
    go_wp2_with fail
    refine HLa1.out.mono ?_
    rintro z w2 ⟨rfl, hB⟩
    have HB2 := Lib.hid (HB1.out.trans (hB.mono HB1.out.size))
    clear hB
    go_wp2_with fail
    go_ret
    exact ⟨rfl, HB2.out⟩
  have HLa1 := Lib.hid (HLa.out _ HB1.out)
  rw [decide_eq_false hla] at HLa1
  go_wp2_with fail
  refine HLa1.out.mono ?_
  rintro z w2 ⟨rfl, hB⟩
  have HB2 := Lib.hid (HB1.out.trans (hB.mono HB1.out.size))
  have HD2 := Lib.hid (HD1.out.trans (hB.mono HD1.out.size))
  have gy0 : w2.cell? ⟨w.heap.size + 1, 0, none⟩ = some (.slice p' rb.length c') := HY0.out _ HD2.out 0 _ rfl
  have gy1 : w2.cell? ⟨w.heap.size + 1, 1, none⟩ = some (.slice q' ys.length d') := HY0.out _ HD2.out 1 _ rfl
  clear hB gx0 gx1 HLa1
  by_cases hlb : 5000 < (Prg.mk rb ys).total
  · have HLb1 := Lib.hid (HLb.out _ HB2.out)
    rw [decide_eq_true hlb] at HLb1
    go_wp2_with fail
    refine HLb1.out.mono ?_
    rintro z w3 ⟨rfl, hB⟩
    have HB3 := Lib.hid (HB2.out.trans (hB.mono HB2.out.size))
    clear hB
    go_wp2_with fail
    go_ret
    exact ⟨rfl, HB3.out⟩
  have HLb1 := Lib.hid (HLb.out _ HB2.out)
  rw [decide_eq_false hlb] at HLb1
  go_wp2_with fail
  refine HLb1.out.mono ?_
  rintro z w3 ⟨rfl, hB⟩
  have HB3 := Lib.hid (HB2.out.trans (hB.mono HB2.out.size))
  have HD3 := Lib.hid (HD2.out.trans (hB.mono HD2.out.size))
  have gx0 : w3.cell? ⟨w.heap.size, 0, none⟩ = some (.slice p ra.length c) := HX0.out _ HD3.out 0 _ rfl
  have gx1 : w3.cell? ⟨w.heap.size, 1, none⟩ = some (.slice q xs.length d) := HX0.out _ HD3.out 1 _ rfl
  clear hB gy0 gy1 HLb1 HLa HLb
  go_wp2_with fail
  refine (HTa.out (by omega) _ HB3.out).mono ?_
  rintro z w4 ⟨rfl, hB⟩
  have HB4 := Lib.hid (HB3.out.trans (hB.mono HB3.out.size))
  have HD4 := Lib.hid (HD3.out.trans (hB.mono HD3.out.size))
  have gy0 : w4.cell? ⟨w.heap.size + 1, 0, none⟩ = some (.slice p' rb.length c') := HY0.out _ HD4.out 0 _ rfl
  have gy1 : w4.cell? ⟨w.heap.size + 1, 1, none⟩ = some (.slice q' ys.length d') := HY0.out _ HD4.out 1 _ rfl
  clear hB gx0 gx1 HTa
  go_wp2_with fail
  refine (HTb.out (by omega) _ HB4.out).mono ?_
  rintro z w5 ⟨rfl, hB⟩
  have HB5 := Lib.hid (HB4.out.trans (hB.mono HB4.out.size))
  have HD5 := Lib.hid (HD4.out.trans (hB.mono HD4.out.size))
  have gx0 : w5.cell? ⟨w.heap.size, 0, none⟩ = some (.slice p ra.length c) := HX0.out _ HD5.out 0 _ rfl
  have gx1 : w5.cell? ⟨w.heap.size, 1, none⟩ = some (.slice q xs.length d) := HX0.out _ HD5.out 1 _ rfl
  have gy0 : w5.cell? ⟨w.heap.size + 1, 0, none⟩ = some (.slice p' rb.length c') := HY0.out _ HD5.out 0 _ rfl
  have gy1 : w5.cell? ⟨w.heap.size + 1, 1, none⟩ = some (.slice q' ys.length d') := HY0.out _ HD5.out 1 _ rfl
  clear hB HTb
  go_wp2_with fail
  refine (num_any _ _).mono ?_
  rintro z w6 ⟨rfl, rfl⟩
  go_wp2_with fail
  refine (num_any _ _).mono ?_
  rintro z w6 ⟨rfl, rfl⟩
  by_cases h0 : ea + eb = 0
  · obtain rfl : ea = 0 := by omega
    obtain rfl : eb = 0 := by omega
    have hap := HAp.out rfl rfl
    go_wp2_with fail
    refine (HRab.out _ HB5.out).mono ?_
    rintro z w7 ⟨rfl, hB⟩
    have HB6 := Lib.hid (HB5.out.trans (hB.mono HB5.out.size))
    clear hB
    go_wp2_with fail
    go_ret
    exact ⟨by simp, HB6.out⟩
  · have hne : (((ea : Int) + (eb : Int)) != 0) = true := by simp; omega
    go_wp2_with fail
    go_ret
    exact ⟨rfl, HB5.out⟩
end Go.Proofs.YtlhbledakddbbaaGreatDoor
