/- Tokens apart from one another are read again, plainly. -/
import Derived.Test.YtgffiggnmklcoaaGreatDoorM2
namespace Go.Proofs.YtgffiggnmklcoaaGreatDoor

/-- a text that is one token, whole -/
def Valid (t : List UInt8) : Prop := t ≠ [] ∧ oneE t = 0 ∧ oneN t = t.length
theorem blank_part {c : UInt8} (h : isBlank c = true) : isPart c = false := by
  cases hp : isPart c with
  | false => rfl
  | true => simp [isBlank, isPart, isLet, isDig] at h hp; omega
theorem signs_noBlank : signT.all (fun x => x.all fun c => !isBlank c) = true := by decide
theorem blank_sign {x : List UInt8} {c : UInt8} (hc : isBlank c = true) (hm : c ∈ x) : x ∉ signT := fun h => by
  have h1 := List.all_eq_true.1 (List.all_eq_true.1 signs_noBlank x h) c hm
  rw [hc] at h1; cases h1
theorem takeWhile_all {f : UInt8 → Bool} {l : List UInt8} (h : l.all f = true) : l.takeWhile f = l := by
  induction l with
  | nil => rfl
  | cons x l ih =>
    rw [List.all_cons, Bool.and_eq_true] at h
    rw [List.takeWhile_cons, h.1, if_pos rfl, ih h.2]
theorem takeWhile_self {t : List UInt8} (h : runLen isPart t = t.length) : t.takeWhile isPart = t := by
  rw [takeWhile_take, h, List.take_length]
theorem takeWhile_stop {t : List UInt8} {c : UInt8} {r : List UInt8} (h : t.takeWhile isPart = t) (hc : isPart c = false) : (t ++ c :: r).takeWhile isPart = t := by
  induction t with
  | nil => simp [hc]
  | cons x t ih =>
    rw [List.takeWhile_cons] at h
    cases hx : isPart x with
    | false => rw [hx] at h; simp at h
    | true =>
      rw [hx] at h
      simp only [if_true, List.cons.injEq, true_and] at h
      rw [List.cons_append, List.takeWhile_cons, hx, if_pos rfl, ih h]
theorem signDown_at {t : List UInt8} (ht : t ∈ signT) {c : UInt8} {r : List UInt8} (hc : isBlank c = true) (m : Nat) (hm : t.length ≤ m) (hml : m ≤ (t ++ c :: r).length) (h0 : 0 < t.length) : signDown (t ++ c :: r) m = t.length := by
  induction m with
  | zero => omega
  | succ m ih =>
    by_cases e : t.length = m + 1
    · have hk : (t ++ c :: r).take (m + 1) = t := by rw [← e]; exact List.take_left
      rw [signDown, hk, if_pos ht]; exact e.symm
    · have hin : c ∈ (t ++ c :: r).take (m + 1) := by
        rw [List.take_append]
        refine List.mem_append_right _ ?_
        obtain ⟨j, hj⟩ : ∃ j, m + 1 - t.length = j + 1 := ⟨m - t.length, by omega⟩
        rw [hj, List.take_succ_cons]; exact List.mem_cons_self
      rw [signDown, if_neg (blank_sign hc hin)]
      exact ih (by omega) (by omega)
theorem signT_4 : signT.all (fun x => decide (x.length ≤ 4) && decide (0 < x.length)) = true := by decide
theorem sign_len {t : List UInt8} (h : t ∈ signT) : t.length ≤ 4 ∧ 0 < t.length := by
  have := List.all_eq_true.1 signT_4 t h
  simp only [Bool.and_eq_true, decide_eq_true_eq] at this
  exact this
theorem signLen_self {t : List UInt8} (h : t ∈ signT) : signLen t = t.length := by
  obtain ⟨h4, h0⟩ := sign_len h
  rw [signLen, Nat.min_eq_right h4]
  obtain ⟨n, hn⟩ : ∃ n, t.length = n + 1 := ⟨t.length - 1, by omega⟩
  rw [hn, signDown, if_pos (by rw [← hn, List.take_length]; exact h)]
theorem head_append {t : List UInt8} (h : t ≠ []) (r : List UInt8) : (t ++ r).headD 0 = t.headD 0 := by
  cases t with
  | nil => exact absurd rfl h
  | cons x t => rfl
theorem Valid.sign {t : List UInt8} (h : Valid t) (hp : isPart (t.headD 0) = false) : t ∈ signT := by
  obtain ⟨h0, he, hn⟩ := h
  rw [oneN, hp] at hn
  have h1 : signDown t (min 4 t.length) ≠ 0 := by
    intro e
    have e : signLen t = 0 := e
    have hn : signLen t = t.length := hn
    exact h0 (List.length_eq_zero_iff.1 (by omega))
  have := signDown_mem t _ h1
  have e : signDown t (min 4 t.length) = t.length := hn
  rw [e, List.take_length] at this
  exact this
/-- what stands behind a token: nothing, or a blank -/
def Behind (r : List UInt8) : Prop := r = [] ∨ ∃ c r', r = c :: r' ∧ isBlank c = true
theorem one_ext {t r : List UInt8} (h : Valid t) (hr : Behind r) : oneE (t ++ r) = 0 ∧ oneT (t ++ r) = t ∧ oneK (t ++ r) = oneK t ∧ oneX (t ++ r) = oneX t := by
  have hd := head_append h.1 r
  cases hp : isPart (t.headD 0) with
  | true =>
    have hrun : runLen isPart t = t.length := by have := h.2.2; rw [oneN, if_pos hp] at this; exact this
    have htw := takeWhile_self hrun
    have htr : (t ++ r).takeWhile isPart = t := by
      rcases hr with rfl | ⟨c, r', rfl, hc⟩
      · rw [List.append_nil]; exact htw
      · exact takeWhile_stop htw (blank_part hc)
    have hE := h.2.1
    unfold oneE oneT oneK oneX at *
    rw [hd, hp, htr]
    rw [hp, htw] at hE
    rw [htw]
    exact ⟨hE, rfl, rfl, rfl⟩
  | false =>
    have hs := h.sign hp
    obtain ⟨h4, h0⟩ := sign_len hs
    have hsl : signLen (t ++ r) = t.length := by
      rcases hr with rfl | ⟨c, r', rfl, hc⟩
      · rw [List.append_nil]; exact signLen_self hs
      · exact signDown_at hs hc _ (by rw [List.length_append]; omega) (by omega) h0
    unfold oneE oneT oneK oneX
    rw [hd, hp, hsl]
    refine ⟨by rw [if_neg (by decide), if_neg (by omega)], ?_, rfl, rfl⟩
    rw [if_neg (by decide)]; exact List.take_left
/-- what is read as a token is one -/
theorem one_valid {r : List UInt8} (h0 : r ≠ []) (he : oneE r = 0) : Valid (oneT r) ∧ oneK (oneT r) = oneK r ∧ oneX (oneT r) = oneX r := by
  have hN := oneN_pos h0 he
  have hT := oneT_len r
  have hne : oneT r ≠ [] := fun e => by rw [e] at hT; simp at hT; omega
  have hhd : (oneT r).headD 0 = r.headD 0 := by
    have := oneT_take r he
    rw [this]
    cases r with
    | nil => exact absurd rfl h0
    | cons x r => obtain ⟨n, hn⟩ : ∃ n, oneN (x :: r) = n + 1 := ⟨oneN (x :: r) - 1, by omega⟩; rw [hn]; rfl
  cases hp : isPart (r.headD 0) with
  | true =>
    have e : oneT r = r.takeWhile isPart := by rw [oneT, if_pos hp]
    have ht : (oneT r).takeWhile isPart = oneT r := by
      rw [e]; exact takeWhile_all (all_takeWhile isPart r)
    have hE : oneE (oneT r) = oneE r := by unfold oneE; rw [hhd, hp, if_pos rfl, if_pos rfl, ht, e]
    refine ⟨⟨hne, by rw [hE]; exact he, ?_⟩, ?_, ?_⟩
    · rw [oneN, hhd, if_pos hp, runLen, ht]
    · unfold oneK; rw [hhd, hp, if_pos rfl, if_pos rfl, ht, e]
    · unfold oneX; rw [hhd, hp, if_pos rfl, if_pos rfl, ht, e]
  | false =>
    have e : oneT r = r.take (signLen r) := by rw [oneT, hp]; rfl
    have hs : oneT r ∈ signT := by
      rw [e]; exact signDown_mem r _ (by rw [oneN, hp] at hN; exact Nat.ne_of_gt hN)
    have hl := signLen_self hs
    refine ⟨⟨hne, ?_, ?_⟩, ?_, ?_⟩
    · unfold oneE; rw [hhd, hp, if_neg (by decide), if_neg (by rw [hl]; have := sign_len hs; omega)]
    · rw [oneN, hhd, hp, if_neg (by decide)]; exact hl
    · unfold oneK; rw [hhd]
      simp only [hp]; rfl
    · unfold oneX; rw [hhd]
      simp only [hp]; rfl

/-- a token that can be read again -/
def TokOk (t : Tk) : Prop := Valid t.text ∧ t.kind = oneK t.text ∧ t.word = oneX t.text
theorem tokAt_ok {l : List UInt8} {a : Nat} (ha : a < l.length) (he : oneE (l.drop a) = 0) : TokOk (tokAt l a) := by
  have h0 : l.drop a ≠ [] := by rw [List.drop_eq_getElem_cons ha]; exact List.cons_ne_nil _ _
  obtain ⟨h1, h2, h3⟩ := one_valid h0 he
  exact ⟨h1, h2.symm, h3.symm⟩
theorem lexF_ok (l : List UInt8) (f a : Nat) : ∀ x ∈ (lexF l f a).1, TokOk x.2 := by
  induction f generalizing a with
  | zero => intro x hx; cases hx
  | succ f ih =>
    rw [lexF]
    split
    · intro x hx; cases hx
    · split
      · exact ih _
      · split
        · exact ih _
        · split
          · intro x hx; cases hx
          · rename_i ha _ _ he
            intro x hx
            rcases List.mem_cons.1 hx with rfl | hx
            · exact tokAt_ok (by omega) (by omega)
            · exact ih _ x hx

/-- from a place on all is passed over, up to another -/
def Skip (l : List UInt8) (a b : Nat) : Prop := a ≤ b ∧ ∀ f, l.length ≤ a + f → ∃ f', l.length ≤ b + f' ∧ lexF l f a = lexF l f' b
theorem Skip.refl (l : List UInt8) (a : Nat) : Skip l a a := ⟨Nat.le_refl _, fun f h => ⟨f, h, rfl⟩⟩
theorem Skip.trans {l : List UInt8} {a b c : Nat} (h : Skip l a b) (k : Skip l b c) : Skip l a c :=
  ⟨Nat.le_trans h.1 k.1, fun f hf => by
    obtain ⟨f1, h1, e1⟩ := h.2 f hf
    obtain ⟨f2, h2, e2⟩ := k.2 f1 h1
    exact ⟨f2, h2, e1.trans e2⟩⟩
theorem drop_lt {l r : List UInt8} {a : Nat} {c : UInt8} (h : l.drop a = c :: r) : a < l.length := by
  have := congrArg List.length h
  rw [List.length_drop, List.length_cons] at this; omega
theorem skip_blank {l r : List UInt8} {a : Nat} {c : UInt8} (h : l.drop a = c :: r) (hc : isBlank c = true) : Skip l a (a + 1) := by
  have ha := drop_lt h
  refine ⟨Nat.le_succ _, fun f hf => ?_⟩
  obtain ⟨g, rfl⟩ : ∃ g, f = g + 1 := ⟨f - 1, by omega⟩
  refine ⟨g, by omega, ?_⟩
  rw [lexF, if_neg (by omega), h, if_pos (show isBlank ((c :: r).headD 0) = true from hc)]
theorem drop_more {l q r : List UInt8} {a : Nat} (h : l.drop a = q ++ r) : l.drop (a + q.length) = r := by
  rw [← List.drop_drop, h]; exact List.drop_left
theorem skip_note {l n r : List UInt8} {a : Nat} (h : l.drop a = 35 :: n ++ 10 :: r) (hn : n.all isNote = true) : Skip l a (a + (35 :: n).length) := by
  have ha := drop_lt (l := l) (a := a) (c := 35) (r := n ++ 10 :: r) h
  have hr : runLen isNote (l.drop a) = (35 :: n).length := by
    rw [h, runLen]
    have : ∀ q : List UInt8, q.all isNote = true → (q ++ 10 :: r).takeWhile isNote = q := fun q hq => by
      induction q with
      | nil => rfl
      | cons x q ih =>
        rw [List.all_cons, Bool.and_eq_true] at hq
        rw [List.cons_append, List.takeWhile_cons, hq.1, if_pos rfl, ih hq.2]
    rw [this (35 :: n) (by rw [List.all_cons, hn]; rfl)]
  refine ⟨by omega, fun f hf => ?_⟩
  obtain ⟨g, rfl⟩ : ∃ g, f = g + 1 := ⟨f - 1, by omega⟩
  refine ⟨g, by simp only [List.length_cons]; omega, ?_⟩
  have hh : (l.drop a).headD 0 = 35 := by rw [h]; rfl
  rw [lexF, if_neg (by omega), hh, if_neg (by decide), if_pos (by rfl), hr]
theorem lex_token {l t r : List UInt8} {a f : Nat} (h : l.drop a = t ++ r) (ht : Valid t) (hr : Behind r) (hf : l.length ≤ a + f) :
    ∃ (f' : Nat) (k : Tk), l.length ≤ a + t.length + f' ∧ k.kind = oneK t ∧ k.text = t ∧ k.word = oneX t ∧ lexF l f a = ((a, k) :: (lexF l f' (a + t.length)).1, (lexF l f' (a + t.length)).2) := by
  obtain ⟨e1, e2, e3, e4⟩ := one_ext ht hr
  have ha : a < l.length := by
    have := congrArg List.length h
    rw [List.length_drop, List.length_append] at this
    have := List.length_pos_iff.2 ht.1
    omega
  have htl : 0 < t.length := List.length_pos_iff.2 ht.1
  obtain ⟨g, rfl⟩ : ∃ g, f = g + 1 := ⟨f - 1, by omega⟩
  have hh : (l.drop a).headD 0 = t.headD 0 := by rw [h]; exact head_append ht.1 r
  have hE := ht.2.1
  have hnb : isBlank (t.headD 0) = false := by
    cases hb : isBlank (t.headD 0) with
    | false => rfl
    | true =>
      exfalso
      have hp := blank_part hb
      have hs := ht.sign hp
      cases t with
      | nil => exact ht.1 rfl
      | cons x t => exact blank_sign hb List.mem_cons_self hs
  have hn35 : (t.headD 0).toNat ≠ 35 := by
    intro e
    have hc : t.headD 0 = 35 := UInt8.toNat_inj.1 (by rw [e]; rfl)
    have hp : isPart (t.headD 0) = false := by rw [hc]; decide
    have hs := ht.sign hp
    have : signT.all (fun x => decide (x.headD 0 ≠ 35)) = true := by decide
    have := List.all_eq_true.1 this t hs
    simp at this
    exact this (by simpa using hc)
  refine ⟨g, tokAt l a, by omega, ?_, ?_, ?_, ?_⟩
  · show oneK (l.drop a) = _; rw [h]; exact e3
  · show oneT (l.drop a) = _; rw [h]; exact e2
  · show oneX (l.drop a) = _; rw [h]; exact e4
  · rw [lexF, if_neg (by omega), hh, if_neg (by rw [hnb]; decide), if_neg hn35, h, if_neg (by rw [e1]; decide), e2]
end Go.Proofs.YtgffiggnmklcoaaGreatDoor
