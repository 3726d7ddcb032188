/- What lies between a text's tokens: blanks and notes. -/
import Derived.Test.YtgffiggnmklcoaaGreatDoorS2
import Derived.Test.YtgffiggnmklcoaaGreatDoorY2
namespace Go.Proofs.YtgffiggnmklcoaaGreatDoor
open Go.RowKit

/-- blanks and notes alone -/
inductive Gap : List UInt8 → Prop
  | nil : Gap []
  | blank (c : UInt8) (r : List UInt8) : isBlank c = true → Gap r → Gap (c :: r)
  | note (c : UInt8) (r : List UInt8) : c.toNat = 35 → Gap (r.dropWhile isNote) → Gap (c :: r)
theorem Gap.dropWhile {y : List UInt8} (h : Gap y) : Gap (y.dropWhile isNote) := by
  induction h with
  | nil => exact .nil
  | blank c r hc hr ih =>
    rw [List.dropWhile_cons]
    split
    · exact ih
    · exact .blank c r hc hr
  | note c r hc hr ih =>
    rw [List.dropWhile_cons, if_pos (by simp [isNote, hc])]
    exact hr
theorem dropWhile_app (f : UInt8 → Bool) (x y : List UInt8) : (x ++ y).dropWhile f = if x.dropWhile f = [] then y.dropWhile f else x.dropWhile f ++ y := by
  induction x with
  | nil => simp
  | cons c r ih =>
    rw [List.cons_append, List.dropWhile_cons, List.dropWhile_cons]
    cases f c
    · simp
    · simpa using ih
theorem Gap.append {x y : List UInt8} (h : Gap x) (hy : Gap y) : Gap (x ++ y) := by
  induction h with
  | nil => exact hy
  | blank c r hc _ ih => exact .blank c _ hc ih
  | note c r hc _ ih =>
    refine .note c (r ++ y) hc ?_
    rw [dropWhile_app]
    split
    · exact hy.dropWhile
    · exact ih
theorem Gap.of_notes {x : List UInt8} (c : UInt8) (hc : c.toNat = 35) (h : x.all isNote = true) : Gap (c :: x) := by
  refine .note c x hc ?_
  have e : x.dropWhile isNote = [] := by
    have hx := List.all_eq_true.1 h
    clear h
    induction x with
    | nil => rfl
    | cons d r ih => rw [List.dropWhile_cons, if_pos (hx d (by simp))]; exact ih fun y hy => hx y (by simp [hy])
  rw [e]; exact .nil
/-- what a text's tokens are, one behind the other, with gaps between -/
def Gaps (l : List UInt8) : Nat → List (Nat × Tk) → Prop
  | e, [] => Gap (l.drop e)
  | e, x :: ts => e ≤ x.1 ∧ x.1 + x.2.text.length ≤ l.length ∧ (l.drop x.1).take x.2.text.length = x.2.text ∧ Gap ((l.drop e).take (x.1 - e)) ∧ Gaps l (x.1 + x.2.text.length) ts
theorem take_more {l : List UInt8} {e a n : Nat} (he : e ≤ a) : (l.drop e).take (a + n - e) = (l.drop e).take (a - e) ++ (l.drop a).take n := by
  have h1 : a + n - e = (a - e) + n := by omega
  rw [h1, List.take_add, List.drop_drop, show e + (a - e) = a by omega]
theorem oneT_self (r : List UInt8) : (r.take (oneT r).length) = oneT r := by
  unfold oneT
  split
  · rw [takeWhile_take, List.length_take]
    apply List.take_eq_take_iff.2
    omega
  · rw [List.length_take]
    apply List.take_eq_take_iff.2
    omega
theorem lexF_gaps (l : List UInt8) (f a e : Nat) (ts : List (Nat × Tk)) (hf : l.length ≤ a + f) (he : e ≤ a) (hg : Gap ((l.drop e).take (a - e))) (h : lexF l f a = (ts, none)) : Gaps l e ts := by
  have over : l.length ≤ a → Gap (l.drop e) := fun ha => by
    have e1 : (l.drop e).take (a - e) = l.drop e := List.take_of_length_le (by rw [List.length_drop]; omega)
    rwa [e1] at hg
  induction f generalizing a e ts with
  | zero =>
    rw [lexF] at h
    obtain ⟨rfl, _⟩ := Prod.mk.inj h
    exact over (by omega)
  | succ f ih =>
    have step : ∀ n, 0 < n → Gap ((l.drop a).take n) → lexF l f (a + n) = (ts, none) → Gaps l e ts := fun n hn hG h => by
      have hG' : Gap ((l.drop e).take (a + n - e)) := by rw [take_more he]; exact hg.append hG
      exact ih (a + n) e ts (by omega) (by omega) hG' h (fun ha => by
        have e1 : (l.drop e).take (a + n - e) = l.drop e := List.take_of_length_le (by rw [List.length_drop]; omega)
        rwa [e1] at hG')
    rw [lexF] at h
    split at h
    · obtain ⟨rfl, _⟩ := Prod.mk.inj h
      exact over (by omega)
    · rename_i ha
      have hd : l.drop a = l[a] :: l.drop (a + 1) := List.drop_eq_getElem_cons (by omega)
      split at h
      · rename_i hb
        refine step 1 (by omega) ?_ h
        rw [hd] at hb ⊢
        exact .blank _ _ hb .nil
      · split at h
        · rename_i hb hn
          have hn' : l[a].toNat = 35 := by rw [hd] at hn; exact hn
          have hrl : (l.drop a).take (runLen isNote (l.drop a)) = (l.drop a).takeWhile isNote := (takeWhile_take _ _).symm
          have h35 : isNote l[a] = true := by simp [isNote, hn']
          refine step _ ?_ ?_ h
          · rw [hd, runLen, List.takeWhile_cons, if_pos h35]; simp
          · rw [hrl, hd, List.takeWhile_cons, if_pos h35]
            exact .of_notes _ hn' (all_takeWhile _ _)
        · split at h
          · cases h
          · rename_i hb hn hE
            have hE0 : oneE (l.drop a) = 0 := by simpa using hE
            obtain ⟨h1, h2⟩ := Prod.mk.inj h
            subst h1
            have hT : (tokAt l a).text = oneT (l.drop a) := rfl
            have hp : 0 < (oneT (l.drop a)).length := by
              rw [oneT_len]; exact oneN_pos (by rw [hd]; exact List.cons_ne_nil _ _) hE0
            have hlen : (oneT (l.drop a)).length ≤ l.length - a := by
              rw [← oneT_self (l.drop a), List.length_take, List.length_drop]; omega
            refine ⟨he, by show a + (oneT (l.drop a)).length ≤ _; omega, oneT_self _, hg, ?_⟩
            have hz : Gap ((l.drop (a + (oneT (l.drop a)).length)).take (a + (oneT (l.drop a)).length - (a + (oneT (l.drop a)).length))) := by rw [Nat.sub_self, List.take_zero]; exact .nil
            show Gaps l (a + (oneT (l.drop a)).length) _
            refine ih (a + (oneT (l.drop a)).length) _ _ (by omega) (Nat.le_refl _) hz (by rw [← h2]) (fun ha => by
              rw [List.drop_eq_nil_of_le ha]; exact .nil)
theorem lexAll_gaps {l : List UInt8} {ts : List (Nat × Tk)} (h : lexAll l = (ts, none)) : Gaps l 0 ts :=
  lexF_gaps l l.length 0 0 ts (by omega) (Nat.le_refl _) (by simpa using Gap.nil) h
/-- where the token behind the first k begins its search -/
def endAt (ts : List (Nat × Tk)) (k : Nat) : Nat := match k with
  | 0 => 0
  | k + 1 => match ts[k]? with
    | some x => x.1 + x.2.text.length
    | none => 0
theorem Gaps.at' {l : List UInt8} {e : Nat} {ts : List (Nat × Tk)} (h : Gaps l e ts) (k : Nat) : ∃ e', (k = 0 → e' = e) ∧ (0 < k → k ≤ ts.length → e' = endAt ts k) ∧ (k ≤ ts.length → Gaps l e' (ts.drop k)) := by
  induction k generalizing e ts with
  | zero => exact ⟨e, fun _ => rfl, fun h => absurd h (by omega), fun _ => h⟩
  | succ k ih =>
    cases ts with
    | nil => exact ⟨0, fun h => absurd h (by omega), fun _ h => absurd h (by simp), fun h => absurd h (by simp)⟩
    | cons x r =>
      obtain ⟨_, _, _, _, hr⟩ := h
      obtain ⟨e', h0, h1, h2⟩ := ih hr
      refine ⟨e', fun h => absurd h (by omega), fun _ hk => ?_, fun hk => ?_⟩
      · cases k with
        | zero => rw [h0 rfl]; rfl
        | succ k => rw [h1 (by omega) (by simpa using hk)]; simp [endAt]
      · simpa using h2 (by simpa using hk)
theorem gaps_at {l : List UInt8} {ts : List (Nat × Tk)} (h : Gaps l 0 ts) {k : Nat} (hk : k ≤ ts.length) : Gaps l (endAt ts k) (ts.drop k) := by
  obtain ⟨e, h0, h1, h2⟩ := h.at' k
  by_cases hz : k = 0
  · subst hz; exact h
  · rw [← h1 (by omega) hk]; exact h2 hk
theorem gaps_step {l : List UInt8} {ts : List (Nat × Tk)} (h : Gaps l 0 ts) {k : Nat} {x : Nat × Tk} (hx : ts[k]? = some x) :
    endAt ts k ≤ x.1 ∧ x.1 + x.2.text.length ≤ l.length ∧ (l.drop x.1).take x.2.text.length = x.2.text ∧ Gap ((l.drop (endAt ts k)).take (x.1 - endAt ts k)) ∧ endAt ts (k + 1) = x.1 + x.2.text.length := by
  obtain ⟨hk, rfl⟩ := List.getElem?_eq_some_iff.1 hx
  have hG := gaps_at h (k := k) (by omega)
  rw [List.drop_eq_getElem_cons hk] at hG
  obtain ⟨h1, h2, h3, h4, _⟩ := hG
  exact ⟨h1, h2, h3, h4, by rw [endAt, hx]⟩
theorem gaps_end {l : List UInt8} {ts : List (Nat × Tk)} (h : Gaps l 0 ts) : Gap (l.drop (endAt ts ts.length)) := by
  have hG := gaps_at h (k := ts.length) (Nat.le_refl _)
  rw [List.drop_length] at hG
  exact hG
end Go.Proofs.YtgffiggnmklcoaaGreatDoor
