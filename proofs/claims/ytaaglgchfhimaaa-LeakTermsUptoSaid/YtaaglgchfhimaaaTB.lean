/- The chapter's terms and the document's are the same; the law's walk. -/
import Derived.Test.YtaaglgchfhimaaaT6
import Derived.Test.YtaaglgchfhimaaaT7
import Derived.Test.YtaaglgchfhimaaaT8
import Derived.Test.YtaaglgchfhimaaaK2
namespace Go.Proofs.Ytaaglgchfhimaaa
open Go.RowKit

theorem fits_true (p : Pk) : p.fits true = p.ok := by simp [Pk.fits]
theorem refPicks_all (ls : List (List Pk)) : refPicks true ls = picksOk ls := by
  have : Pk.fits true = Pk.ok := funext fits_true
  simp only [refPicks, picksOk, this]
theorem gItem_neg (m : Int) (p : Pk) (h : p.ok = true) : decide (gItem m p < 0) = (decide (m < 0) && p.fits false) := by
  have h0 : 0 ≤ p.item := by
    simp only [Pk.ok, Bool.and_eq_true, decide_eq_true_eq] at h
    exact h.2
  by_cases hk : p.kind = 1 ∨ p.kind = 3
  · have hb : (p.kind == 1 || p.kind == 3) = true := by rcases hk with e | e <;> rw [e] <;> rfl
    have hg : gItem m p = if m < p.item then p.item else m := by unfold gItem; rw [if_pos hk]
    have hf : p.fits false = false := by simp only [Pk.fits, h, hb]; rfl
    rw [hf, Bool.and_false]
    apply decide_eq_false
    rw [hg]
    split <;> omega
  · have hb : (p.kind == 1 || p.kind == 3) = false := by
      simp only [not_or] at hk
      simp [hk.1, hk.2]
    have hg : gItem m p = m := by unfold gItem; rw [if_neg hk]
    have hf : p.fits false = true := by simp only [Pk.fits, h, hb]; rfl
    rw [hf, Bool.and_true, hg]
theorem gLine_neg : ∀ (l : List Pk) (m : Int), l.all Pk.ok = true → decide (gLine m l < 0) = (decide (m < 0) && l.all (Pk.fits false))
  | [], m, _ => (Bool.and_true _).symm
  | p :: l, m, h => by
    rw [List.all_cons, Bool.and_eq_true] at h
    have := gLine_neg l (gItem m p) h.2
    rw [show gLine m (p :: l) = gLine (gItem m p) l from rfl, this, gItem_neg m p h.1, List.all_cons, Bool.and_assoc]
theorem greatest_neg : ∀ (ls : List (List Pk)) (m : Int), picksOk ls = true → decide (ls.foldl gLine m < 0) = (decide (m < 0) && refPicks false ls)
  | [], m, _ => (Bool.and_true _).symm
  | l :: ls, m, h => by
    simp only [picksOk, List.all_cons, Bool.and_eq_true] at h
    have := greatest_neg ls (gLine m l) h.2
    rw [show (l :: ls).foldl gLine m = ls.foldl gLine (gLine m l) from rfl, this, gLine_neg l m h.1]
    simp only [refPicks, List.all_cons, Bool.and_assoc]
theorem greatestL_neg (ls : List (List Pk)) (h : picksOk ls = true) : decide (greatestL ls < 0) = refPicks false ls := by
  have := greatest_neg ls (-1) h
  rw [greatestL, this]; rfl
theorem behind_ref : ∀ t : Tf, t.okT = true → t.behind = t.refBehind
  | .nil, _ => rfl
  | .node k ls t s r, h => by
    simp only [Tf.okT, Bool.and_eq_true] at h
    simp only [Tf.behind, Tf.refBehind, greatestL_neg ls h.1.1.2, behind_ref r h.2]
theorem second_ok : ∀ s : Ts, s.okT = true → s.second.okT = true
  | .nil, _ => rfl
  | .sub _ .nil, _ => rfl
  | .sub _ (.sub l _), h => by
    simp only [Ts.okT, Bool.and_eq_true] at h
    exact h.2.1
theorem subs_ref (k : Int) (ns : Nat) (bh : Bool) : subsOk k ns bh = (okSubs k ns && (k != 7 || bh)) := by
  unfold subsOk okSubs
  by_cases h7 : k = 7
  · subst h7; simp
  · have : (k != 7) = true := by simp [h7]
    rw [this, Bool.true_or, Bool.and_true]
    simp only [h7, or_false, if_false]
mutual
theorem Tf.ok_ref : ∀ l : Tf, l.okT = l.refT
  | .nil => rfl
  | .node k ls t s r => by
    have hs := Ts.ok_ref s
    have hr := Tf.ok_ref r
    simp only [Tf.okT, Tf.refT, ← hs, ← hr, refPicks_all, subs_ref]
    by_cases h : s.okT = true
    · rw [behind_ref _ (second_ok s h)]
      cases okSubs k s.len <;> cases picksOk ls <;> simp
    · rw [Bool.not_eq_true] at h
      simp [h]
theorem Ts.ok_ref : ∀ l : Ts, l.okT = l.refT
  | .nil => rfl
  | .sub l r => by rw [Ts.okT, Ts.refT, Tf.ok_ref l, Ts.ok_ref r]
end
mutual
theorem Tf.count_le : ∀ l : Tf, l.len + l.under ≤ l.weight
  | .nil => Nat.le_refl _
  | .node _ ls _ s r => by
    have := Ts.count_le s
    have := Tf.count_le r
    simp only [Tf.len, Tf.under, Tf.weight]; omega
theorem Ts.count_le : ∀ l : Ts, l.nodes ≤ l.weight
  | .nil => Nat.le_refl _
  | .sub l r => by
    have := Tf.count_le l
    have := Ts.count_le r
    simp only [Ts.nodes, Ts.weight]; omega
end
end Go.Proofs.Ytaaglgchfhimaaa
