/- KQ, PS, KR as one. -/
import Derived.Test.YtchbnkepmeelkaaGreatDoorPJ
import Derived.Test.YtchbnkepmeelkaaGreatDoorPI
import Derived.Test.YtchbnkepmeelkaaGreatDoorPH
import Derived.Test.YtchbnkepmeelkaaGreatDoorPP
import Derived.Test.YtchbnkepmeelkaaGreatDoorPQ
import Derived.Test.YtchbnkepmeelkaaGreatDoorPR
/- Bodies. -/
namespace Go.Proofs.YtchbnkepmeelkaaGreatDoor
open Go.RowKit

set_option maxRecDepth 100000 in
set_option maxHeartbeats 3200000 in
theorem bodyEnd_p (n : Nat) (p : Pp) (k d : Nat) (w : World) (h : Ps w p.pb p.tb p.tf p.tc p.ts k d) (hk : k < p.ts.length) (hE : Ends p.ts) (hsm : p.ts.length ≤ 100000) (HT : StmtC p n d) (hT1 : Shs (stmtP n)) :
    Calls Tryz.prog 157 #[.pointer (some ⟨p.pb, 0, none⟩)] w (Post RBody (bodyP (stmtP n) (p.ts.drop k)) p d w) := by
  have hpb := h.lt_pb
  have CL := Lib.hid (fun (k : Nat) (w : World) (h : Ps w p.pb p.tb p.tf p.tc p.ts k d) (hk : k < p.ts.length) => ahead_stmts n [125] p k d w h hk hE hsm HT hT1)
  have CW := Lib.hid (fun (k : Nat) (w : World) (h : Ps w p.pb p.tb p.tf p.tc p.ts k d) (hk : k < p.ts.length) => want_p [125] p k d w h hk hE (by decide))
  have BB := Lib.hid (But.refl p.pb w)
  have SS := Lib.hid (And.intro h hk)
  have PB := Lib.hid hpb
  clear h hk hE hpb
  generalize hG : (bodyP (stmtP n) (p.ts.drop k)) = G
  unfold bodyP at hG
  have HG := Lib.hid hG
  clear hG
  go_enter Tryz.func157, Tryz.ntmps157
  go_wp2_with fail
  refine (CL.out k w SS.out.1 SS.out.2).mono ?_
  intro z w1 hc
  rcases hc with ⟨k1, a1, s1, hr, hkk, hp, hb, hz, hR⟩ | ⟨k1, e1, t1, hr, hp, hb, hz⟩
  rotate_left
  · subst hz
    have HN := Lib.hid (show Post RBody G p d w (WrongIs (e1 : Int) t1) w1 from .no k1 e1 t1 (by rw [← HG.out]; simp only [hr, Res.bind_no]) hp (BB.out.trans hb) rfl)
    clear hr hp hb
    unfold WrongIs
    go_wp2_with fail
    exact ⟨rfl, HN.out⟩
  obtain ⟨qa1, ca1⟩ := s1
  obtain rfl : z = .returned (.slice qa1 (stsOf a1).len ca1) := by rw [stsOf_len]; exact hz
  replace hR := Fresh.imp (Q := fun W N => (stsOf a1).In W N qa1) hR (fun W h => sts_in h.2)
  have Fa1 := Lib.hid (show Fresh w.heap.size w1.heap.size w1 (fun W N => (stsOf a1).In W N qa1) from hR)
  have Ga1 := Lib.hid SS.out.1.lt_pb
  have Za1 := Lib.hid (Nat.le_refl w1.heap.size)
  have Ya1 := Lib.hid (show w.heap.size ≤ w.heap.size from BB.out.size)
  have R1 := Lib.hid hr
  replace SS := Lib.hid (And.intro hp hkk)
  replace BB := Lib.hid (BB.out.trans hb)
  clear hr hkk hp hb hR
  go_wp2_with fail
  refine (CW.out k1 w1 SS.out.1 SS.out.2).mono ?_
  intro z w2 hc
  rcases hc with ⟨k2, a2, s2, hr, hkk, hp, hb, hz, hR⟩ | ⟨k2, e2, t2, hr, hp, hb, hz⟩
  rotate_left
  · subst hz
    have HN := Lib.hid (show Post RBody G p d w (WrongIs (e2 : Int) t2) w2 from .no k2 e2 t2 (by rw [← HG.out]; simp only [R1.out, hr, Res.bind_ok, Res.bind_no]) hp (BB.out.trans hb) rfl)
    clear hr hp hb
    unfold WrongIs
    go_wp2_with fail
    exact ⟨rfl, HN.out⟩
  replace Fa1 := Lib.hid (Fa1.out.but hb Ga1.out Za1.out)
  replace Za1 := Lib.hid (Nat.le_trans Za1.out hb.size)
  replace Ya1 := Lib.hid Ya1.out
  obtain rfl : z = .returned (.tuple #[]) := hz
  have R2 := Lib.hid hr
  replace SS := Lib.hid (And.intro hp hkk)
  replace BB := Lib.hid (BB.out.trans hb)
  clear hr hkk hp hb hR
  go_wp2_with fail
  go_ret
  exact .ok k2 (stsOf a1) (qa1, ca1) (by rw [← HG.out]; simp only [R1.out, R2.out, Res.bind_ok]) SS.out.2 SS.out.1 BB.out rfl (Fa1.out.fin Ya1.out Za1.out (fun W h => Sts.In.up h Za1.out))
set_option maxRecDepth 100000 in
set_option maxHeartbeats 3200000 in
theorem block_p (n : Nat) (p : Pp) (k d : Nat) (w : World) (h : Ps w p.pb p.tb p.tf p.tc p.ts k d) (hk : k < p.ts.length) (hE : Ends p.ts) (hsm : p.ts.length ≤ 100000) (HT : StmtC p n d) (hT1 : Shs (stmtP n)) :
    Calls Tryz.prog 228 #[.pointer (some ⟨p.pb, 0, none⟩)] w (Post RBody (blockP (stmtP n) (p.ts.drop k)) p d w) := by
  have hpb := h.lt_pb
  have CL := Lib.hid (fun (k : Nat) (w : World) (h : Ps w p.pb p.tb p.tf p.tc p.ts k d) (hk : k < p.ts.length) => bodyEnd_p n p k d w h hk hE hsm HT hT1)
  have CW := Lib.hid (fun (k : Nat) (w : World) (h : Ps w p.pb p.tb p.tf p.tc p.ts k d) (hk : k < p.ts.length) => want_p [123] p k d w h hk hE (by decide))
  have BB := Lib.hid (But.refl p.pb w)
  have SS := Lib.hid (And.intro h hk)
  have PB := Lib.hid hpb
  clear h hk hE hpb
  generalize hG : (blockP (stmtP n) (p.ts.drop k)) = G
  unfold blockP at hG
  have HG := Lib.hid hG
  clear hG
  go_enter Tryz.func228, Tryz.ntmps228
  go_wp2_with fail
  refine (CW.out k w SS.out.1 SS.out.2).mono ?_
  intro z w1 hc
  rcases hc with ⟨k1, a1, s1, hr, hkk, hp, hb, hz, hR⟩ | ⟨k1, e1, t1, hr, hp, hb, hz⟩
  rotate_left
  · subst hz
    have HN := Lib.hid (show Post RBody G p d w (WrongIs (e1 : Int) t1) w1 from .no k1 e1 t1 (by rw [← HG.out]; simp only [hr, Res.bind_no]) hp (BB.out.trans hb) rfl)
    clear hr hp hb
    unfold WrongIs
    go_wp2_with fail
    exact ⟨rfl, HN.out⟩
  obtain rfl : z = .returned (.tuple #[]) := hz
  have R1 := Lib.hid hr
  replace SS := Lib.hid (And.intro hp hkk)
  replace BB := Lib.hid (BB.out.trans hb)
  clear hr hkk hp hb hR
  go_wp2_with fail
  refine (CL.out k1 w1 SS.out.1 SS.out.2).mono ?_
  intro z w2 hc
  rcases hc with ⟨k2, a2, s2, hr, hkk, hp, hb, hz, hR⟩ | ⟨k2, e2, t2, hr, hp, hb, hz⟩
  rotate_left
  · subst hz
    have HN := Lib.hid (show Post RBody G p d w (WrongIs (e2 : Int) t2) w2 from .no k2 e2 t2 (by rw [← HG.out]; simp only [R1.out, hr, Res.bind_ok]) hp (BB.out.trans hb) rfl)
    clear hr hp hb
    unfold WrongIs
    go_wp2_with fail
    exact ⟨rfl, HN.out⟩
  obtain ⟨qa2, ca2⟩ := s2
  obtain rfl : z = .returned (.slice qa2 a2.len ca2) := hz
  have Fa2 := Lib.hid (show Fresh w1.heap.size w2.heap.size w2 (fun W N => a2.In W N qa2) from hR)
  have Ga2 := Lib.hid SS.out.1.lt_pb
  have Za2 := Lib.hid (Nat.le_refl w2.heap.size)
  have Ya2 := Lib.hid (show w.heap.size ≤ w1.heap.size from BB.out.size)
  have R2 := Lib.hid hr
  replace SS := Lib.hid (And.intro hp hkk)
  replace BB := Lib.hid (BB.out.trans hb)
  clear hr hkk hp hb hR
  go_wp2_with fail
  go_ret
  exact .ok k2 a2 (qa2, ca2) (by rw [← HG.out]; simp only [R1.out, R2.out, Res.bind_ok]) SS.out.2 SS.out.1 BB.out rfl (Fa2.out.fin Ya2.out Za2.out (fun W h => Sts.In.up h Za2.out))
end Go.Proofs.YtchbnkepmeelkaaGreatDoor
/- Plain reading never leaves more than it was given. -/
namespace Go.Proofs.YtchbnkepmeelkaaGreatDoor

theorem bind_le {α β : Type} {x : Res α} {f : α → List Tok → Res β} {m : Nat} (hx : ∀ a r, x = .ok a r → r.length ≤ m) (hf : ∀ a r b s, f a r = .ok b s → s.length ≤ r.length) : ∀ b s, x.bind f = .ok b s → s.length ≤ m := by
  intro b s h
  cases x with
  | no e t => cases h
  | ok a r => exact Nat.le_trans (hf a r b s h) (hx a r rfl)
theorem bind_lt {α β : Type} {x : Res α} {f : α → List Tok → Res β} {m : Nat} (hx : ∀ a r, x = .ok a r → r.length < m) (hf : ∀ a r b s, f a r = .ok b s → s.length ≤ r.length) : ∀ b s, x.bind f = .ok b s → s.length < m := by
  intro b s h
  cases x with
  | no e t => cases h
  | ok a r => exact Nat.lt_of_le_of_lt (hf a r b s h) (hx a r rfl)
theorem ok_le {α : Type} {a b : α} {r s : List Tok} (h : Res.ok a r = .ok b s) : s.length ≤ r.length := by cases h; exact Nat.le_refl _
theorem tail_le (l : List Tok) : l.tail.length ≤ l.length := by cases l <;> simp
theorem tail_lt {l : List Tok} (h : (hdT l).text ≠ [] ∨ (hdT l).kind ≠ 0) : l.tail.length < l.length := by
  cases l with
  | nil => rcases h with h | h <;> exact absurd rfl h
  | cons t r => simp
theorem wantP_shr (s : List UInt8) : Shr (wantP s) := fun l a r h => by
  unfold wantP at h
  split at h
  · cases h; exact tail_le l
  · cases h
theorem wantP_shs {s : List UInt8} (hs : s ≠ []) : Shs (wantP s) := fun l a r h => by
  unfold wantP at h
  split at h
  · rename_i h1; cases h; exact tail_lt (.inl (by rw [h1]; exact hs))
  · cases h
theorem nameP_shs : Shs nameP := fun l a r h => by
  unfold nameP at h
  split at h
  · rename_i h1; cases h; exact tail_lt (.inr (by omega))
  · cases h
theorem numP_shs : Shs numP := fun l a r h => by
  unfold numP at h
  split at h
  · rename_i h1; cases h; exact tail_lt (.inr (by omega))
  · cases h
theorem sizeP_shs : Shs sizeP := fun l a r h => by
  unfold sizeP at h
  split at h
  · cases h
  · exact numP_shs l a r h
theorem signP_shr : Shr signP := fun l a r h => by
  unfold signP at h
  split at h
  · cases h; exact tail_le l
  · cases h
theorem begins_tok {l : List Tok} (h : beginsE (hdT l) = true) : (hdT l).text ≠ [] ∨ (hdT l).kind ≠ 0 := by
  by_cases h0 : (hdT l).kind = 0
  · left
    intro h1
    simp [beginsE, h0, h1] at h
  · exact .inr h0
theorem exprP_shs : ∀ n, Shs (exprP n)
  | 0, l, a, r, h => by
    unfold exprP at h
    split at h <;> cases h
  | n + 1, l, a, r, h => by
    have ih := exprP_shs n
    have ihr := ih.shr
    unfold exprP at h
    by_cases hb : beginsE (hdT l) = true
    case neg => rw [if_pos (by simpa using hb)] at h; cases h
    have ht := tail_lt (begins_tok hb)
    rw [if_neg (by rw [hb]; decide)] at h
    split at h
    · cases h; exact ht
    split at h
    · refine bind_lt (fun a r h => Nat.lt_of_lt_of_le (Nat.lt_of_lt_of_le (ih _ _ _ h) (tail_le _)) (Nat.le_of_lt ht)) (fun a r b s h => bind_le (fun a r h => wantP_shr _ _ _ _ h) (fun a r b s h => ok_le h) b s h) a r h
    split at h
    · exact bind_lt (fun a r h => Nat.lt_trans (ih _ _ _ h) ht) (fun a r b s h => ok_le h) a r h
    split at h
    · exact bind_lt (fun a r h => Nat.lt_trans (ih _ _ _ h) ht) (fun a r b s h => ok_le h) a r h
    split at h
    · exact bind_lt (fun a r h => Nat.lt_trans (ih _ _ _ h) ht) (fun a r b s h => bind_le (fun a r h => signP_shr _ _ _ h) (fun a r b s h => bind_le (fun a r h => ihr _ _ _ h) (fun a r b s h => bind_le (fun a r h => wantP_shr _ _ _ _ h) (fun a r b s h => ok_le h) b s h) b s h) b s h) a r h
    split at h
    · exact bind_lt (fun a r h => Nat.lt_of_le_of_lt (wantP_shr _ _ _ _ h) ht) (fun a r b s h => bind_le (fun a r h => ihr _ _ _ h) (fun a r b s h => bind_le (fun a r h => wantP_shr _ _ _ _ h) (fun a r b s h => bind_le (fun a r h => ihr _ _ _ h) (fun a r b s h => bind_le (fun a r h => wantP_shr _ _ _ _ h) (fun a r b s h => bind_le (fun a r h => ihr _ _ _ h) (fun a r b s h => bind_le (fun a r h => wantP_shr _ _ _ _ h) (fun a r b s h => ok_le h) b s h) b s h) b s h) b s h) b s h) b s h) a r h
    · exact bind_lt (fun a r h => nameP_shs _ _ _ h) (fun a r b s h => ok_le h) a r h
theorem tailP_shr {α : Type} {one : List Tok → Res α} (h1 : Shr one) : ∀ f, Shr (tailP one f)
  | 0, l, a, r, h => by cases h
  | f + 1, l, a, r, h => by
    unfold tailP at h
    split at h
    · exact bind_le (fun a r h => Nat.le_trans (h1 _ _ _ h) (tail_le l)) (fun a r b s h => bind_le (fun a r h => tailP_shr h1 f _ _ _ h) (fun a r b s h => ok_le h) b s h) a r h
    · exact ok_le h
theorem listP_shs {α : Type} {one : List Tok → Res α} (h1 : Shs one) : Shs (listP one) := fun _l a r h =>
  bind_lt (fun _a _r h => h1 _ _ _ h) (fun _a _r b s h => bind_le (fun _a _r h => tailP_shr h1.shr _ _ _ _ h) (fun _a _r _b _s h => ok_le h) b s h) a r h
theorem parenP_shs {α : Type} {one : List Tok → Res α} (h1 : Shs one) : Shs (parenP one) := fun l a r h =>
  bind_lt (fun a r h => wantP_shs (by decide) _ _ _ h) (fun a r b s h => bind_le (fun a r' h => by
    split at h
    · exact ok_le h
    · exact (listP_shs h1).shr _ _ _ h) (fun a r b s h => bind_le (fun a r h => wantP_shr _ _ _ _ h) (fun a r b s h => ok_le h) b s h) b s h) a r h
theorem manyP_shr {α : Type} {one : List Tok → Res α} (h1 : Shr one) (q : List UInt8) : ∀ f, Shr (manyP one q f)
  | 0, l, a, r, h => by cases h
  | f + 1, l, a, r, h => by
    unfold manyP at h
    split at h
    · exact ok_le h
    · exact bind_le (fun a r h => h1 _ _ _ h) (fun a r b s h => bind_le (fun a r h => manyP_shr h1 q f _ _ _ h) (fun a r b s h => ok_le h) b s h) a r h
theorem whileP_shr {α : Type} {one : List Tok → Res α} (h1 : Shr one) (q : Tok → Bool) : ∀ f, Shr (whileP one q f)
  | 0, l, a, r, h => by cases h
  | f + 1, l, a, r, h => by
    unfold whileP at h
    split at h
    · exact bind_le (fun a r h => h1 _ _ _ h) (fun a r b s h => bind_le (fun a r h => whileP_shr h1 q f _ _ _ h) (fun a r b s h => ok_le h) b s h) a r h
    · exact ok_le h
theorem bodyP_shr {one : List Tok → Res St} (h1 : Shr one) : Shr (bodyP one) := fun _l a r h =>
  bind_le (fun _a _r h => manyP_shr h1 _ _ _ _ _ h) (fun _a _r b s h => bind_le (fun _a _r h => wantP_shr _ _ _ _ h) (fun _a _r _b _s h => ok_le h) b s h) a r h
theorem blockP_shs {one : List Tok → Res St} (h1 : Shr one) : Shs (blockP one) := fun l a r h =>
  bind_lt (fun a r h => wantP_shs (by decide) _ _ _ h) (fun a r b s h => bodyP_shr h1 _ _ _ h) a r h
theorem callP_shs (n : Nat) (ns : List (List UInt8)) : Shs (callP n ns) := fun _l a r h =>
  bind_lt (fun _a _r h => nameP_shs _ _ _ h) (fun _a _r b s h => bind_le (fun _a _r h => (parenP_shs (exprP_shs n)).shr _ _ _ h) (fun _a _r b s h => bind_le (fun _a _r h => wantP_shr _ _ _ _ h) (fun _a _r _b _s h => ok_le h) b s h) b s h) a r h
theorem setP_shs (n : Nat) : Shs (setP n) := fun l a r h =>
  bind_lt (fun a r h => listP_shs nameP_shs _ _ _ h) (fun a r b s h => bind_le (fun a r h => wantP_shr _ _ _ _ h) (fun a' r b s h => by
    split at h
    · exact (callP_shs n _).shr _ _ _ h
    · exact bind_le (fun a r h => (exprP_shs n).shr _ _ _ h) (fun a r b s h => bind_le (fun a r h => wantP_shr _ _ _ _ h) (fun a r b s h => ok_le h) b s h) b s h) b s h) a r h
theorem putP_shs (n : Nat) : Shs (putP n) := fun _l a r h =>
  bind_lt (fun _a _r h => nameP_shs _ _ _ h) (fun _a _r b s h => bind_le (fun _a _r h => wantP_shr _ _ _ _ h) (fun _a _r b s h => bind_le (fun _a _r h => (exprP_shs n).shr _ _ _ h) (fun _a _r b s h => bind_le (fun _a _r h => wantP_shr _ _ _ _ h) (fun _a _r b s h => bind_le (fun _a _r h => wantP_shr _ _ _ _ h) (fun _a _r b s h => bind_le (fun _a _r h => (exprP_shs n).shr _ _ _ h) (fun _a _r b s h => bind_le (fun _a _r h => wantP_shr _ _ _ _ h) (fun _a _r _b _s h => ok_le h) b s h) b s h) b s h) b s h) b s h) b s h) a r h
theorem beginsS_tok {l : List Tok} (h : beginsS (hdT l) = true) : (hdT l).text ≠ [] ∨ (hdT l).kind ≠ 0 := by
  by_cases h0 : (hdT l).kind = 0
  · left
    intro h1
    simp [beginsS, h0, h1, wIf, wWhile, wFor] at h
  · exact .inr h0
theorem stmtP_shs : ∀ n, Shs (stmtP n)
  | 0, l, a, r, h => by
    unfold stmtP at h
    split at h <;> cases h
  | n + 1, l, a, r, h => by
    have ih := (stmtP_shs n).shr
    have hB := (blockP_shs ih).shr
    have hX := (exprP_shs n).shr
    unfold stmtP at h
    by_cases hb : beginsS (hdT l) = true
    case neg => rw [if_pos (by simpa using hb)] at h; cases h
    have ht := tail_lt (beginsS_tok hb)
    rw [if_neg (by rw [hb]; decide)] at h
    split at h
    · refine bind_lt (fun a r h => Nat.lt_of_le_of_lt (hX _ _ _ h) ht) (fun a r b s h => bind_le (fun a r h => hB _ _ _ h) (fun a r b s h => ?_) b s h) a r h
      split at h
      · exact bind_le (fun a r' h => Nat.le_trans (hB _ _ _ h) (tail_le _)) (fun a r b s h => ok_le h) b s h
      · exact ok_le h
    split at h
    · exact bind_lt (fun a r h => Nat.lt_of_le_of_lt (hX _ _ _ h) ht) (fun a r b s h => bind_le (fun a r h => hB _ _ _ h) (fun a r b s h => ok_le h) b s h) a r h
    split at h
    · exact bind_lt (fun a r h => Nat.lt_trans (nameP_shs _ _ _ h) ht) (fun a r b s h => bind_le (fun a r h => numP_shs.shr _ _ _ h) (fun a r b s h => bind_le (fun a r h => numP_shs.shr _ _ _ h) (fun a r b s h => bind_le (fun a r h => hB _ _ _ h) (fun a r b s h => ok_le h) b s h) b s h) b s h) a r h
    split at h
    · exact putP_shs n _ _ _ h
    split at h
    · exact callP_shs n _ _ _ _ h
    · exact setP_shs n _ _ _ h
theorem takeP_le (s : List UInt8) (l : List Tok) : (takeP s l).2.length ≤ l.length := by
  unfold takeP
  split
  · exact tail_le l
  · exact Nat.le_refl _
theorem paramP_shs : Shs paramP := fun _l a r h =>
  bind_lt (fun _a _r h => nameP_shs _ _ _ h) (fun _a _r _b _s h => Nat.le_trans (ok_le h) (takeP_le _ _)) a r h
theorem varOfP_shs (k : Int) : Shs (varOfP k) := fun l a r h =>
  bind_lt (fun a r h => nameP_shs _ _ _ h) (fun a r b s h => by
    split at h
    · exact bind_le (fun a r h => wantP_shr _ _ _ _ h) (fun a r b s h => ok_le h) b s h
    · exact bind_le (fun a r h => sizeP_shs.shr _ _ _ h) (fun a r b s h => bind_le (fun a r' h => Nat.le_trans (wantP_shr _ _ _ _ h) (takeP_le _ _)) (fun a r b s h => ok_le h) b s h) b s h) a r h
theorem variableP_shs : Shs variableP := fun l a r h => by
  unfold variableP at h
  split at h
  · exact Nat.lt_of_lt_of_le (varOfP_shs _ _ _ _ h) (tail_le l)
  split at h
  · exact Nat.lt_of_lt_of_le (varOfP_shs _ _ _ _ h) (tail_le l)
  · exact Nat.lt_of_lt_of_le (varOfP_shs _ _ _ _ h) (tail_le l)
theorem regionP_shs : Shs regionP := fun l a r h =>
  bind_lt (fun a r h => wantP_shs (by decide) _ _ _ h) (fun a r b s h => bind_le (fun a r h => nameP_shs.shr _ _ _ h) (fun a r b s h => bind_le (fun a r h => sizeP_shs.shr _ _ _ h) (fun a r b s h => bind_le (fun a r h => sizeP_shs.shr _ _ _ h) (fun a r b s h => bind_le (fun a r' h => Nat.le_trans (wantP_shr _ _ _ _ h) (takeP_le _ _)) (fun a r b s h => ok_le h) b s h) b s h) b s h) b s h) a r h
theorem functionP_shs : Shs functionP := fun l a r h =>
  bind_lt (fun a r h => wantP_shs (by decide) _ _ _ h) (fun a r b s h => bind_le (fun a r h => nameP_shs.shr _ _ _ h) (fun a r b s h => bind_le (fun a r h => (parenP_shs paramP_shs).shr _ _ _ h) (fun a r b s h => bind_le (fun a r' h => by
      split at h
      · exact Nat.le_trans ((listP_shs nameP_shs).shr _ _ _ h) (tail_le _)
      · exact ok_le h) (fun a r b s h => bind_le (fun a r h => wantP_shr _ _ _ _ h) (fun a r b s h => bind_le (fun a r h => whileP_shr variableP_shs.shr _ _ _ _ _ h) (fun a r b s h => bind_le (fun a r h => bodyP_shr (stmtP_shs 64).shr _ _ _ h) (fun a r b s h => ok_le h) b s h) b s h) b s h) b s h) b s h) b s h) a r h
end Go.Proofs.YtchbnkepmeelkaaGreatDoor
/- Any statement. -/
namespace Go.Proofs.YtchbnkepmeelkaaGreatDoor
open Go.RowKit
set_option maxRecDepth 100000 in
set_option maxHeartbeats 3200000 in
theorem stmt_wrong (c : Nat) (t : Tok) (b : Bool) (p : Pp) (k d : Nat) (w : World) (h : Ps w p.pb p.tb p.tf p.tc p.ts k d) (hk : k < p.ts.length) (_hE : Ends p.ts) (ht : p.ts[k]? = some t) (hb : beginsS t = b) (hc : ∀ (w : World), Ps w p.pb p.tb p.tf p.tc p.ts k d → Calls Tryz.prog 160 #[.pointer (some ⟨p.pb, 0, none⟩), .bool b] w fun z w' => z = WrongIs (c : Int) t ∧ Ps w' p.pb p.tb p.tf p.tc p.ts k d ∧ But p.pb w w') :
    Calls Tryz.prog 105 #[.pointer (some ⟨p.pb, 0, none⟩)] w (Post RStmt ((.no c t : Res St)) p d w) := by
  have hpb := h.lt_pb
  have CE := Lib.hid (fun (w : World) (h : Ps w p.pb p.tb p.tf p.tc p.ts k d) => isStmt_any p.pb p.tb p.tf p.tc k d p.ts t w h ht)
  have CB := Lib.hid (hc)
  obtain ⟨W0, hW0⟩ : ∃ W0, w.alloc (.cells #[.int .i64 0, .string ⟨#[]⟩, .slice none 0 0, .int .i64 0, .int .u64 0, .string ⟨#[]⟩, .slice none 0 0, .int .i64 0, .int .u64 0, .string ⟨#[]⟩, .slice none 0 0, .slice none 0 0, .int .u64 0, .int .u64 0, .slice none 0 0, .slice none 0 0] 69) = W0 := ⟨_, rfl⟩
  have hB0 : Below w.heap.size w W0 := by rw [← hW0]; exact (Below.refl _ _).alloc (Nat.le_refl _) _
  have Kr := Lib.hid (show W0.heap[w.heap.size]? = some (.cells #[.int .i64 0, .string ⟨#[]⟩, .slice none 0 0, .int .i64 0, .int .u64 0, .string ⟨#[]⟩, .slice none 0 0, .int .i64 0, .int .u64 0, .string ⟨#[]⟩, .slice none 0 0, .slice none 0 0, .int .u64 0, .int .u64 0, .slice none 0 0, .slice none 0 0] 69 (0, 0)) by rw [← hW0]; exact heap_alloc_new w _)
  have Nr := Lib.hid (Nat.ne_of_gt hpb)
  have Nr2 := Lib.hid (Nat.ne_of_gt h.lt)
  have BB := Lib.hid (But.of_below (g := p.pb) hB0)
  have SS := Lib.hid (And.intro (h.later hB0) hk)
  clear hB0
  have PB := Lib.hid hpb
  rw [hb] at CE
  clear h hk _hE hpb ht hb hc
  generalize hG : ((.no c t : Res St)) = G
  have HG := Lib.hid hG
  clear hG
  go_enter_defers Tryz.func105, Tryz.ntmps105
  go_wp2_with fail
  try rw [hW0]
  clear hW0
  refine (CE.out W0 SS.out.1).mono ?_
  rintro z w1 ⟨rfl, hBX⟩
  replace Kr := Lib.hid ((hBX.block _ (Array.getElem?_eq_some_iff.1 Kr.out).1).trans Kr.out)
  replace SS := Lib.hid (And.intro (SS.out.1.later hBX) SS.out.2)
  replace BB := Lib.hid (BB.out.trans (But.of_below hBX))
  clear hBX
  go_wp2_with fail
  refine (CB.out w1 SS.out.1).mono ?_
  rintro z w9 ⟨rfl, hp, hb⟩
  have HN := Lib.hid (show Post RStmt G p d w (WrongIs (c : Int) t) w9 from .no k c t HG.out.symm hp (BB.out.trans hb) rfl)
  clear hp hb
  unfold WrongIs
  go_wp2_with fail
  exact HN.out

theorem putP_two (n : Nat) (l : List Tok) : putP2 n l = putP n l := by
  unfold putP2 putP placeP
  simp only [Res.bind_assoc, Res.bind_ok]
theorem stmt_all (p : Pp) (hE : Ends p.ts) (hW : Words p.ts) (hsm : p.ts.length ≤ 100000) : ∀ n d, d + n = 64 → StmtC p n d := by
  intro n
  induction n with
  | zero =>
    intro d hd k w h hk
    obtain ⟨t, ht⟩ := tok_at hk
    have hh := drop_hd ht
    unfold stmtP
    rw [hh]
    by_cases hb : beginsS t = true
    · rw [if_pos hb]
      exact stmt_wrong 12 t true p k d w h hk hE ht hb (fun w h => begin_nest p.pb p.tb p.tf p.tc k d p.ts t w h ht (by omega))
    · rw [if_neg hb]
      exact stmt_wrong 15 t false p k d w h hk hE ht (by simpa using hb) (fun w h => begin_no p.pb p.tb p.tf p.tc k d p.ts t w h ht)
  | succ n ih =>
    intro d hd k w h hk
    have HX := expr_all p hE hW n (d + 1) (by omega)
    have HT := ih (d + 1) (by omega)
    have HB : BlockC p n (d + 1) := fun k w h hk => block_p n p k (d + 1) w h hk hE hsm HT (stmtP_shs n)
    have hd' : d < 64 := by omega
    have hsh := (exprP_shs n).shr
    have hS1 := nameP_shs.shr
    obtain ⟨t, ht⟩ := tok_at hk
    have hh := drop_hd ht
    unfold stmtP
    by_cases hb : beginsS t = true
    case neg =>
      rw [hh, if_pos (by simpa using hb)]
      exact stmt_wrong 15 t false p k d w h hk hE ht (by simpa using hb) (fun w h => begin_no p.pb p.tb p.tf p.tc k d p.ts t w h ht)
    have hb' : beginsS (hdT (p.ts.drop k)) = true := by rw [hh]; exact hb
    rw [if_neg (by rw [hb']; decide), drop_tl]
    by_cases h1 : (hdT (p.ts.drop k)).text = wIf
    · rw [if_pos h1]
      exact stmt_if n p k d w h hk hE hsm hW hd' HX HB hsh hS1 hb' h1
    rw [if_neg h1]
    by_cases h2 : (hdT (p.ts.drop k)).text = wWhile
    · rw [if_pos h2]
      exact stmt_while n p k d w h hk hE hsm hW hd' HX HB hsh hS1 hb' h1 h2
    rw [if_neg h2]
    by_cases h3 : (hdT (p.ts.drop k)).text = wFor
    · rw [if_pos h3]
      exact stmt_for n p k d w h hk hE hsm hW hd' HX HB hsh hS1 hb' h1 h2 h3
    rw [if_neg h3]
    by_cases h4 : (hdT (p.ts.drop k)).kind = 1 ∧ (hdT (p.ts.drop (k + 1))).text = [91]
    · rw [if_pos h4]
      have := stmt_put n p k d w h hk hE hsm hW hd' HX HB hsh hS1 hb' h1 h2 h3 h4
      rw [putP_two] at this
      exact this
    rw [if_neg h4]
    by_cases h5 : (hdT (p.ts.drop k)).kind = 1 ∧ (hdT (p.ts.drop (k + 1))).text = [40]
    · rw [if_pos h5]
      exact stmt_call n p k d w h hk hE hsm hW hd' HX HB hsh hS1 hb' h1 h2 h3 h4 h5
    rw [if_neg h5]
    exact stmt_set n p k d w h hk hE hsm hW hd' HX HB hsh hS1 hb' h1 h2 h3 h4 h5
end Go.Proofs.YtchbnkepmeelkaaGreatDoor
