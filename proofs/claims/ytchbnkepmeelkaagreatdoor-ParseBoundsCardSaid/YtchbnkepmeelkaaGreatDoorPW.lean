/- A function. -/
import Derived.Test.YtchbnkepmeelkaaGreatDoorPU
import Derived.Test.YtchbnkepmeelkaaGreatDoorPV
import Derived.Deep.RegionHeld3
import Derived.Deep.RegionHeld
namespace Go.Proofs.YtchbnkepmeelkaaGreatDoor
open Go.RowKit

def RFnc : Rep Fnc := ⟨FncP, fun x s => x.val s, fun W N x s => x.Ok W N s⟩
theorem Fresh.grw {A B : Nat} {w w' : World} {P : World → Nat → Prop} (h : Fresh A B w P) {row : Option Nat} (hg : w.grownBy w' row) (hr : ∀ k, row = some k → B ≤ k) (hB : B ≤ w.heap.size) : Fresh A B w' P :=
  h.to ⟨Nat.le_trans hB hg.size, fun k _ h2 => hg.block k (by omega) (fun e => by have := hr k e.symm; omega)⟩
theorem whileP_more {α : Type} {one : List Tok → Res α} {b : Tok → Bool} {f : Nat} {l : List Tok} (h : b (hdT l) = true) : whileP one b (f + 1) l = (one l).bind fun a r => (whileP one b f r).bind fun as' r => .ok (a :: as') r := by
  rw [whileP, if_pos h]
theorem whileP_over {α : Type} {one : List Tok → Res α} {b : Tok → Bool} {f : Nat} {l : List Tok} (h : b (hdT l) = false) : whileP one b (f + 1) l = .ok [] l := by
  rw [whileP, if_neg (by rw [h]; decide)]
theorem own_slice {w : World} {base : Nat} {e : TypeId} {size n : Nat} {v : Value} {xs : List Value} (h : w.ownsRow base e size v n xs) : ∃ q c, v = .slice q n c := by
  rcases h.2 with ⟨rfl, rfl⟩ | ⟨g, cap, cur, rfl, _⟩
  · exact ⟨none, 0, rfl⟩
  · exact ⟨_, _, rfl⟩
theorem els_true {α σ : Type} (B0 : Nat) (w : World) (row : Option Nat) (zs : List (α × σ)) : Els B0 w row (fun _ _ _ _ => True) zs := fun _ _ => ⟨B0, 0, fun _ _ => trivial, Nat.le_refl _, Nat.zero_le _, fun _ _ => .inr (Nat.zero_le _)⟩
theorem variable_p (p : Pp) (k d : Nat) (w : World) (h : Ps w p.pb p.tb p.tf p.tc p.ts k d) (hk : k < p.ts.length) (hE : Ends p.ts) (hv : isVar (hdT (p.ts.drop k)) = true) :
    Calls Tryz.prog 156 #[.pointer (some ⟨p.pb, 0, none⟩)] w (Post RVar (variableP (p.ts.drop k)) p d w) := by
  unfold variableP
  rw [drop_tl]
  by_cases h0 : (hdT (p.ts.drop k)).text = wVar
  · rw [if_pos h0]
    exact variable_1 p k d w h hk hE h0
  rw [if_neg h0]
  by_cases h1 : (hdT (p.ts.drop k)).text = wArray
  · rw [if_pos h1]
    exact variable_2 p k d w h hk hE h0 h1
  rw [if_neg h1]
  by_cases h2 : (hdT (p.ts.drop k)).text = wStack
  · exact variable_3 p k d w h hk hE h0 h1 h2
  · simp [isVar, h0, h1, h2] at hv
set_option maxRecDepth 100000 in
set_option maxHeartbeats 3200000 in
theorem function_p (p : Pp) (k d : Nat) (w : World) (h : Ps w p.pb p.tb p.tf p.tc p.ts k d) (hk : k < p.ts.length) (hE : Ends p.ts) (hsm : p.ts.length ≤ 100000) (hW : Words p.ts) (h0 : d = 0) :
    Calls Tryz.prog 90 #[.pointer (some ⟨p.pb, 0, none⟩)] w (Post RFnc (functionP (p.ts.drop k)) p d w) := by
  obtain ⟨i0, hi, hz0, hz1, hz2⟩ := info_parts info_var4
  subst h0
  have HT := stmt_all p hE hW hsm 64 0 rfl
  have hpb := h.lt_pb
  have CFn := Lib.hid (fun (k : Nat) (w : World) (h : Ps w p.pb p.tb p.tf p.tc p.ts k 0) (hk : k < p.ts.length) => want_p wFn p k 0 w h hk hE (by decide))
  have CN := Lib.hid (fun (k : Nat) (w : World) (h : Ps w p.pb p.tb p.tf p.tc p.ts k 0) (hk : k < p.ts.length) => name_p p k 0 w h hk hE)
  have CO := Lib.hid (fun (k : Nat) (w : World) (h : Ps w p.pb p.tb p.tf p.tc p.ts k 0) (hk : k < p.ts.length) => want_p [123] p k 0 w h hk hE (by decide))
  have CP := Lib.hid (fun (k : Nat) (w : World) (h : Ps w p.pb p.tb p.tf p.tc p.ts k 0) (hk : k < p.ts.length) => paren_vars p k 0 w h hk hE hsm)
  have CY := Lib.hid (fun (k : Nat) (w : World) (h : Ps w p.pb p.tb p.tf p.tc p.ts k 0) (hk : k < p.ts.length) (hs : (hdT (p.ts.drop k)).text = [45, 62]) => And.intro (take_yes [45, 62] p k 0 w h hk hs) (hd_next hE hk (.inl (by rw [hs]; decide))))
  have CN2 := Lib.hid (fun (k : Nat) (w : World) (h : Ps w p.pb p.tb p.tf p.tc p.ts k 0) (hk : k < p.ts.length) (hs : (hdT (p.ts.drop k)).text ≠ [45, 62]) => take_no [45, 62] p k 0 w h hk hs)
  have CL := Lib.hid (fun (k : Nat) (w : World) (h : Ps w p.pb p.tb p.tf p.tc p.ts k 0) (hk : k < p.ts.length) => list_strings p k 0 w h hk hE hsm nameP_shs.shr)
  have CI1 := Lib.hid (fun (k : Nat) (w : World) (h : Ps w p.pb p.tb p.tf p.tc p.ts k 0) (hk : k < p.ts.length) => is_p wVar p k 0 w h hk)
  have CI2 := Lib.hid (fun (k : Nat) (w : World) (h : Ps w p.pb p.tb p.tf p.tc p.ts k 0) (hk : k < p.ts.length) => is_p wArray p k 0 w h hk)
  have CI3 := Lib.hid (fun (k : Nat) (w : World) (h : Ps w p.pb p.tb p.tf p.tc p.ts k 0) (hk : k < p.ts.length) => is_p wStack p k 0 w h hk)
  have CV := Lib.hid (fun (k : Nat) (w : World) (h : Ps w p.pb p.tb p.tf p.tc p.ts k 0) (hk : k < p.ts.length) (hv : isVar (hdT (p.ts.drop k)) = true) => variable_p p k 0 w h hk hE hv)
  have CB := Lib.hid (fun (k : Nat) (w : World) (h : Ps w p.pb p.tb p.tf p.tc p.ts k 0) (hk : k < p.ts.length) => bodyEnd_p 64 p k 0 w h hk hE hsm HT (stmtP_shs 64))
  have HL := Lib.hid (hsm)
  have HTb := Lib.hid (h.lt)
  obtain ⟨W0, hW0⟩ : ∃ W0, w.alloc (.cells #[.string ⟨#[]⟩, .slice none 0 0, .slice none 0 0, .slice none 0 0, .slice none 0 0] 83) = W0 := ⟨_, rfl⟩
  have hB0 : Below w.heap.size w W0 := by rw [← hW0]; exact (Below.refl _ _).alloc (Nat.le_refl _) _
  have Kr := Lib.hid (show W0.heap[w.heap.size]? = some (.cells #[.string ⟨#[]⟩, .slice none 0 0, .slice none 0 0, .slice none 0 0, .slice none 0 0] 83 (0, 0)) by rw [← hW0]; exact heap_alloc_new w _)
  have Nr := Lib.hid (Nat.ne_of_gt hpb)
  have Nr2 := Lib.hid (Nat.ne_of_gt h.lt)
  have BB := Lib.hid (But.of_below (g := p.pb) hB0)
  have SS := Lib.hid (And.intro (h.later hB0) hk)
  clear hB0
  have PB := Lib.hid hpb
  clear h hk hE hpb hsm hW HT
  generalize hG : (functionP (p.ts.drop k)) = G
  unfold functionP at hG
  have HG := Lib.hid hG
  clear hG
  go_enter Tryz.func90, Tryz.ntmps90
  go_wp2_with fail
  try rw [hW0]
  clear hW0
  obtain ⟨Af, hAf⟩ : ∃ A, W0.alloc (.cells #[.string ⟨#[]⟩, .slice none 0 0, .slice none 0 0, .slice none 0 0, .slice none 0 0] 83) = A := ⟨_, rfl⟩
  have VV := Lib.hid (show w.heap.size < W0.heap.size from (Array.getElem?_eq_some_iff.1 Kr.out).1)
  have hBA : Below W0.heap.size W0 Af := by rw [← hAf]; exact (Below.refl _ _).alloc (Nat.le_refl _) _
  replace Kr := Lib.hid ((hBA.block _ (Array.getElem?_eq_some_iff.1 Kr.out).1).trans Kr.out)
  have Kf := Lib.hid (show Af.heap[W0.heap.size]? = some (.cells #[.string ⟨#[]⟩, .slice none 0 0, .slice none 0 0, .slice none 0 0, .slice none 0 0] 83 (0, 0)) by rw [← hAf]; exact heap_alloc_new W0 _)
  have Nf := Lib.hid (Nat.ne_of_gt SS.out.1.lt_pb)
  have Tf := Lib.hid (Nat.ne_of_gt SS.out.1.lt)
  have Mf := Lib.hid (show w.heap.size ≤ W0.heap.size from BB.out.size)
  have Vf := Lib.hid (show w.heap.size < W0.heap.size from VV.out)
  replace SS := Lib.hid (And.intro (SS.out.1.later hBA) SS.out.2)
  replace BB := Lib.hid (BB.out.trans (But.of_below hBA))
  clear hBA
  have HAf := Lib.hid hAf
  clear hAf
  go_wp2_with fail
  try rw [HAf.out]
  clear HAf
  refine (CFn.out k Af SS.out.1 SS.out.2).mono ?_
  intro z w1 hc
  rcases hc with ⟨k1, a1, s1, hr, hkk, hp, hb, hz, hR⟩ | ⟨k1, e1, t1, hr, hp, hb, hz⟩
  rotate_left
  · subst hz
    have HN := Lib.hid (show Post RFnc G p 0 w (WrongIs (e1 : Int) t1) w1 from .no k1 e1 t1 (by rw [← HG.out]; simp only [hr, Res.bind_no]) hp (BB.out.trans hb) rfl)
    clear hr hp hb
    unfold WrongIs
    go_wp2_with fail
    exact ⟨rfl, HN.out⟩
  replace Kr := Lib.hid ((hb.block _ (Array.getElem?_eq_some_iff.1 Kr.out).1 Nr.out).trans Kr.out)
  replace Kf := Lib.hid ((hb.block _ (Array.getElem?_eq_some_iff.1 Kf.out).1 Nf.out).trans Kf.out)
  obtain rfl : z = .returned (.tuple #[]) := hz
  have R1 := Lib.hid hr
  replace SS := Lib.hid (And.intro hp hkk)
  replace BB := Lib.hid (BB.out.trans hb)
  clear hr hkk hp hb hR
  go_wp2_with fail
  have Va2 := Lib.hid (show w.heap.size < w1.heap.size from (Array.getElem?_eq_some_iff.1 Kr.out).1)
  have Ufa2 := Lib.hid (show W0.heap.size < w1.heap.size from (Array.getElem?_eq_some_iff.1 Kf.out).1)
  refine (CN.out k1 w1 SS.out.1 SS.out.2).mono ?_
  intro z w2 hc
  rcases hc with ⟨k2, a2, s2, hr, hkk, hp, hb, hz, hR⟩ | ⟨k2, e2, t2, hr, hp, hb, hz⟩
  rotate_left
  · subst hz
    have HN := Lib.hid (show Post RFnc G p 0 w (WrongIs (e2 : Int) t2) w2 from .no k2 e2 t2 (by rw [← HG.out]; simp only [R1.out, hr, Res.bind_ok, Res.bind_no]) hp (BB.out.trans hb) rfl)
    clear hr hp hb
    unfold WrongIs
    go_wp2_with fail
    exact ⟨rfl, HN.out⟩
  replace Kr := Lib.hid ((hb.block _ (Array.getElem?_eq_some_iff.1 Kr.out).1 Nr.out).trans Kr.out)
  replace Kf := Lib.hid ((hb.block _ (Array.getElem?_eq_some_iff.1 Kf.out).1 Nf.out).trans Kf.out)
  obtain rfl : z = .returned (.string (str a2)) := hz
  have R2 := Lib.hid hr
  replace SS := Lib.hid (And.intro hp hkk)
  replace BB := Lib.hid (BB.out.trans hb)
  clear hr hkk hp hb hR
  have u3 := cell_blk Kf.out (j := 0) rfl
  have v3 : w2.frozen? ⟨W0.heap.size, 0, none⟩ = false := by simp [World.frozen?, Kf.out]
  obtain ⟨E3, hE3⟩ : ∃ E, w2.setCell ⟨W0.heap.size, 0, none⟩ (.string (str a2)) = E := ⟨_, rfl⟩
  have hEo : ∀ j, j ≠ W0.heap.size → E3.heap[j]? = w2.heap[j]? := fun j hj => by rw [← hE3]; exact Below.heap_setCell w2 _ _ _ hj
  have hEz : E3.heap.size = w2.heap.size := by rw [← hE3]; simp [World.setCell]
  have hEk : E3.heap[W0.heap.size]? = some (.cells #[.string (str a2), .slice none 0 0, .slice none 0 0, .slice none 0 0, .slice none 0 0] 83 (0, 0)) := by rw [← hE3, setCell_eq_setRow _ _ _ _ 83 (0, 0) _ Kf.out]; exact setRow_heap _ _ _ _ 83 (0, 0) Kf.out
  replace Kr := Lib.hid ((hEo _ (Nat.ne_of_lt Vf.out)).trans Kr.out)
  replace Kf := Lib.hid hEk
  have hSo := SS.out.1.other (p := ⟨W0.heap.size, 0, none⟩) Nf.out Tf.out (.string (str a2))
  have hBo := BB.out.putNew (p := ⟨W0.heap.size, 0, none⟩) Mf.out (.string (str a2))
  rw [hE3] at hSo hBo
  replace SS := Lib.hid (And.intro hSo SS.out.2)
  replace BB := Lib.hid hBo
  clear hEo hEz hEk hSo hBo
  go_wp2_with fail
  try rw [hE3]
  clear hE3 u3 v3
  have Va4 := Lib.hid (show w.heap.size < E3.heap.size from (Array.getElem?_eq_some_iff.1 Kr.out).1)
  have Ufa4 := Lib.hid (show W0.heap.size < E3.heap.size from (Array.getElem?_eq_some_iff.1 Kf.out).1)
  refine (CP.out k2 E3 SS.out.1 SS.out.2).mono ?_
  intro z w4 hc
  rcases hc with ⟨k4, a4, s4, hr, hkk, hp, hb, hz, hR⟩ | ⟨k4, e4, t4, hr, hp, hb, hz⟩
  rotate_left
  · subst hz
    have HN := Lib.hid (show Post RFnc G p 0 w (WrongIs (e4 : Int) t4) w4 from .no k4 e4 t4 (by rw [← HG.out]; simp only [R1.out, R2.out, hr, Res.bind_ok, Res.bind_no]) hp (BB.out.trans hb) rfl)
    clear hr hp hb
    unfold WrongIs
    go_wp2_with fail
    exact ⟨rfl, HN.out⟩
  replace Kr := Lib.hid ((hb.block _ (Array.getElem?_eq_some_iff.1 Kr.out).1 Nr.out).trans Kr.out)
  replace Kf := Lib.hid ((hb.block _ (Array.getElem?_eq_some_iff.1 Kf.out).1 Nf.out).trans Kf.out)
  obtain ⟨qa4, ca4⟩ := s4
  obtain rfl : z = .returned (.slice qa4 a4.length ca4) := hz
  have Fa4 := Lib.hid (show Fresh E3.heap.size w4.heap.size w4 (fun W N => a4.length ≤ ca4 ∧ RowIn N (Vr.At W) 4 a4 qa4) from hR)
  have Ga4 := Lib.hid SS.out.1.lt_pb
  have Za4 := Lib.hid (Nat.le_refl w4.heap.size)
  have Ya4 := Lib.hid (show w.heap.size ≤ E3.heap.size from BB.out.size)
  have R4 := Lib.hid hr
  replace SS := Lib.hid (And.intro hp hkk)
  replace BB := Lib.hid (BB.out.trans hb)
  clear hr hkk hp hb hR
  have u5 := cell_blk Kf.out (j := 1) rfl
  have v5 : w4.frozen? ⟨W0.heap.size, 1, none⟩ = false := by simp [World.frozen?, Kf.out]
  obtain ⟨E5, hE5⟩ : ∃ E, w4.setCell ⟨W0.heap.size, 1, none⟩ (.slice qa4 a4.length ca4) = E := ⟨_, rfl⟩
  have hEo : ∀ j, j ≠ W0.heap.size → E5.heap[j]? = w4.heap[j]? := fun j hj => by rw [← hE5]; exact Below.heap_setCell w4 _ _ _ hj
  have hEz : E5.heap.size = w4.heap.size := by rw [← hE5]; simp [World.setCell]
  have hEk : E5.heap[W0.heap.size]? = some (.cells #[.string (str a2), .slice qa4 a4.length ca4, .slice none 0 0, .slice none 0 0, .slice none 0 0] 83 (0, 0)) := by rw [← hE5, setCell_eq_setRow _ _ _ _ 83 (0, 0) _ Kf.out]; exact setRow_heap _ _ _ _ 83 (0, 0) Kf.out
  replace Kr := Lib.hid ((hEo _ (Nat.ne_of_lt Vf.out)).trans Kr.out)
  replace Kf := Lib.hid hEk
  replace Fa4 := Lib.hid (Fa4.out.to (Agr.at hEz hEo (by first | exact Or.inl Ufa4.out | exact Or.inr Ufa4.out) Za4.out))
  replace Za4 := Lib.hid (Nat.le_trans Za4.out (Nat.le_of_eq hEz.symm))
  have hSo := SS.out.1.other (p := ⟨W0.heap.size, 1, none⟩) Nf.out Tf.out (.slice qa4 a4.length ca4)
  have hBo := BB.out.putNew (p := ⟨W0.heap.size, 1, none⟩) Mf.out (.slice qa4 a4.length ca4)
  rw [hE5] at hSo hBo
  replace SS := Lib.hid (And.intro hSo SS.out.2)
  replace BB := Lib.hid hBo
  clear hEo hEz hEk hSo hBo
  rcases Classical.em ((hdT (p.ts.drop k4)).text = [45, 62]) with ht | ht
  · have Hht := Lib.hid ht
    have HY := Lib.hid (CY.out k4 E5 SS.out.1 SS.out.2 ht)
    clear ht
    go_wp2_with fail
    try rw [hE5]
    clear hE5 u5 v5
    refine (HY.out.1).mono ?_
    rintro z w6 ⟨rfl, hp, hb⟩
    replace Kr := Lib.hid ((hb.block _ (Array.getElem?_eq_some_iff.1 Kr.out).1 Nr.out).trans Kr.out)
    replace Kf := Lib.hid ((hb.block _ (Array.getElem?_eq_some_iff.1 Kf.out).1 Nf.out).trans Kf.out)
    replace Fa4 := Lib.hid (Fa4.out.but hb Ga4.out Za4.out)
    replace Za4 := Lib.hid (Nat.le_trans Za4.out hb.size)
    replace Ya4 := Lib.hid Ya4.out
    replace SS := Lib.hid (And.intro hp HY.out.2)
    replace BB := Lib.hid (BB.out.trans hb)
    clear hp hb
    go_wp2_with fail
    have Va7 := Lib.hid (show w.heap.size < w6.heap.size from (Array.getElem?_eq_some_iff.1 Kr.out).1)
    have Ufa7 := Lib.hid (show W0.heap.size < w6.heap.size from (Array.getElem?_eq_some_iff.1 Kf.out).1)
    refine (CL.out (k4 + 1) w6 SS.out.1 SS.out.2).mono ?_
    intro z w7 hc
    rcases hc with ⟨k7, a7, s7, hr, hkk, hp, hb, hz, hR⟩ | ⟨k7, e7, t7, hr, hp, hb, hz⟩
    rotate_left
    · subst hz
      have HN := Lib.hid (show Post RFnc G p 0 w (WrongIs (e7 : Int) t7) w7 from .no k7 e7 t7 (by rw [← HG.out]; simp only [R1.out, R2.out, R4.out, if_pos Hht.out, drop_tl, hr, Res.bind_ok, Res.bind_no]) hp (BB.out.trans hb) rfl)
      clear hr hp hb
      unfold WrongIs
      go_wp2_with fail
      exact ⟨rfl, HN.out⟩
    replace Kr := Lib.hid ((hb.block _ (Array.getElem?_eq_some_iff.1 Kr.out).1 Nr.out).trans Kr.out)
    replace Kf := Lib.hid ((hb.block _ (Array.getElem?_eq_some_iff.1 Kf.out).1 Nf.out).trans Kf.out)
    replace Fa4 := Lib.hid (Fa4.out.but hb Ga4.out Za4.out)
    replace Za4 := Lib.hid (Nat.le_trans Za4.out hb.size)
    replace Ya4 := Lib.hid Ya4.out
    obtain ⟨qa7, ca7⟩ := s7
    obtain rfl : z = .returned (.slice qa7 a7.length ca7) := hz
    have Fa7 := Lib.hid (show Fresh w6.heap.size w7.heap.size w7 (fun W N => a7.length ≤ ca7 ∧ RowIn N (StrAt W) 1 a7 qa7) from hR)
    have Ga7 := Lib.hid SS.out.1.lt_pb
    have Za7 := Lib.hid (Nat.le_refl w7.heap.size)
    have Ya7 := Lib.hid (show w.heap.size ≤ w6.heap.size from BB.out.size)
    have R7 := Lib.hid hr
    replace SS := Lib.hid (And.intro hp hkk)
    replace BB := Lib.hid (BB.out.trans hb)
    clear hr hkk hp hb hR
    have u8 := cell_blk Kf.out (j := 3) rfl
    have v8 : w7.frozen? ⟨W0.heap.size, 3, none⟩ = false := by simp [World.frozen?, Kf.out]
    obtain ⟨E8, hE8⟩ : ∃ E, w7.setCell ⟨W0.heap.size, 3, none⟩ (.slice qa7 a7.length ca7) = E := ⟨_, rfl⟩
    have hEo : ∀ j, j ≠ W0.heap.size → E8.heap[j]? = w7.heap[j]? := fun j hj => by rw [← hE8]; exact Below.heap_setCell w7 _ _ _ hj
    have hEz : E8.heap.size = w7.heap.size := by rw [← hE8]; simp [World.setCell]
    have hEk : E8.heap[W0.heap.size]? = some (.cells #[.string (str a2), .slice qa4 a4.length ca4, .slice none 0 0, .slice qa7 a7.length ca7, .slice none 0 0] 83 (0, 0)) := by rw [← hE8, setCell_eq_setRow _ _ _ _ 83 (0, 0) _ Kf.out]; exact setRow_heap _ _ _ _ 83 (0, 0) Kf.out
    replace Kr := Lib.hid ((hEo _ (Nat.ne_of_lt Vf.out)).trans Kr.out)
    replace Kf := Lib.hid hEk
    replace Fa4 := Lib.hid (Fa4.out.to (Agr.at hEz hEo (by first | exact Or.inl Ufa4.out | exact Or.inr Ufa4.out) Za4.out))
    replace Za4 := Lib.hid (Nat.le_trans Za4.out (Nat.le_of_eq hEz.symm))
    replace Fa7 := Lib.hid (Fa7.out.to (Agr.at hEz hEo (by first | exact Or.inl Ufa7.out | exact Or.inr Ufa7.out) Za7.out))
    replace Za7 := Lib.hid (Nat.le_trans Za7.out (Nat.le_of_eq hEz.symm))
    have hSo := SS.out.1.other (p := ⟨W0.heap.size, 3, none⟩) Nf.out Tf.out (.slice qa7 a7.length ca7)
    have hBo := BB.out.putNew (p := ⟨W0.heap.size, 3, none⟩) Mf.out (.slice qa7 a7.length ca7)
    rw [hE8] at hSo hBo
    replace SS := Lib.hid (And.intro hSo SS.out.2)
    replace BB := Lib.hid hBo
    clear hEo hEz hEk hSo hBo
    go_wp2_with fail
    try rw [hE8]
    clear hE8 u8 v8
    refine (CO.out k7 E8 SS.out.1 SS.out.2).mono ?_
    intro z w9 hc
    rcases hc with ⟨k9, a9, s9, hr, hkk, hp, hb, hz, hR⟩ | ⟨k9, e9, t9, hr, hp, hb, hz⟩
    rotate_left
    · subst hz
      have HN := Lib.hid (show Post RFnc G p 0 w (WrongIs (e9 : Int) t9) w9 from .no k9 e9 t9 (by rw [← HG.out]; simp only [R1.out, R2.out, R4.out, R7.out, if_pos Hht.out, drop_tl, hr, Res.bind_ok, Res.bind_no]) hp (BB.out.trans hb) rfl)
      clear hr hp hb
      unfold WrongIs
      go_wp2_with fail
      exact ⟨rfl, HN.out⟩
    replace Kr := Lib.hid ((hb.block _ (Array.getElem?_eq_some_iff.1 Kr.out).1 Nr.out).trans Kr.out)
    replace Kf := Lib.hid ((hb.block _ (Array.getElem?_eq_some_iff.1 Kf.out).1 Nf.out).trans Kf.out)
    replace Fa4 := Lib.hid (Fa4.out.but hb Ga4.out Za4.out)
    replace Za4 := Lib.hid (Nat.le_trans Za4.out hb.size)
    replace Ya4 := Lib.hid Ya4.out
    replace Fa7 := Lib.hid (Fa7.out.but hb Ga7.out Za7.out)
    replace Za7 := Lib.hid (Nat.le_trans Za7.out hb.size)
    replace Ya7 := Lib.hid Ya7.out
    obtain rfl : z = .returned (.tuple #[]) := hz
    have R9 := Lib.hid hr
    replace SS := Lib.hid (And.intro hp hkk)
    replace BB := Lib.hid (BB.out.trans hb)
    clear hr hkk hp hb hR
    have HFb := Lib.hid (show W0.heap.size < w9.heap.size from (Array.getElem?_eq_some_iff.1 Kf.out).1)
    have HRb := Lib.hid (show w.heap.size < w9.heap.size from (Array.getElem?_eq_some_iff.1 Kr.out).1)
    have HPBl := Lib.hid SS.out.1.lt_pb
    have HTBl := Lib.hid SS.out.1.lt
    have Ba4 := Lib.hid Za4.out
    have Ba7 := Lib.hid Za7.out
    go_wp2_with fail
    go_loopw [] (fun wr => ∃ (zs : List (Vr × Unit)) (kk fu : Nat) (v : Value), Hid (zs.length ≤ kk) ∧ Hid ((p.ts.drop kk).length < fu) ∧ Hid (wr.ownsRow w9.heap.size 108 4 v zs.length (encs (fun (x : Vr) (_ : Unit) => [.string (str x.name), .int .i64 x.kind, .int .i64 x.size, .bool x.secret]) zs)) ∧ Hid (wr.heap[W0.heap.size]? = some (.cells #[.string (str a2), .slice qa4 a4.length ca4, v, .slice qa7 a7.length ca7, .slice none 0 0] 83 (0, 0))) ∧ Hid (wr.heap[w.heap.size]? = some (.cells #[.string ⟨#[]⟩, .slice none 0 0, .slice none 0 0, .slice none 0 0, .slice none 0 0] 83 (0, 0))) ∧ Hid (Ps wr p.pb p.tb p.tf p.tc p.ts kk 0 ∧ kk < p.ts.length) ∧ Hid (But p.pb w wr) ∧ Hid (w9.heap.size ≤ wr.heap.size) ∧ Hid (Fresh E3.heap.size w4.heap.size wr (fun W N => a4.length ≤ ca4 ∧ RowIn N (Vr.At W) 4 a4 qa4)) ∧ Hid (Fresh w6.heap.size w7.heap.size wr (fun W N => a7.length ≤ ca7 ∧ RowIn N (StrAt W) 1 a7 qa7)) ∧ Hid (G = (whileP variableP isVar fu (p.ts.drop kk)).bind fun vs r => (bodyP (stmtP 64) r).bind fun b r => .ok (⟨a2, a4, zs.map Prod.fst ++ vs, a7, b⟩ : Fnc) r)) (fun wr => p.ts.length - atOf wr p.pb)
    case atStart =>
      refine ⟨[], k9, (p.ts.drop k9).length + 1, .slice none 0 0, Lib.hid (Nat.zero_le _), Lib.hid (Nat.lt_succ_self _), Lib.hid (World.ownsRow_nil _ _ _ _), Kf, Kr, SS, BB, Lib.hid (Nat.le_refl _), Fa4, Fa7, Lib.hid ?_⟩
      rw [← HG.out]; simp only [R1.out, R2.out, R4.out, R7.out, R9.out, if_pos Hht.out, drop_tl, Res.bind_ok]; rfl
    case round =>
      clear Fa4
      clear Fa7
      clear Kf Kr SS BB
      obtain ⟨zs, kk, fu, v, hzk, hfu, HO, Kf, Kr, SS, BB, HWz, Fa4, Fa7, HGr⟩ := hrel
      replace Za4 := Lib.hid (Nat.le_trans Za4.out HWz.out)
      replace Za7 := Lib.hid (Nat.le_trans Za7.out HWz.out)
      obtain ⟨g, rfl⟩ : ∃ g, fu = g + 1 := ⟨fu - 1, by have := hfu.out; omega⟩
      have HLn := Lib.hid (show zs.length + 1 ≤ 100001 by have h1 := hzk.out; have h2 := SS.out.2; have h3 := HL.out; omega)
      have HPr := SS
      rcases Classical.em ((hdT (p.ts.drop kk)).text = wVar) with t1 | t1
      · have HI := Lib.hid (CI1.out kk wr SS.out.1 SS.out.2)
        rw [decide_eq_true t1] at HI
        go_wp2_with fail
        refine (HI.out).mono ?_
        rintro z w10 ⟨rfl, hBX⟩
        replace Kr := Lib.hid ((hBX.block _ (Array.getElem?_eq_some_iff.1 Kr.out).1).trans Kr.out)
        replace Kf := Lib.hid ((hBX.block _ (Array.getElem?_eq_some_iff.1 Kf.out).1).trans Kf.out)
        replace Fa4 := Lib.hid (Fa4.out.bel hBX Za4.out)
        replace Za4 := Lib.hid (Nat.le_trans Za4.out hBX.size)
        replace Ya4 := Lib.hid Ya4.out
        replace Fa7 := Lib.hid (Fa7.out.bel hBX Za7.out)
        replace Za7 := Lib.hid (Nat.le_trans Za7.out hBX.size)
        replace Ya7 := Lib.hid Ya7.out
        replace HO := Lib.hid (own_bel HO.out hBX)
        replace HWz := Lib.hid (Nat.le_trans HWz.out hBX.size)
        replace SS := Lib.hid (And.intro (SS.out.1.later hBX) SS.out.2)
        replace BB := Lib.hid (BB.out.trans (But.of_below hBX))
        clear hBX
        clear HI
        have HV := Lib.hid (show isVar (hdT (p.ts.drop kk)) = true by simp [isVar, t1])
        have HGy := Lib.hid (HGr.out.trans (by rw [whileP_more HV.out]))
        clear HGr t1
        have HG := Lib.hid HGy.out.symm
        go_wp2_with fail
        have hBD : Below w10.heap.size w10 w10.drew := (Below.refl _ _).drew
        replace Kr := Lib.hid ((hBD.block _ (Array.getElem?_eq_some_iff.1 Kr.out).1).trans Kr.out)
        replace Kf := Lib.hid ((hBD.block _ (Array.getElem?_eq_some_iff.1 Kf.out).1).trans Kf.out)
        replace Fa4 := Lib.hid (Fa4.out.bel hBD Za4.out)
        replace Za4 := Lib.hid (Nat.le_trans Za4.out hBD.size)
        replace Ya4 := Lib.hid Ya4.out
        replace Fa7 := Lib.hid (Fa7.out.bel hBD Za7.out)
        replace Za7 := Lib.hid (Nat.le_trans Za7.out hBD.size)
        replace Ya7 := Lib.hid Ya7.out
        replace HO := Lib.hid (own_bel HO.out hBD)
        replace HWz := Lib.hid (Nat.le_trans HWz.out hBD.size)
        replace SS := Lib.hid (And.intro (SS.out.1.later hBD) SS.out.2)
        replace BB := Lib.hid (BB.out.trans (But.of_below hBD))
        clear hBD
        refine wp_region_held_drew (S := fun _ => True) (by kernel_rfl) ?_ (fun hHeld => ?_)
        · trivial
        generalize w10.drew = wd at *
        refine wpAnyH_take (i := 0) (oi := ⟨some 33, .fieldAddr 83 (.tmp 3) 2, 0, "program.go:47", #[], none⟩) (v := ?_) rfl (by kernel_rfl) (by kernel_rfl) (by kernel_rfl) (fun _ _ _ h => h) (Or.inl ⟨by rfl, ?_⟩) (by assumption) ?_
        rotate_left
        · (intro w hSw; (try dsimp only at hSw); go_simp; try with_reducible rfl)
        try simp only [Act.put, List.setIfInBounds_toArray, List.set_cons_zero, List.set_cons_succ]
        refine wpAnyH_take (i := 2) (oi := ⟨some 35, .move (.tmp 0), 73, "program.go:47", #[], none⟩) (v := ?_) rfl (by kernel_rfl) (by kernel_rfl) (by kernel_rfl) (fun _ _ _ h => h) (Or.inl ⟨by rfl, ?_⟩) (by assumption) ?_
        rotate_left
        · (intro w hSw; (try dsimp only at hSw); go_simp; try with_reducible rfl)
        try simp only [Act.put, List.setIfInBounds_toArray, List.set_cons_zero, List.set_cons_succ]
        refine wpAnyH_ready (rs := [1, 3]) (by kernel_rfl) (by simp) ?_
        refine (AllReadyH.cons (o := ⟨some 34, .load 81 (.tmp 33), 81, "program.go:47", #[⟨0, .data⟩], none⟩) rfl (fun K hK => ?_) (AllReadyH.cons (o := ⟨some 36, .call { callee := .value (.func 156), args := #[.tmp 35], argTypes := #[73] }, 108, "program.go:47", #[⟨2, .data⟩], none⟩) rfl (fun K hK => ?_) AllReadyH.nil))
        · have lv := cell_blk Kf.out (j := 2) rfl
          go_simp
          clear lv
          refine hK.out _ _ trivial (fun hHeld => ?_)
          clear hK K
          try simp only [Act.put, List.setIfInBounds_toArray, List.set_cons_zero, List.set_cons_succ]
          refine wpAnyH_ready (rs := [3]) (by kernel_rfl) (by simp) ?_
          refine (AllReadyH.cons (o := ⟨some 36, .call { callee := .value (.func 156), args := #[.tmp 35], argTypes := #[73] }, 108, "program.go:47", #[⟨2, .data⟩], none⟩) rfl (fun K hK => ?_) AllReadyH.nil)
          go_simp
          have Va11 := Lib.hid (show w.heap.size < wd.heap.size from (Array.getElem?_eq_some_iff.1 Kr.out).1)
          have Ufa11 := Lib.hid (show W0.heap.size < wd.heap.size from (Array.getElem?_eq_some_iff.1 Kf.out).1)
          refine (CV.out kk wd SS.out.1 SS.out.2 HV.out).mono ?_
          intro z w11 hc
          rcases hc with ⟨k11, a11, s11, hr, hkk, hp, hb, hz, hR⟩ | ⟨k11, e11, t11, hr, hp, hb, hz⟩
          rotate_left
          · subst hz
            have HN := Lib.hid (show Post RFnc G p 0 w (WrongIs (e11 : Int) t11) w11 from .no k11 e11 t11 (by rw [← HG.out]; simp only [hr, Res.bind_no]) hp (BB.out.trans hb) rfl)
            clear hr hp hb
            unfold WrongIs
            go_simp
            exact ⟨rfl, HN.out⟩
          replace Kr := Lib.hid ((hb.block _ (Array.getElem?_eq_some_iff.1 Kr.out).1 Nr.out).trans Kr.out)
          replace Kf := Lib.hid ((hb.block _ (Array.getElem?_eq_some_iff.1 Kf.out).1 Nf.out).trans Kf.out)
          replace Fa4 := Lib.hid (Fa4.out.but hb Ga4.out Za4.out)
          replace Za4 := Lib.hid (Nat.le_trans Za4.out hb.size)
          replace Ya4 := Lib.hid Ya4.out
          replace Fa7 := Lib.hid (Fa7.out.but hb Ga7.out Za7.out)
          replace Za7 := Lib.hid (Nat.le_trans Za7.out hb.size)
          replace Ya7 := Lib.hid Ya7.out
          replace HO := Lib.hid (own_but HO.out hb HPBl.out)
          replace HWz := Lib.hid (Nat.le_trans HWz.out hb.size)
          obtain rfl : z = .returned (.agg #[.string (str a11.name), .int .i64 a11.kind, .int .i64 a11.size, .bool a11.secret]) := hz
          have R11 := Lib.hid hr
          replace SS := Lib.hid (And.intro hp hkk)
          replace BB := Lib.hid (BB.out.trans hb)
          clear hr hkk hp hb hR
          refine hK.out _ _ trivial (fun hHeld => ?_)
          clear hK K
          try simp only [Act.put, List.setIfInBounds_toArray, List.set_cons_zero, List.set_cons_succ]
          refine wpAnyH_ready (rs := [4]) (by kernel_rfl) (by simp) ?_
          refine (AllReadyH.cons (o := ⟨some 37, .buildSlice 81 1 #[(0, .tmp 36)], 81, "program.go:47", #[⟨3, .data⟩], none⟩) rfl (fun K hK => ?_) AllReadyH.nil)
          go_simp
          obtain ⟨Ag, hAg⟩ : ∃ A, w11.alloc (.cells #[.string (str a11.name), .int .i64 a11.kind, .int .i64 a11.size, .bool a11.secret] 108) = A := ⟨_, rfl⟩
          have VV := Lib.hid (show w.heap.size < w11.heap.size from (Array.getElem?_eq_some_iff.1 Kr.out).1)
          have Xa4 := Lib.hid Za4.out
          have Xa7 := Lib.hid Za7.out
          have Xf := Lib.hid (Array.getElem?_eq_some_iff.1 Kf.out).1
          have hBA : Below w11.heap.size w11 Ag := by rw [← hAg]; exact (Below.refl _ _).alloc (Nat.le_refl _) _
          replace Kr := Lib.hid ((hBA.block _ (Array.getElem?_eq_some_iff.1 Kr.out).1).trans Kr.out)
          replace Kf := Lib.hid ((hBA.block _ (Array.getElem?_eq_some_iff.1 Kf.out).1).trans Kf.out)
          replace Fa4 := Lib.hid (Fa4.out.bel hBA Za4.out)
          replace Za4 := Lib.hid (Nat.le_trans Za4.out hBA.size)
          replace Ya4 := Lib.hid Ya4.out
          replace Fa7 := Lib.hid (Fa7.out.bel hBA Za7.out)
          replace Za7 := Lib.hid (Nat.le_trans Za7.out hBA.size)
          replace Ya7 := Lib.hid Ya7.out
          replace HO := Lib.hid (own_bel HO.out hBA)
          replace HWz := Lib.hid (Nat.le_trans HWz.out hBA.size)
          have Kg := Lib.hid (show Ag.heap[w11.heap.size]? = some (.cells #[.string (str a11.name), .int .i64 a11.kind, .int .i64 a11.size, .bool a11.secret] 108 (0, 0)) by rw [← hAg]; exact heap_alloc_new w11 _)
          have Ng := Lib.hid (Nat.ne_of_gt SS.out.1.lt_pb)
          have Tg := Lib.hid (Nat.ne_of_gt SS.out.1.lt)
          have Uga4 := Lib.hid (show _ ≤ w11.heap.size from Xa4.out)
          have Uga7 := Lib.hid (show _ ≤ w11.heap.size from Xa7.out)
          have Lfg := Lib.hid (show W0.heap.size < w11.heap.size from Xf.out)
          have Mg := Lib.hid (show w.heap.size ≤ w11.heap.size from BB.out.size)
          have Vg := Lib.hid (show w.heap.size < w11.heap.size from VV.out)
          replace SS := Lib.hid (And.intro (SS.out.1.later hBA) SS.out.2)
          replace BB := Lib.hid (BB.out.trans (But.of_below hBA))
          clear hBA
          have HAg := Lib.hid hAg
          clear hAg
          rw [HAg.out]
          clear HAg
          refine hK.out _ _ trivial (fun hHeld => ?_)
          clear hK K
          try simp only [Act.put, List.setIfInBounds_toArray, List.set_cons_zero, List.set_cons_succ]
          refine wpAnyH_ready (rs := [5]) (by kernel_rfl) (by simp) ?_
          refine (AllReadyH.cons (o := ⟨some 38, .call { callee := .builtin .append, args := #[.tmp 34, .tmp 37], argTypes := #[81, 81] }, 81, "program.go:47", #[⟨1, .data⟩, ⟨4, .data⟩, ⟨3, .chain⟩], none⟩) rfl (fun K hK => ?_) AllReadyH.nil)
          rw [if_pos (by rfl)]
          refine wp_append_own _ _ _ 81 rfl w9.heap.size 108 i0 (.agg #[.string ByteArray.empty, .int .i64 0, .int .i64 0, .bool false]) 4 40 Tryz.underlying81 hi hz0 hz1 hz2 rfl (by decide) _ _ _ rfl HO.out ⟨w11.heap.size, 0, none⟩ 1 1 [.string (str a11.name), .int .i64 a11.kind, .int .i64 a11.size, .bool a11.secret] rfl rfl ?_ ?_ ?_ ?_ HWz.out ?_
          · intro j u hj
            have := cell_blk Kg.out (j := j) (v := u) (by rw [← Array.getElem?_toList]; exact hj)
            rw [add_of, Nat.zero_add]
            exact this
          · intro u hu
            simp only [List.mem_cons, List.not_mem_nil, or_false] at hu
            rcases hu with rfl | rfl | rfl | rfl <;> rfl
          · have := HLn.out; unfold maxLen; omega
          · have := HLn.out; omega
          intro v' w12 hown hgrow _
          obtain ⟨qn, cn, rfl⟩ := own_slice hown
          replace Kr := Lib.hid ((hgrow.block _ (Array.getElem?_eq_some_iff.1 Kr.out).1 (fun e => Nat.ne_of_lt (Nat.lt_of_lt_of_le (HRb.out) (HO.out.lt _ e.symm).1) rfl)).trans Kr.out)
          replace Kf := Lib.hid ((hgrow.block _ (Array.getElem?_eq_some_iff.1 Kf.out).1 (fun e => Nat.ne_of_lt (Nat.lt_of_lt_of_le (HFb.out) (HO.out.lt _ e.symm).1) rfl)).trans Kf.out)
          replace Fa4 := Lib.hid (Fa4.out.grw hgrow (fun j hj => Nat.le_trans Ba4.out (HO.out.lt j hj).1) Za4.out)
          replace Za4 := Lib.hid (Nat.le_trans Za4.out hgrow.size)
          replace Fa7 := Lib.hid (Fa7.out.grw hgrow (fun j hj => Nat.le_trans Ba7.out (HO.out.lt j hj).1) Za7.out)
          replace Za7 := Lib.hid (Nat.le_trans Za7.out hgrow.size)
          replace SS := Lib.hid (And.intro (SS.out.1.grown hgrow (fun e => by have h1 := (HO.out.lt _ e).1; have h2 := HPBl.out; omega) (fun e => by have h1 := (HO.out.lt _ e).1; have h2 := HTBl.out; omega)) SS.out.2)
          replace BB := Lib.hid (BB.out.grown hgrow (fun j hj => Nat.le_trans (Nat.le_of_lt HRb.out) (HO.out.lt j hj).1))
          replace HWz := Lib.hid (Nat.le_trans HWz.out hgrow.size)
          replace HO := Lib.hid hown
          clear hown hgrow
          refine hK.out _ _ trivial (fun hHeld => ?_)
          clear hK K
          try simp only [Act.put, List.setIfInBounds_toArray, List.set_cons_zero, List.set_cons_succ]
          refine wpAnyH_take (i := 6) (oi := ⟨some 39, .fieldAddr 83 (.tmp 3) 2, 0, "program.go:47", #[⟨0, .phase⟩, ⟨1, .phase⟩, ⟨2, .phase⟩, ⟨3, .phase⟩, ⟨4, .phase⟩, ⟨5, .phase⟩], none⟩) (v := ?_) rfl (by kernel_rfl) (by kernel_rfl) (by kernel_rfl) (fun _ _ _ h => h) (Or.inl ⟨by rfl, ?_⟩) (by assumption) ?_
          rotate_left
          · (intro w hSw; (try dsimp only at hSw); go_simp; try with_reducible rfl)
          try simp only [Act.put, List.setIfInBounds_toArray, List.set_cons_zero, List.set_cons_succ]
          refine wpAnyH_ready (rs := [7]) (by kernel_rfl) (by simp) ?_
          refine (AllReadyH.cons (o := ⟨none, .store 81 (.tmp 39) (.tmp 38), 0, "program.go:47", #[⟨6, .data⟩, ⟨5, .data⟩, ⟨5, .chain⟩, ⟨0, .phase⟩, ⟨1, .phase⟩, ⟨2, .phase⟩, ⟨3, .phase⟩, ⟨4, .phase⟩, ⟨5, .phase⟩], none⟩) rfl (fun K hK => ?_) AllReadyH.nil)
          have lu := cell_blk Kf.out (j := 2) rfl
          have lf : w12.frozen? ⟨W0.heap.size, 2, none⟩ = false := by simp [World.frozen?, Kf.out]
          go_simp
          clear lu lf
          have u13 := cell_blk Kf.out (j := 2) rfl
          have v13 : w12.frozen? ⟨W0.heap.size, 2, none⟩ = false := by simp [World.frozen?, Kf.out]
          obtain ⟨E13, hE13⟩ : ∃ E, w12.setCell ⟨W0.heap.size, 2, none⟩ (.slice qn (zs.length + 1) cn) = E := ⟨_, rfl⟩
          have hEo : ∀ j, j ≠ W0.heap.size → E13.heap[j]? = w12.heap[j]? := fun j hj => by rw [← hE13]; exact Below.heap_setCell w12 _ _ _ hj
          have hEz : E13.heap.size = w12.heap.size := by rw [← hE13]; simp [World.setCell]
          have hEk : E13.heap[W0.heap.size]? = some (.cells #[.string (str a2), .slice qa4 a4.length ca4, .slice qn (zs.length + 1) cn, .slice qa7 a7.length ca7, .slice none 0 0] 83 (0, 0)) := by rw [← hE13, setCell_eq_setRow _ _ _ _ 83 (0, 0) _ Kf.out]; exact setRow_heap _ _ _ _ 83 (0, 0) Kf.out
          replace Kr := Lib.hid ((hEo _ (Nat.ne_of_lt Vf.out)).trans Kr.out)
          replace Kf := Lib.hid hEk
          replace HO := Lib.hid (own_block HO.out (fun g h1 _ => hEo g (Nat.ne_of_gt (Nat.lt_of_lt_of_le HFb.out h1))))
          replace HWz := Lib.hid (Nat.le_trans HWz.out (Nat.le_of_eq hEz.symm))
          replace Fa4 := Lib.hid (Fa4.out.to (Agr.at hEz hEo (by first | exact Or.inl Ufa4.out | exact Or.inr Ufa4.out) Za4.out))
          replace Za4 := Lib.hid (Nat.le_trans Za4.out (Nat.le_of_eq hEz.symm))
          replace Fa7 := Lib.hid (Fa7.out.to (Agr.at hEz hEo (by first | exact Or.inl Ufa7.out | exact Or.inr Ufa7.out) Za7.out))
          replace Za7 := Lib.hid (Nat.le_trans Za7.out (Nat.le_of_eq hEz.symm))
          have hSo := SS.out.1.other (p := ⟨W0.heap.size, 2, none⟩) Nf.out Tf.out (.slice qn (zs.length + 1) cn)
          have hBo := BB.out.putNew (p := ⟨W0.heap.size, 2, none⟩) Mf.out (.slice qn (zs.length + 1) cn)
          rw [hE13] at hSo hBo
          replace SS := Lib.hid (And.intro hSo SS.out.2)
          replace BB := Lib.hid hBo
          clear hEo hEz hEk hSo hBo
          rw [hE13]
          clear hE13 u13 v13
          refine hK.out _ _ trivial (fun hHeld => ?_)
          clear hK K
          try simp only [Act.put, List.setIfInBounds_toArray, List.set_cons_zero, List.set_cons_succ]
          refine wpAnyH_done (by kernel_rfl) ?_ _
          go_wp2_with fail
          go_roundw
          case rel =>
            refine ⟨zs ++ [(a11, ())], k11, g, .slice qn (zs.length + 1) cn, Lib.hid ?_, Lib.hid ?_, Lib.hid ?_, Kf, Kr, SS, BB, HWz, Fa4, Fa7, Lib.hid ?_⟩
            · have h1 := variableP_shs _ _ _ R11.out; rw [List.length_drop, List.length_drop] at h1; have h2 := hzk.out; have h3 := SS.out.2; rw [List.length_append, List.length_singleton]; omega
            · have h1 := variableP_shs _ _ _ R11.out; rw [List.length_drop, List.length_drop] at h1; have h2 := hfu.out; have h3 := SS.out.2; rw [List.length_drop] at h2 ⊢; omega
            · rw [List.length_append, encs_app]; exact HO.out
            · rw [HGy.out, R11.out, map_fst_snoc, Res.bind_ok, Res.bind_assoc]; simp only [Res.bind_ok, List.append_assoc, List.singleton_append]
          case measure =>
            have h1 := variableP_shs _ _ _ R11.out; rw [List.length_drop, List.length_drop] at h1; have h2 := SS.out.1.atOf; have h3 := HPr.out.1.atOf; have h4 := SS.out.2; have h5 := HPr.out.2; rw [h2, h3]; omega
        · go_simp
          have Va11 := Lib.hid (show w.heap.size < wd.heap.size from (Array.getElem?_eq_some_iff.1 Kr.out).1)
          have Ufa11 := Lib.hid (show W0.heap.size < wd.heap.size from (Array.getElem?_eq_some_iff.1 Kf.out).1)
          refine (CV.out kk wd SS.out.1 SS.out.2 HV.out).mono ?_
          intro z w11 hc
          rcases hc with ⟨k11, a11, s11, hr, hkk, hp, hb, hz, hR⟩ | ⟨k11, e11, t11, hr, hp, hb, hz⟩
          rotate_left
          · subst hz
            have HN := Lib.hid (show Post RFnc G p 0 w (WrongIs (e11 : Int) t11) w11 from .no k11 e11 t11 (by rw [← HG.out]; simp only [hr, Res.bind_no]) hp (BB.out.trans hb) rfl)
            clear hr hp hb
            unfold WrongIs
            go_simp
            exact ⟨rfl, HN.out⟩
          replace Kr := Lib.hid ((hb.block _ (Array.getElem?_eq_some_iff.1 Kr.out).1 Nr.out).trans Kr.out)
          replace Kf := Lib.hid ((hb.block _ (Array.getElem?_eq_some_iff.1 Kf.out).1 Nf.out).trans Kf.out)
          replace Fa4 := Lib.hid (Fa4.out.but hb Ga4.out Za4.out)
          replace Za4 := Lib.hid (Nat.le_trans Za4.out hb.size)
          replace Ya4 := Lib.hid Ya4.out
          replace Fa7 := Lib.hid (Fa7.out.but hb Ga7.out Za7.out)
          replace Za7 := Lib.hid (Nat.le_trans Za7.out hb.size)
          replace Ya7 := Lib.hid Ya7.out
          replace HO := Lib.hid (own_but HO.out hb HPBl.out)
          replace HWz := Lib.hid (Nat.le_trans HWz.out hb.size)
          obtain rfl : z = .returned (.agg #[.string (str a11.name), .int .i64 a11.kind, .int .i64 a11.size, .bool a11.secret]) := hz
          have R11 := Lib.hid hr
          replace SS := Lib.hid (And.intro hp hkk)
          replace BB := Lib.hid (BB.out.trans hb)
          clear hr hkk hp hb hR
          refine hK.out _ _ trivial (fun hHeld => ?_)
          clear hK K
          try simp only [Act.put, List.setIfInBounds_toArray, List.set_cons_zero, List.set_cons_succ]
          refine wpAnyH_ready (rs := [1, 4]) (by kernel_rfl) (by simp) ?_
          refine (AllReadyH.cons (o := ⟨some 34, .load 81 (.tmp 33), 81, "program.go:47", #[⟨0, .data⟩], none⟩) rfl (fun K hK => ?_) (AllReadyH.cons (o := ⟨some 37, .buildSlice 81 1 #[(0, .tmp 36)], 81, "program.go:47", #[⟨3, .data⟩], none⟩) rfl (fun K hK => ?_) AllReadyH.nil))
          · have lv := cell_blk Kf.out (j := 2) rfl
            go_simp
            clear lv
            refine hK.out _ _ trivial (fun hHeld => ?_)
            clear hK K
            try simp only [Act.put, List.setIfInBounds_toArray, List.set_cons_zero, List.set_cons_succ]
            refine wpAnyH_ready (rs := [4]) (by kernel_rfl) (by simp) ?_
            refine (AllReadyH.cons (o := ⟨some 37, .buildSlice 81 1 #[(0, .tmp 36)], 81, "program.go:47", #[⟨3, .data⟩], none⟩) rfl (fun K hK => ?_) AllReadyH.nil)
            go_simp
            obtain ⟨Ag, hAg⟩ : ∃ A, w11.alloc (.cells #[.string (str a11.name), .int .i64 a11.kind, .int .i64 a11.size, .bool a11.secret] 108) = A := ⟨_, rfl⟩
            have VV := Lib.hid (show w.heap.size < w11.heap.size from (Array.getElem?_eq_some_iff.1 Kr.out).1)
            have Xa4 := Lib.hid Za4.out
            have Xa7 := Lib.hid Za7.out
            have Xf := Lib.hid (Array.getElem?_eq_some_iff.1 Kf.out).1
            have hBA : Below w11.heap.size w11 Ag := by rw [← hAg]; exact (Below.refl _ _).alloc (Nat.le_refl _) _
            replace Kr := Lib.hid ((hBA.block _ (Array.getElem?_eq_some_iff.1 Kr.out).1).trans Kr.out)
            replace Kf := Lib.hid ((hBA.block _ (Array.getElem?_eq_some_iff.1 Kf.out).1).trans Kf.out)
            replace Fa4 := Lib.hid (Fa4.out.bel hBA Za4.out)
            replace Za4 := Lib.hid (Nat.le_trans Za4.out hBA.size)
            replace Ya4 := Lib.hid Ya4.out
            replace Fa7 := Lib.hid (Fa7.out.bel hBA Za7.out)
            replace Za7 := Lib.hid (Nat.le_trans Za7.out hBA.size)
            replace Ya7 := Lib.hid Ya7.out
            replace HO := Lib.hid (own_bel HO.out hBA)
            replace HWz := Lib.hid (Nat.le_trans HWz.out hBA.size)
            have Kg := Lib.hid (show Ag.heap[w11.heap.size]? = some (.cells #[.string (str a11.name), .int .i64 a11.kind, .int .i64 a11.size, .bool a11.secret] 108 (0, 0)) by rw [← hAg]; exact heap_alloc_new w11 _)
            have Ng := Lib.hid (Nat.ne_of_gt SS.out.1.lt_pb)
            have Tg := Lib.hid (Nat.ne_of_gt SS.out.1.lt)
            have Uga4 := Lib.hid (show _ ≤ w11.heap.size from Xa4.out)
            have Uga7 := Lib.hid (show _ ≤ w11.heap.size from Xa7.out)
            have Lfg := Lib.hid (show W0.heap.size < w11.heap.size from Xf.out)
            have Mg := Lib.hid (show w.heap.size ≤ w11.heap.size from BB.out.size)
            have Vg := Lib.hid (show w.heap.size < w11.heap.size from VV.out)
            replace SS := Lib.hid (And.intro (SS.out.1.later hBA) SS.out.2)
            replace BB := Lib.hid (BB.out.trans (But.of_below hBA))
            clear hBA
            have HAg := Lib.hid hAg
            clear hAg
            rw [HAg.out]
            clear HAg
            refine hK.out _ _ trivial (fun hHeld => ?_)
            clear hK K
            try simp only [Act.put, List.setIfInBounds_toArray, List.set_cons_zero, List.set_cons_succ]
            refine wpAnyH_ready (rs := [5]) (by kernel_rfl) (by simp) ?_
            refine (AllReadyH.cons (o := ⟨some 38, .call { callee := .builtin .append, args := #[.tmp 34, .tmp 37], argTypes := #[81, 81] }, 81, "program.go:47", #[⟨1, .data⟩, ⟨4, .data⟩, ⟨3, .chain⟩], none⟩) rfl (fun K hK => ?_) AllReadyH.nil)
            rw [if_pos (by rfl)]
            refine wp_append_own _ _ _ 81 rfl w9.heap.size 108 i0 (.agg #[.string ByteArray.empty, .int .i64 0, .int .i64 0, .bool false]) 4 40 Tryz.underlying81 hi hz0 hz1 hz2 rfl (by decide) _ _ _ rfl HO.out ⟨w11.heap.size, 0, none⟩ 1 1 [.string (str a11.name), .int .i64 a11.kind, .int .i64 a11.size, .bool a11.secret] rfl rfl ?_ ?_ ?_ ?_ HWz.out ?_
            · intro j u hj
              have := cell_blk Kg.out (j := j) (v := u) (by rw [← Array.getElem?_toList]; exact hj)
              rw [add_of, Nat.zero_add]
              exact this
            · intro u hu
              simp only [List.mem_cons, List.not_mem_nil, or_false] at hu
              rcases hu with rfl | rfl | rfl | rfl <;> rfl
            · have := HLn.out; unfold maxLen; omega
            · have := HLn.out; omega
            intro v' w12 hown hgrow _
            obtain ⟨qn, cn, rfl⟩ := own_slice hown
            replace Kr := Lib.hid ((hgrow.block _ (Array.getElem?_eq_some_iff.1 Kr.out).1 (fun e => Nat.ne_of_lt (Nat.lt_of_lt_of_le (HRb.out) (HO.out.lt _ e.symm).1) rfl)).trans Kr.out)
            replace Kf := Lib.hid ((hgrow.block _ (Array.getElem?_eq_some_iff.1 Kf.out).1 (fun e => Nat.ne_of_lt (Nat.lt_of_lt_of_le (HFb.out) (HO.out.lt _ e.symm).1) rfl)).trans Kf.out)
            replace Fa4 := Lib.hid (Fa4.out.grw hgrow (fun j hj => Nat.le_trans Ba4.out (HO.out.lt j hj).1) Za4.out)
            replace Za4 := Lib.hid (Nat.le_trans Za4.out hgrow.size)
            replace Fa7 := Lib.hid (Fa7.out.grw hgrow (fun j hj => Nat.le_trans Ba7.out (HO.out.lt j hj).1) Za7.out)
            replace Za7 := Lib.hid (Nat.le_trans Za7.out hgrow.size)
            replace SS := Lib.hid (And.intro (SS.out.1.grown hgrow (fun e => by have h1 := (HO.out.lt _ e).1; have h2 := HPBl.out; omega) (fun e => by have h1 := (HO.out.lt _ e).1; have h2 := HTBl.out; omega)) SS.out.2)
            replace BB := Lib.hid (BB.out.grown hgrow (fun j hj => Nat.le_trans (Nat.le_of_lt HRb.out) (HO.out.lt j hj).1))
            replace HWz := Lib.hid (Nat.le_trans HWz.out hgrow.size)
            replace HO := Lib.hid hown
            clear hown hgrow
            refine hK.out _ _ trivial (fun hHeld => ?_)
            clear hK K
            try simp only [Act.put, List.setIfInBounds_toArray, List.set_cons_zero, List.set_cons_succ]
            refine wpAnyH_take (i := 6) (oi := ⟨some 39, .fieldAddr 83 (.tmp 3) 2, 0, "program.go:47", #[⟨0, .phase⟩, ⟨1, .phase⟩, ⟨2, .phase⟩, ⟨3, .phase⟩, ⟨4, .phase⟩, ⟨5, .phase⟩], none⟩) (v := ?_) rfl (by kernel_rfl) (by kernel_rfl) (by kernel_rfl) (fun _ _ _ h => h) (Or.inl ⟨by rfl, ?_⟩) (by assumption) ?_
            rotate_left
            · (intro w hSw; (try dsimp only at hSw); go_simp; try with_reducible rfl)
            try simp only [Act.put, List.setIfInBounds_toArray, List.set_cons_zero, List.set_cons_succ]
            refine wpAnyH_ready (rs := [7]) (by kernel_rfl) (by simp) ?_
            refine (AllReadyH.cons (o := ⟨none, .store 81 (.tmp 39) (.tmp 38), 0, "program.go:47", #[⟨6, .data⟩, ⟨5, .data⟩, ⟨5, .chain⟩, ⟨0, .phase⟩, ⟨1, .phase⟩, ⟨2, .phase⟩, ⟨3, .phase⟩, ⟨4, .phase⟩, ⟨5, .phase⟩], none⟩) rfl (fun K hK => ?_) AllReadyH.nil)
            have lu := cell_blk Kf.out (j := 2) rfl
            have lf : w12.frozen? ⟨W0.heap.size, 2, none⟩ = false := by simp [World.frozen?, Kf.out]
            go_simp
            clear lu lf
            have u13 := cell_blk Kf.out (j := 2) rfl
            have v13 : w12.frozen? ⟨W0.heap.size, 2, none⟩ = false := by simp [World.frozen?, Kf.out]
            obtain ⟨E13, hE13⟩ : ∃ E, w12.setCell ⟨W0.heap.size, 2, none⟩ (.slice qn (zs.length + 1) cn) = E := ⟨_, rfl⟩
            have hEo : ∀ j, j ≠ W0.heap.size → E13.heap[j]? = w12.heap[j]? := fun j hj => by rw [← hE13]; exact Below.heap_setCell w12 _ _ _ hj
            have hEz : E13.heap.size = w12.heap.size := by rw [← hE13]; simp [World.setCell]
            have hEk : E13.heap[W0.heap.size]? = some (.cells #[.string (str a2), .slice qa4 a4.length ca4, .slice qn (zs.length + 1) cn, .slice qa7 a7.length ca7, .slice none 0 0] 83 (0, 0)) := by rw [← hE13, setCell_eq_setRow _ _ _ _ 83 (0, 0) _ Kf.out]; exact setRow_heap _ _ _ _ 83 (0, 0) Kf.out
            replace Kr := Lib.hid ((hEo _ (Nat.ne_of_lt Vf.out)).trans Kr.out)
            replace Kf := Lib.hid hEk
            replace HO := Lib.hid (own_block HO.out (fun g h1 _ => hEo g (Nat.ne_of_gt (Nat.lt_of_lt_of_le HFb.out h1))))
            replace HWz := Lib.hid (Nat.le_trans HWz.out (Nat.le_of_eq hEz.symm))
            replace Fa4 := Lib.hid (Fa4.out.to (Agr.at hEz hEo (by first | exact Or.inl Ufa4.out | exact Or.inr Ufa4.out) Za4.out))
            replace Za4 := Lib.hid (Nat.le_trans Za4.out (Nat.le_of_eq hEz.symm))
            replace Fa7 := Lib.hid (Fa7.out.to (Agr.at hEz hEo (by first | exact Or.inl Ufa7.out | exact Or.inr Ufa7.out) Za7.out))
            replace Za7 := Lib.hid (Nat.le_trans Za7.out (Nat.le_of_eq hEz.symm))
            have hSo := SS.out.1.other (p := ⟨W0.heap.size, 2, none⟩) Nf.out Tf.out (.slice qn (zs.length + 1) cn)
            have hBo := BB.out.putNew (p := ⟨W0.heap.size, 2, none⟩) Mf.out (.slice qn (zs.length + 1) cn)
            rw [hE13] at hSo hBo
            replace SS := Lib.hid (And.intro hSo SS.out.2)
            replace BB := Lib.hid hBo
            clear hEo hEz hEk hSo hBo
            rw [hE13]
            clear hE13 u13 v13
            refine hK.out _ _ trivial (fun hHeld => ?_)
            clear hK K
            try simp only [Act.put, List.setIfInBounds_toArray, List.set_cons_zero, List.set_cons_succ]
            refine wpAnyH_done (by kernel_rfl) ?_ _
            go_wp2_with fail
            go_roundw
            case rel =>
              refine ⟨zs ++ [(a11, ())], k11, g, .slice qn (zs.length + 1) cn, Lib.hid ?_, Lib.hid ?_, Lib.hid ?_, Kf, Kr, SS, BB, HWz, Fa4, Fa7, Lib.hid ?_⟩
              · have h1 := variableP_shs _ _ _ R11.out; rw [List.length_drop, List.length_drop] at h1; have h2 := hzk.out; have h3 := SS.out.2; rw [List.length_append, List.length_singleton]; omega
              · have h1 := variableP_shs _ _ _ R11.out; rw [List.length_drop, List.length_drop] at h1; have h2 := hfu.out; have h3 := SS.out.2; rw [List.length_drop] at h2 ⊢; omega
              · rw [List.length_append, encs_app]; exact HO.out
              · rw [HGy.out, R11.out, map_fst_snoc, Res.bind_ok, Res.bind_assoc]; simp only [Res.bind_ok, List.append_assoc, List.singleton_append]
            case measure =>
              have h1 := variableP_shs _ _ _ R11.out; rw [List.length_drop, List.length_drop] at h1; have h2 := SS.out.1.atOf; have h3 := HPr.out.1.atOf; have h4 := SS.out.2; have h5 := HPr.out.2; rw [h2, h3]; omega
          · go_simp
            obtain ⟨Ag, hAg⟩ : ∃ A, w11.alloc (.cells #[.string (str a11.name), .int .i64 a11.kind, .int .i64 a11.size, .bool a11.secret] 108) = A := ⟨_, rfl⟩
            have VV := Lib.hid (show w.heap.size < w11.heap.size from (Array.getElem?_eq_some_iff.1 Kr.out).1)
            have Xa4 := Lib.hid Za4.out
            have Xa7 := Lib.hid Za7.out
            have Xf := Lib.hid (Array.getElem?_eq_some_iff.1 Kf.out).1
            have hBA : Below w11.heap.size w11 Ag := by rw [← hAg]; exact (Below.refl _ _).alloc (Nat.le_refl _) _
            replace Kr := Lib.hid ((hBA.block _ (Array.getElem?_eq_some_iff.1 Kr.out).1).trans Kr.out)
            replace Kf := Lib.hid ((hBA.block _ (Array.getElem?_eq_some_iff.1 Kf.out).1).trans Kf.out)
            replace Fa4 := Lib.hid (Fa4.out.bel hBA Za4.out)
            replace Za4 := Lib.hid (Nat.le_trans Za4.out hBA.size)
            replace Ya4 := Lib.hid Ya4.out
            replace Fa7 := Lib.hid (Fa7.out.bel hBA Za7.out)
            replace Za7 := Lib.hid (Nat.le_trans Za7.out hBA.size)
            replace Ya7 := Lib.hid Ya7.out
            replace HO := Lib.hid (own_bel HO.out hBA)
            replace HWz := Lib.hid (Nat.le_trans HWz.out hBA.size)
            have Kg := Lib.hid (show Ag.heap[w11.heap.size]? = some (.cells #[.string (str a11.name), .int .i64 a11.kind, .int .i64 a11.size, .bool a11.secret] 108 (0, 0)) by rw [← hAg]; exact heap_alloc_new w11 _)
            have Ng := Lib.hid (Nat.ne_of_gt SS.out.1.lt_pb)
            have Tg := Lib.hid (Nat.ne_of_gt SS.out.1.lt)
            have Uga4 := Lib.hid (show _ ≤ w11.heap.size from Xa4.out)
            have Uga7 := Lib.hid (show _ ≤ w11.heap.size from Xa7.out)
            have Lfg := Lib.hid (show W0.heap.size < w11.heap.size from Xf.out)
            have Mg := Lib.hid (show w.heap.size ≤ w11.heap.size from BB.out.size)
            have Vg := Lib.hid (show w.heap.size < w11.heap.size from VV.out)
            replace SS := Lib.hid (And.intro (SS.out.1.later hBA) SS.out.2)
            replace BB := Lib.hid (BB.out.trans (But.of_below hBA))
            clear hBA
            have HAg := Lib.hid hAg
            clear hAg
            rw [HAg.out]
            clear HAg
            refine hK.out _ _ trivial (fun hHeld => ?_)
            clear hK K
            try simp only [Act.put, List.setIfInBounds_toArray, List.set_cons_zero, List.set_cons_succ]
            refine wpAnyH_ready (rs := [1]) (by kernel_rfl) (by simp) ?_
            refine (AllReadyH.cons (o := ⟨some 34, .load 81 (.tmp 33), 81, "program.go:47", #[⟨0, .data⟩], none⟩) rfl (fun K hK => ?_) AllReadyH.nil)
            have lv := cell_blk Kf.out (j := 2) rfl
            go_simp
            clear lv
            refine hK.out _ _ trivial (fun hHeld => ?_)
            clear hK K
            try simp only [Act.put, List.setIfInBounds_toArray, List.set_cons_zero, List.set_cons_succ]
            refine wpAnyH_ready (rs := [5]) (by kernel_rfl) (by simp) ?_
            refine (AllReadyH.cons (o := ⟨some 38, .call { callee := .builtin .append, args := #[.tmp 34, .tmp 37], argTypes := #[81, 81] }, 81, "program.go:47", #[⟨1, .data⟩, ⟨4, .data⟩, ⟨3, .chain⟩], none⟩) rfl (fun K hK => ?_) AllReadyH.nil)
            rw [if_pos (by rfl)]
            refine wp_append_own _ _ _ 81 rfl w9.heap.size 108 i0 (.agg #[.string ByteArray.empty, .int .i64 0, .int .i64 0, .bool false]) 4 40 Tryz.underlying81 hi hz0 hz1 hz2 rfl (by decide) _ _ _ rfl HO.out ⟨w11.heap.size, 0, none⟩ 1 1 [.string (str a11.name), .int .i64 a11.kind, .int .i64 a11.size, .bool a11.secret] rfl rfl ?_ ?_ ?_ ?_ HWz.out ?_
            · intro j u hj
              have := cell_blk Kg.out (j := j) (v := u) (by rw [← Array.getElem?_toList]; exact hj)
              rw [add_of, Nat.zero_add]
              exact this
            · intro u hu
              simp only [List.mem_cons, List.not_mem_nil, or_false] at hu
              rcases hu with rfl | rfl | rfl | rfl <;> rfl
            · have := HLn.out; unfold maxLen; omega
            · have := HLn.out; omega
            intro v' w12 hown hgrow _
            obtain ⟨qn, cn, rfl⟩ := own_slice hown
            replace Kr := Lib.hid ((hgrow.block _ (Array.getElem?_eq_some_iff.1 Kr.out).1 (fun e => Nat.ne_of_lt (Nat.lt_of_lt_of_le (HRb.out) (HO.out.lt _ e.symm).1) rfl)).trans Kr.out)
            replace Kf := Lib.hid ((hgrow.block _ (Array.getElem?_eq_some_iff.1 Kf.out).1 (fun e => Nat.ne_of_lt (Nat.lt_of_lt_of_le (HFb.out) (HO.out.lt _ e.symm).1) rfl)).trans Kf.out)
            replace Fa4 := Lib.hid (Fa4.out.grw hgrow (fun j hj => Nat.le_trans Ba4.out (HO.out.lt j hj).1) Za4.out)
            replace Za4 := Lib.hid (Nat.le_trans Za4.out hgrow.size)
            replace Fa7 := Lib.hid (Fa7.out.grw hgrow (fun j hj => Nat.le_trans Ba7.out (HO.out.lt j hj).1) Za7.out)
            replace Za7 := Lib.hid (Nat.le_trans Za7.out hgrow.size)
            replace SS := Lib.hid (And.intro (SS.out.1.grown hgrow (fun e => by have h1 := (HO.out.lt _ e).1; have h2 := HPBl.out; omega) (fun e => by have h1 := (HO.out.lt _ e).1; have h2 := HTBl.out; omega)) SS.out.2)
            replace BB := Lib.hid (BB.out.grown hgrow (fun j hj => Nat.le_trans (Nat.le_of_lt HRb.out) (HO.out.lt j hj).1))
            replace HWz := Lib.hid (Nat.le_trans HWz.out hgrow.size)
            replace HO := Lib.hid hown
            clear hown hgrow
            refine hK.out _ _ trivial (fun hHeld => ?_)
            clear hK K
            try simp only [Act.put, List.setIfInBounds_toArray, List.set_cons_zero, List.set_cons_succ]
            refine wpAnyH_take (i := 6) (oi := ⟨some 39, .fieldAddr 83 (.tmp 3) 2, 0, "program.go:47", #[⟨0, .phase⟩, ⟨1, .phase⟩, ⟨2, .phase⟩, ⟨3, .phase⟩, ⟨4, .phase⟩, ⟨5, .phase⟩], none⟩) (v := ?_) rfl (by kernel_rfl) (by kernel_rfl) (by kernel_rfl) (fun _ _ _ h => h) (Or.inl ⟨by rfl, ?_⟩) (by assumption) ?_
            rotate_left
            · (intro w hSw; (try dsimp only at hSw); go_simp; try with_reducible rfl)
            try simp only [Act.put, List.setIfInBounds_toArray, List.set_cons_zero, List.set_cons_succ]
            refine wpAnyH_ready (rs := [7]) (by kernel_rfl) (by simp) ?_
            refine (AllReadyH.cons (o := ⟨none, .store 81 (.tmp 39) (.tmp 38), 0, "program.go:47", #[⟨6, .data⟩, ⟨5, .data⟩, ⟨5, .chain⟩, ⟨0, .phase⟩, ⟨1, .phase⟩, ⟨2, .phase⟩, ⟨3, .phase⟩, ⟨4, .phase⟩, ⟨5, .phase⟩], none⟩) rfl (fun K hK => ?_) AllReadyH.nil)
            have lu := cell_blk Kf.out (j := 2) rfl
            have lf : w12.frozen? ⟨W0.heap.size, 2, none⟩ = false := by simp [World.frozen?, Kf.out]
            go_simp
            clear lu lf
            have u13 := cell_blk Kf.out (j := 2) rfl
            have v13 : w12.frozen? ⟨W0.heap.size, 2, none⟩ = false := by simp [World.frozen?, Kf.out]
            obtain ⟨E13, hE13⟩ : ∃ E, w12.setCell ⟨W0.heap.size, 2, none⟩ (.slice qn (zs.length + 1) cn) = E := ⟨_, rfl⟩
            have hEo : ∀ j, j ≠ W0.heap.size → E13.heap[j]? = w12.heap[j]? := fun j hj => by rw [← hE13]; exact Below.heap_setCell w12 _ _ _ hj
            have hEz : E13.heap.size = w12.heap.size := by rw [← hE13]; simp [World.setCell]
            have hEk : E13.heap[W0.heap.size]? = some (.cells #[.string (str a2), .slice qa4 a4.length ca4, .slice qn (zs.length + 1) cn, .slice qa7 a7.length ca7, .slice none 0 0] 83 (0, 0)) := by rw [← hE13, setCell_eq_setRow _ _ _ _ 83 (0, 0) _ Kf.out]; exact setRow_heap _ _ _ _ 83 (0, 0) Kf.out
            replace Kr := Lib.hid ((hEo _ (Nat.ne_of_lt Vf.out)).trans Kr.out)
            replace Kf := Lib.hid hEk
            replace HO := Lib.hid (own_block HO.out (fun g h1 _ => hEo g (Nat.ne_of_gt (Nat.lt_of_lt_of_le HFb.out h1))))
            replace HWz := Lib.hid (Nat.le_trans HWz.out (Nat.le_of_eq hEz.symm))
            replace Fa4 := Lib.hid (Fa4.out.to (Agr.at hEz hEo (by first | exact Or.inl Ufa4.out | exact Or.inr Ufa4.out) Za4.out))
            replace Za4 := Lib.hid (Nat.le_trans Za4.out (Nat.le_of_eq hEz.symm))
            replace Fa7 := Lib.hid (Fa7.out.to (Agr.at hEz hEo (by first | exact Or.inl Ufa7.out | exact Or.inr Ufa7.out) Za7.out))
            replace Za7 := Lib.hid (Nat.le_trans Za7.out (Nat.le_of_eq hEz.symm))
            have hSo := SS.out.1.other (p := ⟨W0.heap.size, 2, none⟩) Nf.out Tf.out (.slice qn (zs.length + 1) cn)
            have hBo := BB.out.putNew (p := ⟨W0.heap.size, 2, none⟩) Mf.out (.slice qn (zs.length + 1) cn)
            rw [hE13] at hSo hBo
            replace SS := Lib.hid (And.intro hSo SS.out.2)
            replace BB := Lib.hid hBo
            clear hEo hEz hEk hSo hBo
            rw [hE13]
            clear hE13 u13 v13
            refine hK.out _ _ trivial (fun hHeld => ?_)
            clear hK K
            try simp only [Act.put, List.setIfInBounds_toArray, List.set_cons_zero, List.set_cons_succ]
            refine wpAnyH_done (by kernel_rfl) ?_ _
            go_wp2_with fail
            go_roundw
            case rel =>
              refine ⟨zs ++ [(a11, ())], k11, g, .slice qn (zs.length + 1) cn, Lib.hid ?_, Lib.hid ?_, Lib.hid ?_, Kf, Kr, SS, BB, HWz, Fa4, Fa7, Lib.hid ?_⟩
              · have h1 := variableP_shs _ _ _ R11.out; rw [List.length_drop, List.length_drop] at h1; have h2 := hzk.out; have h3 := SS.out.2; rw [List.length_append, List.length_singleton]; omega
              · have h1 := variableP_shs _ _ _ R11.out; rw [List.length_drop, List.length_drop] at h1; have h2 := hfu.out; have h3 := SS.out.2; rw [List.length_drop] at h2 ⊢; omega
              · rw [List.length_append, encs_app]; exact HO.out
              · rw [HGy.out, R11.out, map_fst_snoc, Res.bind_ok, Res.bind_assoc]; simp only [Res.bind_ok, List.append_assoc, List.singleton_append]
            case measure =>
              have h1 := variableP_shs _ _ _ R11.out; rw [List.length_drop, List.length_drop] at h1; have h2 := SS.out.1.atOf; have h3 := HPr.out.1.atOf; have h4 := SS.out.2; have h5 := HPr.out.2; rw [h2, h3]; omega
      · rcases Classical.em ((hdT (p.ts.drop kk)).text = wArray) with t2 | t2
        · have HI := Lib.hid (CI1.out kk wr SS.out.1 SS.out.2)
          rw [decide_eq_false t1] at HI
          go_wp2_with fail
          refine (HI.out).mono ?_
          rintro z w10 ⟨rfl, hBX⟩
          replace Kr := Lib.hid ((hBX.block _ (Array.getElem?_eq_some_iff.1 Kr.out).1).trans Kr.out)
          replace Kf := Lib.hid ((hBX.block _ (Array.getElem?_eq_some_iff.1 Kf.out).1).trans Kf.out)
          replace Fa4 := Lib.hid (Fa4.out.bel hBX Za4.out)
          replace Za4 := Lib.hid (Nat.le_trans Za4.out hBX.size)
          replace Ya4 := Lib.hid Ya4.out
          replace Fa7 := Lib.hid (Fa7.out.bel hBX Za7.out)
          replace Za7 := Lib.hid (Nat.le_trans Za7.out hBX.size)
          replace Ya7 := Lib.hid Ya7.out
          replace HO := Lib.hid (own_bel HO.out hBX)
          replace HWz := Lib.hid (Nat.le_trans HWz.out hBX.size)
          replace SS := Lib.hid (And.intro (SS.out.1.later hBX) SS.out.2)
          replace BB := Lib.hid (BB.out.trans (But.of_below hBX))
          clear hBX
          clear HI
          have HI := Lib.hid (CI2.out kk w10 SS.out.1 SS.out.2)
          rw [decide_eq_true t2] at HI
          go_wp2_with fail
          refine (HI.out).mono ?_
          rintro z w11 ⟨rfl, hBX⟩
          replace Kr := Lib.hid ((hBX.block _ (Array.getElem?_eq_some_iff.1 Kr.out).1).trans Kr.out)
          replace Kf := Lib.hid ((hBX.block _ (Array.getElem?_eq_some_iff.1 Kf.out).1).trans Kf.out)
          replace Fa4 := Lib.hid (Fa4.out.bel hBX Za4.out)
          replace Za4 := Lib.hid (Nat.le_trans Za4.out hBX.size)
          replace Ya4 := Lib.hid Ya4.out
          replace Fa7 := Lib.hid (Fa7.out.bel hBX Za7.out)
          replace Za7 := Lib.hid (Nat.le_trans Za7.out hBX.size)
          replace Ya7 := Lib.hid Ya7.out
          replace HO := Lib.hid (own_bel HO.out hBX)
          replace HWz := Lib.hid (Nat.le_trans HWz.out hBX.size)
          replace SS := Lib.hid (And.intro (SS.out.1.later hBX) SS.out.2)
          replace BB := Lib.hid (BB.out.trans (But.of_below hBX))
          clear hBX
          clear HI
          have HV := Lib.hid (show isVar (hdT (p.ts.drop kk)) = true by simp [isVar, t2])
          have HGy := Lib.hid (HGr.out.trans (by rw [whileP_more HV.out]))
          clear HGr t1 t2
          have HG := Lib.hid HGy.out.symm
          go_wp2_with fail
          have hBD : Below w11.heap.size w11 w11.drew := (Below.refl _ _).drew
          replace Kr := Lib.hid ((hBD.block _ (Array.getElem?_eq_some_iff.1 Kr.out).1).trans Kr.out)
          replace Kf := Lib.hid ((hBD.block _ (Array.getElem?_eq_some_iff.1 Kf.out).1).trans Kf.out)
          replace Fa4 := Lib.hid (Fa4.out.bel hBD Za4.out)
          replace Za4 := Lib.hid (Nat.le_trans Za4.out hBD.size)
          replace Ya4 := Lib.hid Ya4.out
          replace Fa7 := Lib.hid (Fa7.out.bel hBD Za7.out)
          replace Za7 := Lib.hid (Nat.le_trans Za7.out hBD.size)
          replace Ya7 := Lib.hid Ya7.out
          replace HO := Lib.hid (own_bel HO.out hBD)
          replace HWz := Lib.hid (Nat.le_trans HWz.out hBD.size)
          replace SS := Lib.hid (And.intro (SS.out.1.later hBD) SS.out.2)
          replace BB := Lib.hid (BB.out.trans (But.of_below hBD))
          clear hBD
          refine wp_region_held_drew (S := fun _ => True) (by kernel_rfl) ?_ (fun hHeld => ?_)
          · trivial
          generalize w11.drew = wd at *
          refine wpAnyH_take (i := 0) (oi := ⟨some 33, .fieldAddr 83 (.tmp 3) 2, 0, "program.go:47", #[], none⟩) (v := ?_) rfl (by kernel_rfl) (by kernel_rfl) (by kernel_rfl) (fun _ _ _ h => h) (Or.inl ⟨by rfl, ?_⟩) (by assumption) ?_
          rotate_left
          · (intro w hSw; (try dsimp only at hSw); go_simp; try with_reducible rfl)
          try simp only [Act.put, List.setIfInBounds_toArray, List.set_cons_zero, List.set_cons_succ]
          refine wpAnyH_take (i := 2) (oi := ⟨some 35, .move (.tmp 0), 73, "program.go:47", #[], none⟩) (v := ?_) rfl (by kernel_rfl) (by kernel_rfl) (by kernel_rfl) (fun _ _ _ h => h) (Or.inl ⟨by rfl, ?_⟩) (by assumption) ?_
          rotate_left
          · (intro w hSw; (try dsimp only at hSw); go_simp; try with_reducible rfl)
          try simp only [Act.put, List.setIfInBounds_toArray, List.set_cons_zero, List.set_cons_succ]
          refine wpAnyH_ready (rs := [1, 3]) (by kernel_rfl) (by simp) ?_
          refine (AllReadyH.cons (o := ⟨some 34, .load 81 (.tmp 33), 81, "program.go:47", #[⟨0, .data⟩], none⟩) rfl (fun K hK => ?_) (AllReadyH.cons (o := ⟨some 36, .call { callee := .value (.func 156), args := #[.tmp 35], argTypes := #[73] }, 108, "program.go:47", #[⟨2, .data⟩], none⟩) rfl (fun K hK => ?_) AllReadyH.nil))
          · have lv := cell_blk Kf.out (j := 2) rfl
            go_simp
            clear lv
            refine hK.out _ _ trivial (fun hHeld => ?_)
            clear hK K
            try simp only [Act.put, List.setIfInBounds_toArray, List.set_cons_zero, List.set_cons_succ]
            refine wpAnyH_ready (rs := [3]) (by kernel_rfl) (by simp) ?_
            refine (AllReadyH.cons (o := ⟨some 36, .call { callee := .value (.func 156), args := #[.tmp 35], argTypes := #[73] }, 108, "program.go:47", #[⟨2, .data⟩], none⟩) rfl (fun K hK => ?_) AllReadyH.nil)
            go_simp
            have Va12 := Lib.hid (show w.heap.size < wd.heap.size from (Array.getElem?_eq_some_iff.1 Kr.out).1)
            have Ufa12 := Lib.hid (show W0.heap.size < wd.heap.size from (Array.getElem?_eq_some_iff.1 Kf.out).1)
            refine (CV.out kk wd SS.out.1 SS.out.2 HV.out).mono ?_
            intro z w12 hc
            rcases hc with ⟨k12, a12, s12, hr, hkk, hp, hb, hz, hR⟩ | ⟨k12, e12, t12, hr, hp, hb, hz⟩
            rotate_left
            · subst hz
              have HN := Lib.hid (show Post RFnc G p 0 w (WrongIs (e12 : Int) t12) w12 from .no k12 e12 t12 (by rw [← HG.out]; simp only [hr, Res.bind_no]) hp (BB.out.trans hb) rfl)
              clear hr hp hb
              unfold WrongIs
              go_simp
              exact ⟨rfl, HN.out⟩
            replace Kr := Lib.hid ((hb.block _ (Array.getElem?_eq_some_iff.1 Kr.out).1 Nr.out).trans Kr.out)
            replace Kf := Lib.hid ((hb.block _ (Array.getElem?_eq_some_iff.1 Kf.out).1 Nf.out).trans Kf.out)
            replace Fa4 := Lib.hid (Fa4.out.but hb Ga4.out Za4.out)
            replace Za4 := Lib.hid (Nat.le_trans Za4.out hb.size)
            replace Ya4 := Lib.hid Ya4.out
            replace Fa7 := Lib.hid (Fa7.out.but hb Ga7.out Za7.out)
            replace Za7 := Lib.hid (Nat.le_trans Za7.out hb.size)
            replace Ya7 := Lib.hid Ya7.out
            replace HO := Lib.hid (own_but HO.out hb HPBl.out)
            replace HWz := Lib.hid (Nat.le_trans HWz.out hb.size)
            obtain rfl : z = .returned (.agg #[.string (str a12.name), .int .i64 a12.kind, .int .i64 a12.size, .bool a12.secret]) := hz
            have R12 := Lib.hid hr
            replace SS := Lib.hid (And.intro hp hkk)
            replace BB := Lib.hid (BB.out.trans hb)
            clear hr hkk hp hb hR
            refine hK.out _ _ trivial (fun hHeld => ?_)
            clear hK K
            try simp only [Act.put, List.setIfInBounds_toArray, List.set_cons_zero, List.set_cons_succ]
            refine wpAnyH_ready (rs := [4]) (by kernel_rfl) (by simp) ?_
            refine (AllReadyH.cons (o := ⟨some 37, .buildSlice 81 1 #[(0, .tmp 36)], 81, "program.go:47", #[⟨3, .data⟩], none⟩) rfl (fun K hK => ?_) AllReadyH.nil)
            go_simp
            obtain ⟨Ag, hAg⟩ : ∃ A, w12.alloc (.cells #[.string (str a12.name), .int .i64 a12.kind, .int .i64 a12.size, .bool a12.secret] 108) = A := ⟨_, rfl⟩
            have VV := Lib.hid (show w.heap.size < w12.heap.size from (Array.getElem?_eq_some_iff.1 Kr.out).1)
            have Xa4 := Lib.hid Za4.out
            have Xa7 := Lib.hid Za7.out
            have Xf := Lib.hid (Array.getElem?_eq_some_iff.1 Kf.out).1
            have hBA : Below w12.heap.size w12 Ag := by rw [← hAg]; exact (Below.refl _ _).alloc (Nat.le_refl _) _
            replace Kr := Lib.hid ((hBA.block _ (Array.getElem?_eq_some_iff.1 Kr.out).1).trans Kr.out)
            replace Kf := Lib.hid ((hBA.block _ (Array.getElem?_eq_some_iff.1 Kf.out).1).trans Kf.out)
            replace Fa4 := Lib.hid (Fa4.out.bel hBA Za4.out)
            replace Za4 := Lib.hid (Nat.le_trans Za4.out hBA.size)
            replace Ya4 := Lib.hid Ya4.out
            replace Fa7 := Lib.hid (Fa7.out.bel hBA Za7.out)
            replace Za7 := Lib.hid (Nat.le_trans Za7.out hBA.size)
            replace Ya7 := Lib.hid Ya7.out
            replace HO := Lib.hid (own_bel HO.out hBA)
            replace HWz := Lib.hid (Nat.le_trans HWz.out hBA.size)
            have Kg := Lib.hid (show Ag.heap[w12.heap.size]? = some (.cells #[.string (str a12.name), .int .i64 a12.kind, .int .i64 a12.size, .bool a12.secret] 108 (0, 0)) by rw [← hAg]; exact heap_alloc_new w12 _)
            have Ng := Lib.hid (Nat.ne_of_gt SS.out.1.lt_pb)
            have Tg := Lib.hid (Nat.ne_of_gt SS.out.1.lt)
            have Uga4 := Lib.hid (show _ ≤ w12.heap.size from Xa4.out)
            have Uga7 := Lib.hid (show _ ≤ w12.heap.size from Xa7.out)
            have Lfg := Lib.hid (show W0.heap.size < w12.heap.size from Xf.out)
            have Mg := Lib.hid (show w.heap.size ≤ w12.heap.size from BB.out.size)
            have Vg := Lib.hid (show w.heap.size < w12.heap.size from VV.out)
            replace SS := Lib.hid (And.intro (SS.out.1.later hBA) SS.out.2)
            replace BB := Lib.hid (BB.out.trans (But.of_below hBA))
            clear hBA
            have HAg := Lib.hid hAg
            clear hAg
            rw [HAg.out]
            clear HAg
            refine hK.out _ _ trivial (fun hHeld => ?_)
            clear hK K
            try simp only [Act.put, List.setIfInBounds_toArray, List.set_cons_zero, List.set_cons_succ]
            refine wpAnyH_ready (rs := [5]) (by kernel_rfl) (by simp) ?_
            refine (AllReadyH.cons (o := ⟨some 38, .call { callee := .builtin .append, args := #[.tmp 34, .tmp 37], argTypes := #[81, 81] }, 81, "program.go:47", #[⟨1, .data⟩, ⟨4, .data⟩, ⟨3, .chain⟩], none⟩) rfl (fun K hK => ?_) AllReadyH.nil)
            rw [if_pos (by rfl)]
            refine wp_append_own _ _ _ 81 rfl w9.heap.size 108 i0 (.agg #[.string ByteArray.empty, .int .i64 0, .int .i64 0, .bool false]) 4 40 Tryz.underlying81 hi hz0 hz1 hz2 rfl (by decide) _ _ _ rfl HO.out ⟨w12.heap.size, 0, none⟩ 1 1 [.string (str a12.name), .int .i64 a12.kind, .int .i64 a12.size, .bool a12.secret] rfl rfl ?_ ?_ ?_ ?_ HWz.out ?_
            · intro j u hj
              have := cell_blk Kg.out (j := j) (v := u) (by rw [← Array.getElem?_toList]; exact hj)
              rw [add_of, Nat.zero_add]
              exact this
            · intro u hu
              simp only [List.mem_cons, List.not_mem_nil, or_false] at hu
              rcases hu with rfl | rfl | rfl | rfl <;> rfl
            · have := HLn.out; unfold maxLen; omega
            · have := HLn.out; omega
            intro v' w13 hown hgrow _
            obtain ⟨qn, cn, rfl⟩ := own_slice hown
            replace Kr := Lib.hid ((hgrow.block _ (Array.getElem?_eq_some_iff.1 Kr.out).1 (fun e => Nat.ne_of_lt (Nat.lt_of_lt_of_le (HRb.out) (HO.out.lt _ e.symm).1) rfl)).trans Kr.out)
            replace Kf := Lib.hid ((hgrow.block _ (Array.getElem?_eq_some_iff.1 Kf.out).1 (fun e => Nat.ne_of_lt (Nat.lt_of_lt_of_le (HFb.out) (HO.out.lt _ e.symm).1) rfl)).trans Kf.out)
            replace Fa4 := Lib.hid (Fa4.out.grw hgrow (fun j hj => Nat.le_trans Ba4.out (HO.out.lt j hj).1) Za4.out)
            replace Za4 := Lib.hid (Nat.le_trans Za4.out hgrow.size)
            replace Fa7 := Lib.hid (Fa7.out.grw hgrow (fun j hj => Nat.le_trans Ba7.out (HO.out.lt j hj).1) Za7.out)
            replace Za7 := Lib.hid (Nat.le_trans Za7.out hgrow.size)
            replace SS := Lib.hid (And.intro (SS.out.1.grown hgrow (fun e => by have h1 := (HO.out.lt _ e).1; have h2 := HPBl.out; omega) (fun e => by have h1 := (HO.out.lt _ e).1; have h2 := HTBl.out; omega)) SS.out.2)
            replace BB := Lib.hid (BB.out.grown hgrow (fun j hj => Nat.le_trans (Nat.le_of_lt HRb.out) (HO.out.lt j hj).1))
            replace HWz := Lib.hid (Nat.le_trans HWz.out hgrow.size)
            replace HO := Lib.hid hown
            clear hown hgrow
            refine hK.out _ _ trivial (fun hHeld => ?_)
            clear hK K
            try simp only [Act.put, List.setIfInBounds_toArray, List.set_cons_zero, List.set_cons_succ]
            refine wpAnyH_take (i := 6) (oi := ⟨some 39, .fieldAddr 83 (.tmp 3) 2, 0, "program.go:47", #[⟨0, .phase⟩, ⟨1, .phase⟩, ⟨2, .phase⟩, ⟨3, .phase⟩, ⟨4, .phase⟩, ⟨5, .phase⟩], none⟩) (v := ?_) rfl (by kernel_rfl) (by kernel_rfl) (by kernel_rfl) (fun _ _ _ h => h) (Or.inl ⟨by rfl, ?_⟩) (by assumption) ?_
            rotate_left
            · (intro w hSw; (try dsimp only at hSw); go_simp; try with_reducible rfl)
            try simp only [Act.put, List.setIfInBounds_toArray, List.set_cons_zero, List.set_cons_succ]
            refine wpAnyH_ready (rs := [7]) (by kernel_rfl) (by simp) ?_
            refine (AllReadyH.cons (o := ⟨none, .store 81 (.tmp 39) (.tmp 38), 0, "program.go:47", #[⟨6, .data⟩, ⟨5, .data⟩, ⟨5, .chain⟩, ⟨0, .phase⟩, ⟨1, .phase⟩, ⟨2, .phase⟩, ⟨3, .phase⟩, ⟨4, .phase⟩, ⟨5, .phase⟩], none⟩) rfl (fun K hK => ?_) AllReadyH.nil)
            have lu := cell_blk Kf.out (j := 2) rfl
            have lf : w13.frozen? ⟨W0.heap.size, 2, none⟩ = false := by simp [World.frozen?, Kf.out]
            go_simp
            clear lu lf
            have u14 := cell_blk Kf.out (j := 2) rfl
            have v14 : w13.frozen? ⟨W0.heap.size, 2, none⟩ = false := by simp [World.frozen?, Kf.out]
            obtain ⟨E14, hE14⟩ : ∃ E, w13.setCell ⟨W0.heap.size, 2, none⟩ (.slice qn (zs.length + 1) cn) = E := ⟨_, rfl⟩
            have hEo : ∀ j, j ≠ W0.heap.size → E14.heap[j]? = w13.heap[j]? := fun j hj => by rw [← hE14]; exact Below.heap_setCell w13 _ _ _ hj
            have hEz : E14.heap.size = w13.heap.size := by rw [← hE14]; simp [World.setCell]
            have hEk : E14.heap[W0.heap.size]? = some (.cells #[.string (str a2), .slice qa4 a4.length ca4, .slice qn (zs.length + 1) cn, .slice qa7 a7.length ca7, .slice none 0 0] 83 (0, 0)) := by rw [← hE14, setCell_eq_setRow _ _ _ _ 83 (0, 0) _ Kf.out]; exact setRow_heap _ _ _ _ 83 (0, 0) Kf.out
            replace Kr := Lib.hid ((hEo _ (Nat.ne_of_lt Vf.out)).trans Kr.out)
            replace Kf := Lib.hid hEk
            replace HO := Lib.hid (own_block HO.out (fun g h1 _ => hEo g (Nat.ne_of_gt (Nat.lt_of_lt_of_le HFb.out h1))))
            replace HWz := Lib.hid (Nat.le_trans HWz.out (Nat.le_of_eq hEz.symm))
            replace Fa4 := Lib.hid (Fa4.out.to (Agr.at hEz hEo (by first | exact Or.inl Ufa4.out | exact Or.inr Ufa4.out) Za4.out))
            replace Za4 := Lib.hid (Nat.le_trans Za4.out (Nat.le_of_eq hEz.symm))
            replace Fa7 := Lib.hid (Fa7.out.to (Agr.at hEz hEo (by first | exact Or.inl Ufa7.out | exact Or.inr Ufa7.out) Za7.out))
            replace Za7 := Lib.hid (Nat.le_trans Za7.out (Nat.le_of_eq hEz.symm))
            have hSo := SS.out.1.other (p := ⟨W0.heap.size, 2, none⟩) Nf.out Tf.out (.slice qn (zs.length + 1) cn)
            have hBo := BB.out.putNew (p := ⟨W0.heap.size, 2, none⟩) Mf.out (.slice qn (zs.length + 1) cn)
            rw [hE14] at hSo hBo
            replace SS := Lib.hid (And.intro hSo SS.out.2)
            replace BB := Lib.hid hBo
            clear hEo hEz hEk hSo hBo
            rw [hE14]
            clear hE14 u14 v14
            refine hK.out _ _ trivial (fun hHeld => ?_)
            clear hK K
            try simp only [Act.put, List.setIfInBounds_toArray, List.set_cons_zero, List.set_cons_succ]
            refine wpAnyH_done (by kernel_rfl) ?_ _
            go_wp2_with fail
            go_roundw
            case rel =>
              refine ⟨zs ++ [(a12, ())], k12, g, .slice qn (zs.length + 1) cn, Lib.hid ?_, Lib.hid ?_, Lib.hid ?_, Kf, Kr, SS, BB, HWz, Fa4, Fa7, Lib.hid ?_⟩
              · have h1 := variableP_shs _ _ _ R12.out; rw [List.length_drop, List.length_drop] at h1; have h2 := hzk.out; have h3 := SS.out.2; rw [List.length_append, List.length_singleton]; omega
              · have h1 := variableP_shs _ _ _ R12.out; rw [List.length_drop, List.length_drop] at h1; have h2 := hfu.out; have h3 := SS.out.2; rw [List.length_drop] at h2 ⊢; omega
              · rw [List.length_append, encs_app]; exact HO.out
              · rw [HGy.out, R12.out, map_fst_snoc, Res.bind_ok, Res.bind_assoc]; simp only [Res.bind_ok, List.append_assoc, List.singleton_append]
            case measure =>
              have h1 := variableP_shs _ _ _ R12.out; rw [List.length_drop, List.length_drop] at h1; have h2 := SS.out.1.atOf; have h3 := HPr.out.1.atOf; have h4 := SS.out.2; have h5 := HPr.out.2; rw [h2, h3]; omega
          · go_simp
            have Va12 := Lib.hid (show w.heap.size < wd.heap.size from (Array.getElem?_eq_some_iff.1 Kr.out).1)
            have Ufa12 := Lib.hid (show W0.heap.size < wd.heap.size from (Array.getElem?_eq_some_iff.1 Kf.out).1)
            refine (CV.out kk wd SS.out.1 SS.out.2 HV.out).mono ?_
            intro z w12 hc
            rcases hc with ⟨k12, a12, s12, hr, hkk, hp, hb, hz, hR⟩ | ⟨k12, e12, t12, hr, hp, hb, hz⟩
            rotate_left
            · subst hz
              have HN := Lib.hid (show Post RFnc G p 0 w (WrongIs (e12 : Int) t12) w12 from .no k12 e12 t12 (by rw [← HG.out]; simp only [hr, Res.bind_no]) hp (BB.out.trans hb) rfl)
              clear hr hp hb
              unfold WrongIs
              go_simp
              exact ⟨rfl, HN.out⟩
            replace Kr := Lib.hid ((hb.block _ (Array.getElem?_eq_some_iff.1 Kr.out).1 Nr.out).trans Kr.out)
            replace Kf := Lib.hid ((hb.block _ (Array.getElem?_eq_some_iff.1 Kf.out).1 Nf.out).trans Kf.out)
            replace Fa4 := Lib.hid (Fa4.out.but hb Ga4.out Za4.out)
            replace Za4 := Lib.hid (Nat.le_trans Za4.out hb.size)
            replace Ya4 := Lib.hid Ya4.out
            replace Fa7 := Lib.hid (Fa7.out.but hb Ga7.out Za7.out)
            replace Za7 := Lib.hid (Nat.le_trans Za7.out hb.size)
            replace Ya7 := Lib.hid Ya7.out
            replace HO := Lib.hid (own_but HO.out hb HPBl.out)
            replace HWz := Lib.hid (Nat.le_trans HWz.out hb.size)
            obtain rfl : z = .returned (.agg #[.string (str a12.name), .int .i64 a12.kind, .int .i64 a12.size, .bool a12.secret]) := hz
            have R12 := Lib.hid hr
            replace SS := Lib.hid (And.intro hp hkk)
            replace BB := Lib.hid (BB.out.trans hb)
            clear hr hkk hp hb hR
            refine hK.out _ _ trivial (fun hHeld => ?_)
            clear hK K
            try simp only [Act.put, List.setIfInBounds_toArray, List.set_cons_zero, List.set_cons_succ]
            refine wpAnyH_ready (rs := [1, 4]) (by kernel_rfl) (by simp) ?_
            refine (AllReadyH.cons (o := ⟨some 34, .load 81 (.tmp 33), 81, "program.go:47", #[⟨0, .data⟩], none⟩) rfl (fun K hK => ?_) (AllReadyH.cons (o := ⟨some 37, .buildSlice 81 1 #[(0, .tmp 36)], 81, "program.go:47", #[⟨3, .data⟩], none⟩) rfl (fun K hK => ?_) AllReadyH.nil))
            · have lv := cell_blk Kf.out (j := 2) rfl
              go_simp
              clear lv
              refine hK.out _ _ trivial (fun hHeld => ?_)
              clear hK K
              try simp only [Act.put, List.setIfInBounds_toArray, List.set_cons_zero, List.set_cons_succ]
              refine wpAnyH_ready (rs := [4]) (by kernel_rfl) (by simp) ?_
              refine (AllReadyH.cons (o := ⟨some 37, .buildSlice 81 1 #[(0, .tmp 36)], 81, "program.go:47", #[⟨3, .data⟩], none⟩) rfl (fun K hK => ?_) AllReadyH.nil)
              go_simp
              obtain ⟨Ag, hAg⟩ : ∃ A, w12.alloc (.cells #[.string (str a12.name), .int .i64 a12.kind, .int .i64 a12.size, .bool a12.secret] 108) = A := ⟨_, rfl⟩
              have VV := Lib.hid (show w.heap.size < w12.heap.size from (Array.getElem?_eq_some_iff.1 Kr.out).1)
              have Xa4 := Lib.hid Za4.out
              have Xa7 := Lib.hid Za7.out
              have Xf := Lib.hid (Array.getElem?_eq_some_iff.1 Kf.out).1
              have hBA : Below w12.heap.size w12 Ag := by rw [← hAg]; exact (Below.refl _ _).alloc (Nat.le_refl _) _
              replace Kr := Lib.hid ((hBA.block _ (Array.getElem?_eq_some_iff.1 Kr.out).1).trans Kr.out)
              replace Kf := Lib.hid ((hBA.block _ (Array.getElem?_eq_some_iff.1 Kf.out).1).trans Kf.out)
              replace Fa4 := Lib.hid (Fa4.out.bel hBA Za4.out)
              replace Za4 := Lib.hid (Nat.le_trans Za4.out hBA.size)
              replace Ya4 := Lib.hid Ya4.out
              replace Fa7 := Lib.hid (Fa7.out.bel hBA Za7.out)
              replace Za7 := Lib.hid (Nat.le_trans Za7.out hBA.size)
              replace Ya7 := Lib.hid Ya7.out
              replace HO := Lib.hid (own_bel HO.out hBA)
              replace HWz := Lib.hid (Nat.le_trans HWz.out hBA.size)
              have Kg := Lib.hid (show Ag.heap[w12.heap.size]? = some (.cells #[.string (str a12.name), .int .i64 a12.kind, .int .i64 a12.size, .bool a12.secret] 108 (0, 0)) by rw [← hAg]; exact heap_alloc_new w12 _)
              have Ng := Lib.hid (Nat.ne_of_gt SS.out.1.lt_pb)
              have Tg := Lib.hid (Nat.ne_of_gt SS.out.1.lt)
              have Uga4 := Lib.hid (show _ ≤ w12.heap.size from Xa4.out)
              have Uga7 := Lib.hid (show _ ≤ w12.heap.size from Xa7.out)
              have Lfg := Lib.hid (show W0.heap.size < w12.heap.size from Xf.out)
              have Mg := Lib.hid (show w.heap.size ≤ w12.heap.size from BB.out.size)
              have Vg := Lib.hid (show w.heap.size < w12.heap.size from VV.out)
              replace SS := Lib.hid (And.intro (SS.out.1.later hBA) SS.out.2)
              replace BB := Lib.hid (BB.out.trans (But.of_below hBA))
              clear hBA
              have HAg := Lib.hid hAg
              clear hAg
              rw [HAg.out]
              clear HAg
              refine hK.out _ _ trivial (fun hHeld => ?_)
              clear hK K
              try simp only [Act.put, List.setIfInBounds_toArray, List.set_cons_zero, List.set_cons_succ]
              refine wpAnyH_ready (rs := [5]) (by kernel_rfl) (by simp) ?_
              refine (AllReadyH.cons (o := ⟨some 38, .call { callee := .builtin .append, args := #[.tmp 34, .tmp 37], argTypes := #[81, 81] }, 81, "program.go:47", #[⟨1, .data⟩, ⟨4, .data⟩, ⟨3, .chain⟩], none⟩) rfl (fun K hK => ?_) AllReadyH.nil)
              rw [if_pos (by rfl)]
              refine wp_append_own _ _ _ 81 rfl w9.heap.size 108 i0 (.agg #[.string ByteArray.empty, .int .i64 0, .int .i64 0, .bool false]) 4 40 Tryz.underlying81 hi hz0 hz1 hz2 rfl (by decide) _ _ _ rfl HO.out ⟨w12.heap.size, 0, none⟩ 1 1 [.string (str a12.name), .int .i64 a12.kind, .int .i64 a12.size, .bool a12.secret] rfl rfl ?_ ?_ ?_ ?_ HWz.out ?_
              · intro j u hj
                have := cell_blk Kg.out (j := j) (v := u) (by rw [← Array.getElem?_toList]; exact hj)
                rw [add_of, Nat.zero_add]
                exact this
              · intro u hu
                simp only [List.mem_cons, List.not_mem_nil, or_false] at hu
                rcases hu with rfl | rfl | rfl | rfl <;> rfl
              · have := HLn.out; unfold maxLen; omega
              · have := HLn.out; omega
              intro v' w13 hown hgrow _
              obtain ⟨qn, cn, rfl⟩ := own_slice hown
              replace Kr := Lib.hid ((hgrow.block _ (Array.getElem?_eq_some_iff.1 Kr.out).1 (fun e => Nat.ne_of_lt (Nat.lt_of_lt_of_le (HRb.out) (HO.out.lt _ e.symm).1) rfl)).trans Kr.out)
              replace Kf := Lib.hid ((hgrow.block _ (Array.getElem?_eq_some_iff.1 Kf.out).1 (fun e => Nat.ne_of_lt (Nat.lt_of_lt_of_le (HFb.out) (HO.out.lt _ e.symm).1) rfl)).trans Kf.out)
              replace Fa4 := Lib.hid (Fa4.out.grw hgrow (fun j hj => Nat.le_trans Ba4.out (HO.out.lt j hj).1) Za4.out)
              replace Za4 := Lib.hid (Nat.le_trans Za4.out hgrow.size)
              replace Fa7 := Lib.hid (Fa7.out.grw hgrow (fun j hj => Nat.le_trans Ba7.out (HO.out.lt j hj).1) Za7.out)
              replace Za7 := Lib.hid (Nat.le_trans Za7.out hgrow.size)
              replace SS := Lib.hid (And.intro (SS.out.1.grown hgrow (fun e => by have h1 := (HO.out.lt _ e).1; have h2 := HPBl.out; omega) (fun e => by have h1 := (HO.out.lt _ e).1; have h2 := HTBl.out; omega)) SS.out.2)
              replace BB := Lib.hid (BB.out.grown hgrow (fun j hj => Nat.le_trans (Nat.le_of_lt HRb.out) (HO.out.lt j hj).1))
              replace HWz := Lib.hid (Nat.le_trans HWz.out hgrow.size)
              replace HO := Lib.hid hown
              clear hown hgrow
              refine hK.out _ _ trivial (fun hHeld => ?_)
              clear hK K
              try simp only [Act.put, List.setIfInBounds_toArray, List.set_cons_zero, List.set_cons_succ]
              refine wpAnyH_take (i := 6) (oi := ⟨some 39, .fieldAddr 83 (.tmp 3) 2, 0, "program.go:47", #[⟨0, .phase⟩, ⟨1, .phase⟩, ⟨2, .phase⟩, ⟨3, .phase⟩, ⟨4, .phase⟩, ⟨5, .phase⟩], none⟩) (v := ?_) rfl (by kernel_rfl) (by kernel_rfl) (by kernel_rfl) (fun _ _ _ h => h) (Or.inl ⟨by rfl, ?_⟩) (by assumption) ?_
              rotate_left
              · (intro w hSw; (try dsimp only at hSw); go_simp; try with_reducible rfl)
              try simp only [Act.put, List.setIfInBounds_toArray, List.set_cons_zero, List.set_cons_succ]
              refine wpAnyH_ready (rs := [7]) (by kernel_rfl) (by simp) ?_
              refine (AllReadyH.cons (o := ⟨none, .store 81 (.tmp 39) (.tmp 38), 0, "program.go:47", #[⟨6, .data⟩, ⟨5, .data⟩, ⟨5, .chain⟩, ⟨0, .phase⟩, ⟨1, .phase⟩, ⟨2, .phase⟩, ⟨3, .phase⟩, ⟨4, .phase⟩, ⟨5, .phase⟩], none⟩) rfl (fun K hK => ?_) AllReadyH.nil)
              have lu := cell_blk Kf.out (j := 2) rfl
              have lf : w13.frozen? ⟨W0.heap.size, 2, none⟩ = false := by simp [World.frozen?, Kf.out]
              go_simp
              clear lu lf
              have u14 := cell_blk Kf.out (j := 2) rfl
              have v14 : w13.frozen? ⟨W0.heap.size, 2, none⟩ = false := by simp [World.frozen?, Kf.out]
              obtain ⟨E14, hE14⟩ : ∃ E, w13.setCell ⟨W0.heap.size, 2, none⟩ (.slice qn (zs.length + 1) cn) = E := ⟨_, rfl⟩
              have hEo : ∀ j, j ≠ W0.heap.size → E14.heap[j]? = w13.heap[j]? := fun j hj => by rw [← hE14]; exact Below.heap_setCell w13 _ _ _ hj
              have hEz : E14.heap.size = w13.heap.size := by rw [← hE14]; simp [World.setCell]
              have hEk : E14.heap[W0.heap.size]? = some (.cells #[.string (str a2), .slice qa4 a4.length ca4, .slice qn (zs.length + 1) cn, .slice qa7 a7.length ca7, .slice none 0 0] 83 (0, 0)) := by rw [← hE14, setCell_eq_setRow _ _ _ _ 83 (0, 0) _ Kf.out]; exact setRow_heap _ _ _ _ 83 (0, 0) Kf.out
              replace Kr := Lib.hid ((hEo _ (Nat.ne_of_lt Vf.out)).trans Kr.out)
              replace Kf := Lib.hid hEk
              replace HO := Lib.hid (own_block HO.out (fun g h1 _ => hEo g (Nat.ne_of_gt (Nat.lt_of_lt_of_le HFb.out h1))))
              replace HWz := Lib.hid (Nat.le_trans HWz.out (Nat.le_of_eq hEz.symm))
              replace Fa4 := Lib.hid (Fa4.out.to (Agr.at hEz hEo (by first | exact Or.inl Ufa4.out | exact Or.inr Ufa4.out) Za4.out))
              replace Za4 := Lib.hid (Nat.le_trans Za4.out (Nat.le_of_eq hEz.symm))
              replace Fa7 := Lib.hid (Fa7.out.to (Agr.at hEz hEo (by first | exact Or.inl Ufa7.out | exact Or.inr Ufa7.out) Za7.out))
              replace Za7 := Lib.hid (Nat.le_trans Za7.out (Nat.le_of_eq hEz.symm))
              have hSo := SS.out.1.other (p := ⟨W0.heap.size, 2, none⟩) Nf.out Tf.out (.slice qn (zs.length + 1) cn)
              have hBo := BB.out.putNew (p := ⟨W0.heap.size, 2, none⟩) Mf.out (.slice qn (zs.length + 1) cn)
              rw [hE14] at hSo hBo
              replace SS := Lib.hid (And.intro hSo SS.out.2)
              replace BB := Lib.hid hBo
              clear hEo hEz hEk hSo hBo
              rw [hE14]
              clear hE14 u14 v14
              refine hK.out _ _ trivial (fun hHeld => ?_)
              clear hK K
              try simp only [Act.put, List.setIfInBounds_toArray, List.set_cons_zero, List.set_cons_succ]
              refine wpAnyH_done (by kernel_rfl) ?_ _
              go_wp2_with fail
              go_roundw
              case rel =>
                refine ⟨zs ++ [(a12, ())], k12, g, .slice qn (zs.length + 1) cn, Lib.hid ?_, Lib.hid ?_, Lib.hid ?_, Kf, Kr, SS, BB, HWz, Fa4, Fa7, Lib.hid ?_⟩
                · have h1 := variableP_shs _ _ _ R12.out; rw [List.length_drop, List.length_drop] at h1; have h2 := hzk.out; have h3 := SS.out.2; rw [List.length_append, List.length_singleton]; omega
                · have h1 := variableP_shs _ _ _ R12.out; rw [List.length_drop, List.length_drop] at h1; have h2 := hfu.out; have h3 := SS.out.2; rw [List.length_drop] at h2 ⊢; omega
                · rw [List.length_append, encs_app]; exact HO.out
                · rw [HGy.out, R12.out, map_fst_snoc, Res.bind_ok, Res.bind_assoc]; simp only [Res.bind_ok, List.append_assoc, List.singleton_append]
              case measure =>
                have h1 := variableP_shs _ _ _ R12.out; rw [List.length_drop, List.length_drop] at h1; have h2 := SS.out.1.atOf; have h3 := HPr.out.1.atOf; have h4 := SS.out.2; have h5 := HPr.out.2; rw [h2, h3]; omega
            · go_simp
              obtain ⟨Ag, hAg⟩ : ∃ A, w12.alloc (.cells #[.string (str a12.name), .int .i64 a12.kind, .int .i64 a12.size, .bool a12.secret] 108) = A := ⟨_, rfl⟩
              have VV := Lib.hid (show w.heap.size < w12.heap.size from (Array.getElem?_eq_some_iff.1 Kr.out).1)
              have Xa4 := Lib.hid Za4.out
              have Xa7 := Lib.hid Za7.out
              have Xf := Lib.hid (Array.getElem?_eq_some_iff.1 Kf.out).1
              have hBA : Below w12.heap.size w12 Ag := by rw [← hAg]; exact (Below.refl _ _).alloc (Nat.le_refl _) _
              replace Kr := Lib.hid ((hBA.block _ (Array.getElem?_eq_some_iff.1 Kr.out).1).trans Kr.out)
              replace Kf := Lib.hid ((hBA.block _ (Array.getElem?_eq_some_iff.1 Kf.out).1).trans Kf.out)
              replace Fa4 := Lib.hid (Fa4.out.bel hBA Za4.out)
              replace Za4 := Lib.hid (Nat.le_trans Za4.out hBA.size)
              replace Ya4 := Lib.hid Ya4.out
              replace Fa7 := Lib.hid (Fa7.out.bel hBA Za7.out)
              replace Za7 := Lib.hid (Nat.le_trans Za7.out hBA.size)
              replace Ya7 := Lib.hid Ya7.out
              replace HO := Lib.hid (own_bel HO.out hBA)
              replace HWz := Lib.hid (Nat.le_trans HWz.out hBA.size)
              have Kg := Lib.hid (show Ag.heap[w12.heap.size]? = some (.cells #[.string (str a12.name), .int .i64 a12.kind, .int .i64 a12.size, .bool a12.secret] 108 (0, 0)) by rw [← hAg]; exact heap_alloc_new w12 _)
              have Ng := Lib.hid (Nat.ne_of_gt SS.out.1.lt_pb)
              have Tg := Lib.hid (Nat.ne_of_gt SS.out.1.lt)
              have Uga4 := Lib.hid (show _ ≤ w12.heap.size from Xa4.out)
              have Uga7 := Lib.hid (show _ ≤ w12.heap.size from Xa7.out)
              have Lfg := Lib.hid (show W0.heap.size < w12.heap.size from Xf.out)
              have Mg := Lib.hid (show w.heap.size ≤ w12.heap.size from BB.out.size)
              have Vg := Lib.hid (show w.heap.size < w12.heap.size from VV.out)
              replace SS := Lib.hid (And.intro (SS.out.1.later hBA) SS.out.2)
              replace BB := Lib.hid (BB.out.trans (But.of_below hBA))
              clear hBA
              have HAg := Lib.hid hAg
              clear hAg
              rw [HAg.out]
              clear HAg
              refine hK.out _ _ trivial (fun hHeld => ?_)
              clear hK K
              try simp only [Act.put, List.setIfInBounds_toArray, List.set_cons_zero, List.set_cons_succ]
              refine wpAnyH_ready (rs := [1]) (by kernel_rfl) (by simp) ?_
              refine (AllReadyH.cons (o := ⟨some 34, .load 81 (.tmp 33), 81, "program.go:47", #[⟨0, .data⟩], none⟩) rfl (fun K hK => ?_) AllReadyH.nil)
              have lv := cell_blk Kf.out (j := 2) rfl
              go_simp
              clear lv
              refine hK.out _ _ trivial (fun hHeld => ?_)
              clear hK K
              try simp only [Act.put, List.setIfInBounds_toArray, List.set_cons_zero, List.set_cons_succ]
              refine wpAnyH_ready (rs := [5]) (by kernel_rfl) (by simp) ?_
              refine (AllReadyH.cons (o := ⟨some 38, .call { callee := .builtin .append, args := #[.tmp 34, .tmp 37], argTypes := #[81, 81] }, 81, "program.go:47", #[⟨1, .data⟩, ⟨4, .data⟩, ⟨3, .chain⟩], none⟩) rfl (fun K hK => ?_) AllReadyH.nil)
              rw [if_pos (by rfl)]
              refine wp_append_own _ _ _ 81 rfl w9.heap.size 108 i0 (.agg #[.string ByteArray.empty, .int .i64 0, .int .i64 0, .bool false]) 4 40 Tryz.underlying81 hi hz0 hz1 hz2 rfl (by decide) _ _ _ rfl HO.out ⟨w12.heap.size, 0, none⟩ 1 1 [.string (str a12.name), .int .i64 a12.kind, .int .i64 a12.size, .bool a12.secret] rfl rfl ?_ ?_ ?_ ?_ HWz.out ?_
              · intro j u hj
                have := cell_blk Kg.out (j := j) (v := u) (by rw [← Array.getElem?_toList]; exact hj)
                rw [add_of, Nat.zero_add]
                exact this
              · intro u hu
                simp only [List.mem_cons, List.not_mem_nil, or_false] at hu
                rcases hu with rfl | rfl | rfl | rfl <;> rfl
              · have := HLn.out; unfold maxLen; omega
              · have := HLn.out; omega
              intro v' w13 hown hgrow _
              obtain ⟨qn, cn, rfl⟩ := own_slice hown
              replace Kr := Lib.hid ((hgrow.block _ (Array.getElem?_eq_some_iff.1 Kr.out).1 (fun e => Nat.ne_of_lt (Nat.lt_of_lt_of_le (HRb.out) (HO.out.lt _ e.symm).1) rfl)).trans Kr.out)
              replace Kf := Lib.hid ((hgrow.block _ (Array.getElem?_eq_some_iff.1 Kf.out).1 (fun e => Nat.ne_of_lt (Nat.lt_of_lt_of_le (HFb.out) (HO.out.lt _ e.symm).1) rfl)).trans Kf.out)
              replace Fa4 := Lib.hid (Fa4.out.grw hgrow (fun j hj => Nat.le_trans Ba4.out (HO.out.lt j hj).1) Za4.out)
              replace Za4 := Lib.hid (Nat.le_trans Za4.out hgrow.size)
              replace Fa7 := Lib.hid (Fa7.out.grw hgrow (fun j hj => Nat.le_trans Ba7.out (HO.out.lt j hj).1) Za7.out)
              replace Za7 := Lib.hid (Nat.le_trans Za7.out hgrow.size)
              replace SS := Lib.hid (And.intro (SS.out.1.grown hgrow (fun e => by have h1 := (HO.out.lt _ e).1; have h2 := HPBl.out; omega) (fun e => by have h1 := (HO.out.lt _ e).1; have h2 := HTBl.out; omega)) SS.out.2)
              replace BB := Lib.hid (BB.out.grown hgrow (fun j hj => Nat.le_trans (Nat.le_of_lt HRb.out) (HO.out.lt j hj).1))
              replace HWz := Lib.hid (Nat.le_trans HWz.out hgrow.size)
              replace HO := Lib.hid hown
              clear hown hgrow
              refine hK.out _ _ trivial (fun hHeld => ?_)
              clear hK K
              try simp only [Act.put, List.setIfInBounds_toArray, List.set_cons_zero, List.set_cons_succ]
              refine wpAnyH_take (i := 6) (oi := ⟨some 39, .fieldAddr 83 (.tmp 3) 2, 0, "program.go:47", #[⟨0, .phase⟩, ⟨1, .phase⟩, ⟨2, .phase⟩, ⟨3, .phase⟩, ⟨4, .phase⟩, ⟨5, .phase⟩], none⟩) (v := ?_) rfl (by kernel_rfl) (by kernel_rfl) (by kernel_rfl) (fun _ _ _ h => h) (Or.inl ⟨by rfl, ?_⟩) (by assumption) ?_
              rotate_left
              · (intro w hSw; (try dsimp only at hSw); go_simp; try with_reducible rfl)
              try simp only [Act.put, List.setIfInBounds_toArray, List.set_cons_zero, List.set_cons_succ]
              refine wpAnyH_ready (rs := [7]) (by kernel_rfl) (by simp) ?_
              refine (AllReadyH.cons (o := ⟨none, .store 81 (.tmp 39) (.tmp 38), 0, "program.go:47", #[⟨6, .data⟩, ⟨5, .data⟩, ⟨5, .chain⟩, ⟨0, .phase⟩, ⟨1, .phase⟩, ⟨2, .phase⟩, ⟨3, .phase⟩, ⟨4, .phase⟩, ⟨5, .phase⟩], none⟩) rfl (fun K hK => ?_) AllReadyH.nil)
              have lu := cell_blk Kf.out (j := 2) rfl
              have lf : w13.frozen? ⟨W0.heap.size, 2, none⟩ = false := by simp [World.frozen?, Kf.out]
              go_simp
              clear lu lf
              have u14 := cell_blk Kf.out (j := 2) rfl
              have v14 : w13.frozen? ⟨W0.heap.size, 2, none⟩ = false := by simp [World.frozen?, Kf.out]
              obtain ⟨E14, hE14⟩ : ∃ E, w13.setCell ⟨W0.heap.size, 2, none⟩ (.slice qn (zs.length + 1) cn) = E := ⟨_, rfl⟩
              have hEo : ∀ j, j ≠ W0.heap.size → E14.heap[j]? = w13.heap[j]? := fun j hj => by rw [← hE14]; exact Below.heap_setCell w13 _ _ _ hj
              have hEz : E14.heap.size = w13.heap.size := by rw [← hE14]; simp [World.setCell]
              have hEk : E14.heap[W0.heap.size]? = some (.cells #[.string (str a2), .slice qa4 a4.length ca4, .slice qn (zs.length + 1) cn, .slice qa7 a7.length ca7, .slice none 0 0] 83 (0, 0)) := by rw [← hE14, setCell_eq_setRow _ _ _ _ 83 (0, 0) _ Kf.out]; exact setRow_heap _ _ _ _ 83 (0, 0) Kf.out
              replace Kr := Lib.hid ((hEo _ (Nat.ne_of_lt Vf.out)).trans Kr.out)
              replace Kf := Lib.hid hEk
              replace HO := Lib.hid (own_block HO.out (fun g h1 _ => hEo g (Nat.ne_of_gt (Nat.lt_of_lt_of_le HFb.out h1))))
              replace HWz := Lib.hid (Nat.le_trans HWz.out (Nat.le_of_eq hEz.symm))
              replace Fa4 := Lib.hid (Fa4.out.to (Agr.at hEz hEo (by first | exact Or.inl Ufa4.out | exact Or.inr Ufa4.out) Za4.out))
              replace Za4 := Lib.hid (Nat.le_trans Za4.out (Nat.le_of_eq hEz.symm))
              replace Fa7 := Lib.hid (Fa7.out.to (Agr.at hEz hEo (by first | exact Or.inl Ufa7.out | exact Or.inr Ufa7.out) Za7.out))
              replace Za7 := Lib.hid (Nat.le_trans Za7.out (Nat.le_of_eq hEz.symm))
              have hSo := SS.out.1.other (p := ⟨W0.heap.size, 2, none⟩) Nf.out Tf.out (.slice qn (zs.length + 1) cn)
              have hBo := BB.out.putNew (p := ⟨W0.heap.size, 2, none⟩) Mf.out (.slice qn (zs.length + 1) cn)
              rw [hE14] at hSo hBo
              replace SS := Lib.hid (And.intro hSo SS.out.2)
              replace BB := Lib.hid hBo
              clear hEo hEz hEk hSo hBo
              rw [hE14]
              clear hE14 u14 v14
              refine hK.out _ _ trivial (fun hHeld => ?_)
              clear hK K
              try simp only [Act.put, List.setIfInBounds_toArray, List.set_cons_zero, List.set_cons_succ]
              refine wpAnyH_done (by kernel_rfl) ?_ _
              go_wp2_with fail
              go_roundw
              case rel =>
                refine ⟨zs ++ [(a12, ())], k12, g, .slice qn (zs.length + 1) cn, Lib.hid ?_, Lib.hid ?_, Lib.hid ?_, Kf, Kr, SS, BB, HWz, Fa4, Fa7, Lib.hid ?_⟩
                · have h1 := variableP_shs _ _ _ R12.out; rw [List.length_drop, List.length_drop] at h1; have h2 := hzk.out; have h3 := SS.out.2; rw [List.length_append, List.length_singleton]; omega
                · have h1 := variableP_shs _ _ _ R12.out; rw [List.length_drop, List.length_drop] at h1; have h2 := hfu.out; have h3 := SS.out.2; rw [List.length_drop] at h2 ⊢; omega
                · rw [List.length_append, encs_app]; exact HO.out
                · rw [HGy.out, R12.out, map_fst_snoc, Res.bind_ok, Res.bind_assoc]; simp only [Res.bind_ok, List.append_assoc, List.singleton_append]
              case measure =>
                have h1 := variableP_shs _ _ _ R12.out; rw [List.length_drop, List.length_drop] at h1; have h2 := SS.out.1.atOf; have h3 := HPr.out.1.atOf; have h4 := SS.out.2; have h5 := HPr.out.2; rw [h2, h3]; omega
        · rcases Classical.em ((hdT (p.ts.drop kk)).text = wStack) with t3 | t3
          · have HI := Lib.hid (CI1.out kk wr SS.out.1 SS.out.2)
            rw [decide_eq_false t1] at HI
            go_wp2_with fail
            refine (HI.out).mono ?_
            rintro z w10 ⟨rfl, hBX⟩
            replace Kr := Lib.hid ((hBX.block _ (Array.getElem?_eq_some_iff.1 Kr.out).1).trans Kr.out)
            replace Kf := Lib.hid ((hBX.block _ (Array.getElem?_eq_some_iff.1 Kf.out).1).trans Kf.out)
            replace Fa4 := Lib.hid (Fa4.out.bel hBX Za4.out)
            replace Za4 := Lib.hid (Nat.le_trans Za4.out hBX.size)
            replace Ya4 := Lib.hid Ya4.out
            replace Fa7 := Lib.hid (Fa7.out.bel hBX Za7.out)
            replace Za7 := Lib.hid (Nat.le_trans Za7.out hBX.size)
            replace Ya7 := Lib.hid Ya7.out
            replace HO := Lib.hid (own_bel HO.out hBX)
            replace HWz := Lib.hid (Nat.le_trans HWz.out hBX.size)
            replace SS := Lib.hid (And.intro (SS.out.1.later hBX) SS.out.2)
            replace BB := Lib.hid (BB.out.trans (But.of_below hBX))
            clear hBX
            clear HI
            have HI := Lib.hid (CI2.out kk w10 SS.out.1 SS.out.2)
            rw [decide_eq_false t2] at HI
            go_wp2_with fail
            refine (HI.out).mono ?_
            rintro z w11 ⟨rfl, hBX⟩
            replace Kr := Lib.hid ((hBX.block _ (Array.getElem?_eq_some_iff.1 Kr.out).1).trans Kr.out)
            replace Kf := Lib.hid ((hBX.block _ (Array.getElem?_eq_some_iff.1 Kf.out).1).trans Kf.out)
            replace Fa4 := Lib.hid (Fa4.out.bel hBX Za4.out)
            replace Za4 := Lib.hid (Nat.le_trans Za4.out hBX.size)
            replace Ya4 := Lib.hid Ya4.out
            replace Fa7 := Lib.hid (Fa7.out.bel hBX Za7.out)
            replace Za7 := Lib.hid (Nat.le_trans Za7.out hBX.size)
            replace Ya7 := Lib.hid Ya7.out
            replace HO := Lib.hid (own_bel HO.out hBX)
            replace HWz := Lib.hid (Nat.le_trans HWz.out hBX.size)
            replace SS := Lib.hid (And.intro (SS.out.1.later hBX) SS.out.2)
            replace BB := Lib.hid (BB.out.trans (But.of_below hBX))
            clear hBX
            clear HI
            have HI := Lib.hid (CI3.out kk w11 SS.out.1 SS.out.2)
            rw [decide_eq_true t3] at HI
            go_wp2_with fail
            refine (HI.out).mono ?_
            rintro z w12 ⟨rfl, hBX⟩
            replace Kr := Lib.hid ((hBX.block _ (Array.getElem?_eq_some_iff.1 Kr.out).1).trans Kr.out)
            replace Kf := Lib.hid ((hBX.block _ (Array.getElem?_eq_some_iff.1 Kf.out).1).trans Kf.out)
            replace Fa4 := Lib.hid (Fa4.out.bel hBX Za4.out)
            replace Za4 := Lib.hid (Nat.le_trans Za4.out hBX.size)
            replace Ya4 := Lib.hid Ya4.out
            replace Fa7 := Lib.hid (Fa7.out.bel hBX Za7.out)
            replace Za7 := Lib.hid (Nat.le_trans Za7.out hBX.size)
            replace Ya7 := Lib.hid Ya7.out
            replace HO := Lib.hid (own_bel HO.out hBX)
            replace HWz := Lib.hid (Nat.le_trans HWz.out hBX.size)
            replace SS := Lib.hid (And.intro (SS.out.1.later hBX) SS.out.2)
            replace BB := Lib.hid (BB.out.trans (But.of_below hBX))
            clear hBX
            clear HI
            have HV := Lib.hid (show isVar (hdT (p.ts.drop kk)) = true by simp [isVar, t3])
            have HGy := Lib.hid (HGr.out.trans (by rw [whileP_more HV.out]))
            clear HGr t1 t2 t3
            have HG := Lib.hid HGy.out.symm
            go_wp2_with fail
            have hBD : Below w12.heap.size w12 w12.drew := (Below.refl _ _).drew
            replace Kr := Lib.hid ((hBD.block _ (Array.getElem?_eq_some_iff.1 Kr.out).1).trans Kr.out)
            replace Kf := Lib.hid ((hBD.block _ (Array.getElem?_eq_some_iff.1 Kf.out).1).trans Kf.out)
            replace Fa4 := Lib.hid (Fa4.out.bel hBD Za4.out)
            replace Za4 := Lib.hid (Nat.le_trans Za4.out hBD.size)
            replace Ya4 := Lib.hid Ya4.out
            replace Fa7 := Lib.hid (Fa7.out.bel hBD Za7.out)
            replace Za7 := Lib.hid (Nat.le_trans Za7.out hBD.size)
            replace Ya7 := Lib.hid Ya7.out
            replace HO := Lib.hid (own_bel HO.out hBD)
            replace HWz := Lib.hid (Nat.le_trans HWz.out hBD.size)
            replace SS := Lib.hid (And.intro (SS.out.1.later hBD) SS.out.2)
            replace BB := Lib.hid (BB.out.trans (But.of_below hBD))
            clear hBD
            refine wp_region_held_drew (S := fun _ => True) (by kernel_rfl) ?_ (fun hHeld => ?_)
            · trivial
            generalize w12.drew = wd at *
            refine wpAnyH_take (i := 0) (oi := ⟨some 33, .fieldAddr 83 (.tmp 3) 2, 0, "program.go:47", #[], none⟩) (v := ?_) rfl (by kernel_rfl) (by kernel_rfl) (by kernel_rfl) (fun _ _ _ h => h) (Or.inl ⟨by rfl, ?_⟩) (by assumption) ?_
            rotate_left
            · (intro w hSw; (try dsimp only at hSw); go_simp; try with_reducible rfl)
            try simp only [Act.put, List.setIfInBounds_toArray, List.set_cons_zero, List.set_cons_succ]
            refine wpAnyH_take (i := 2) (oi := ⟨some 35, .move (.tmp 0), 73, "program.go:47", #[], none⟩) (v := ?_) rfl (by kernel_rfl) (by kernel_rfl) (by kernel_rfl) (fun _ _ _ h => h) (Or.inl ⟨by rfl, ?_⟩) (by assumption) ?_
            rotate_left
            · (intro w hSw; (try dsimp only at hSw); go_simp; try with_reducible rfl)
            try simp only [Act.put, List.setIfInBounds_toArray, List.set_cons_zero, List.set_cons_succ]
            refine wpAnyH_ready (rs := [1, 3]) (by kernel_rfl) (by simp) ?_
            refine (AllReadyH.cons (o := ⟨some 34, .load 81 (.tmp 33), 81, "program.go:47", #[⟨0, .data⟩], none⟩) rfl (fun K hK => ?_) (AllReadyH.cons (o := ⟨some 36, .call { callee := .value (.func 156), args := #[.tmp 35], argTypes := #[73] }, 108, "program.go:47", #[⟨2, .data⟩], none⟩) rfl (fun K hK => ?_) AllReadyH.nil))
            · have lv := cell_blk Kf.out (j := 2) rfl
              go_simp
              clear lv
              refine hK.out _ _ trivial (fun hHeld => ?_)
              clear hK K
              try simp only [Act.put, List.setIfInBounds_toArray, List.set_cons_zero, List.set_cons_succ]
              refine wpAnyH_ready (rs := [3]) (by kernel_rfl) (by simp) ?_
              refine (AllReadyH.cons (o := ⟨some 36, .call { callee := .value (.func 156), args := #[.tmp 35], argTypes := #[73] }, 108, "program.go:47", #[⟨2, .data⟩], none⟩) rfl (fun K hK => ?_) AllReadyH.nil)
              go_simp
              have Va13 := Lib.hid (show w.heap.size < wd.heap.size from (Array.getElem?_eq_some_iff.1 Kr.out).1)
              have Ufa13 := Lib.hid (show W0.heap.size < wd.heap.size from (Array.getElem?_eq_some_iff.1 Kf.out).1)
              refine (CV.out kk wd SS.out.1 SS.out.2 HV.out).mono ?_
              intro z w13 hc
              rcases hc with ⟨k13, a13, s13, hr, hkk, hp, hb, hz, hR⟩ | ⟨k13, e13, t13, hr, hp, hb, hz⟩
              rotate_left
              · subst hz
                have HN := Lib.hid (show Post RFnc G p 0 w (WrongIs (e13 : Int) t13) w13 from .no k13 e13 t13 (by rw [← HG.out]; simp only [hr, Res.bind_no]) hp (BB.out.trans hb) rfl)
                clear hr hp hb
                unfold WrongIs
                go_simp
                exact ⟨rfl, HN.out⟩
              replace Kr := Lib.hid ((hb.block _ (Array.getElem?_eq_some_iff.1 Kr.out).1 Nr.out).trans Kr.out)
              replace Kf := Lib.hid ((hb.block _ (Array.getElem?_eq_some_iff.1 Kf.out).1 Nf.out).trans Kf.out)
              replace Fa4 := Lib.hid (Fa4.out.but hb Ga4.out Za4.out)
              replace Za4 := Lib.hid (Nat.le_trans Za4.out hb.size)
              replace Ya4 := Lib.hid Ya4.out
              replace Fa7 := Lib.hid (Fa7.out.but hb Ga7.out Za7.out)
              replace Za7 := Lib.hid (Nat.le_trans Za7.out hb.size)
              replace Ya7 := Lib.hid Ya7.out
              replace HO := Lib.hid (own_but HO.out hb HPBl.out)
              replace HWz := Lib.hid (Nat.le_trans HWz.out hb.size)
              obtain rfl : z = .returned (.agg #[.string (str a13.name), .int .i64 a13.kind, .int .i64 a13.size, .bool a13.secret]) := hz
              have R13 := Lib.hid hr
              replace SS := Lib.hid (And.intro hp hkk)
              replace BB := Lib.hid (BB.out.trans hb)
              clear hr hkk hp hb hR
              refine hK.out _ _ trivial (fun hHeld => ?_)
              clear hK K
              try simp only [Act.put, List.setIfInBounds_toArray, List.set_cons_zero, List.set_cons_succ]
              refine wpAnyH_ready (rs := [4]) (by kernel_rfl) (by simp) ?_
              refine (AllReadyH.cons (o := ⟨some 37, .buildSlice 81 1 #[(0, .tmp 36)], 81, "program.go:47", #[⟨3, .data⟩], none⟩) rfl (fun K hK => ?_) AllReadyH.nil)
              go_simp
              obtain ⟨Ag, hAg⟩ : ∃ A, w13.alloc (.cells #[.string (str a13.name), .int .i64 a13.kind, .int .i64 a13.size, .bool a13.secret] 108) = A := ⟨_, rfl⟩
              have VV := Lib.hid (show w.heap.size < w13.heap.size from (Array.getElem?_eq_some_iff.1 Kr.out).1)
              have Xa4 := Lib.hid Za4.out
              have Xa7 := Lib.hid Za7.out
              have Xf := Lib.hid (Array.getElem?_eq_some_iff.1 Kf.out).1
              have hBA : Below w13.heap.size w13 Ag := by rw [← hAg]; exact (Below.refl _ _).alloc (Nat.le_refl _) _
              replace Kr := Lib.hid ((hBA.block _ (Array.getElem?_eq_some_iff.1 Kr.out).1).trans Kr.out)
              replace Kf := Lib.hid ((hBA.block _ (Array.getElem?_eq_some_iff.1 Kf.out).1).trans Kf.out)
              replace Fa4 := Lib.hid (Fa4.out.bel hBA Za4.out)
              replace Za4 := Lib.hid (Nat.le_trans Za4.out hBA.size)
              replace Ya4 := Lib.hid Ya4.out
              replace Fa7 := Lib.hid (Fa7.out.bel hBA Za7.out)
              replace Za7 := Lib.hid (Nat.le_trans Za7.out hBA.size)
              replace Ya7 := Lib.hid Ya7.out
              replace HO := Lib.hid (own_bel HO.out hBA)
              replace HWz := Lib.hid (Nat.le_trans HWz.out hBA.size)
              have Kg := Lib.hid (show Ag.heap[w13.heap.size]? = some (.cells #[.string (str a13.name), .int .i64 a13.kind, .int .i64 a13.size, .bool a13.secret] 108 (0, 0)) by rw [← hAg]; exact heap_alloc_new w13 _)
              have Ng := Lib.hid (Nat.ne_of_gt SS.out.1.lt_pb)
              have Tg := Lib.hid (Nat.ne_of_gt SS.out.1.lt)
              have Uga4 := Lib.hid (show _ ≤ w13.heap.size from Xa4.out)
              have Uga7 := Lib.hid (show _ ≤ w13.heap.size from Xa7.out)
              have Lfg := Lib.hid (show W0.heap.size < w13.heap.size from Xf.out)
              have Mg := Lib.hid (show w.heap.size ≤ w13.heap.size from BB.out.size)
              have Vg := Lib.hid (show w.heap.size < w13.heap.size from VV.out)
              replace SS := Lib.hid (And.intro (SS.out.1.later hBA) SS.out.2)
              replace BB := Lib.hid (BB.out.trans (But.of_below hBA))
              clear hBA
              have HAg := Lib.hid hAg
              clear hAg
              rw [HAg.out]
              clear HAg
              refine hK.out _ _ trivial (fun hHeld => ?_)
              clear hK K
              try simp only [Act.put, List.setIfInBounds_toArray, List.set_cons_zero, List.set_cons_succ]
              refine wpAnyH_ready (rs := [5]) (by kernel_rfl) (by simp) ?_
              refine (AllReadyH.cons (o := ⟨some 38, .call { callee := .builtin .append, args := #[.tmp 34, .tmp 37], argTypes := #[81, 81] }, 81, "program.go:47", #[⟨1, .data⟩, ⟨4, .data⟩, ⟨3, .chain⟩], none⟩) rfl (fun K hK => ?_) AllReadyH.nil)
              rw [if_pos (by rfl)]
              refine wp_append_own _ _ _ 81 rfl w9.heap.size 108 i0 (.agg #[.string ByteArray.empty, .int .i64 0, .int .i64 0, .bool false]) 4 40 Tryz.underlying81 hi hz0 hz1 hz2 rfl (by decide) _ _ _ rfl HO.out ⟨w13.heap.size, 0, none⟩ 1 1 [.string (str a13.name), .int .i64 a13.kind, .int .i64 a13.size, .bool a13.secret] rfl rfl ?_ ?_ ?_ ?_ HWz.out ?_
              · intro j u hj
                have := cell_blk Kg.out (j := j) (v := u) (by rw [← Array.getElem?_toList]; exact hj)
                rw [add_of, Nat.zero_add]
                exact this
              · intro u hu
                simp only [List.mem_cons, List.not_mem_nil, or_false] at hu
                rcases hu with rfl | rfl | rfl | rfl <;> rfl
              · have := HLn.out; unfold maxLen; omega
              · have := HLn.out; omega
              intro v' w14 hown hgrow _
              obtain ⟨qn, cn, rfl⟩ := own_slice hown
              replace Kr := Lib.hid ((hgrow.block _ (Array.getElem?_eq_some_iff.1 Kr.out).1 (fun e => Nat.ne_of_lt (Nat.lt_of_lt_of_le (HRb.out) (HO.out.lt _ e.symm).1) rfl)).trans Kr.out)
              replace Kf := Lib.hid ((hgrow.block _ (Array.getElem?_eq_some_iff.1 Kf.out).1 (fun e => Nat.ne_of_lt (Nat.lt_of_lt_of_le (HFb.out) (HO.out.lt _ e.symm).1) rfl)).trans Kf.out)
              replace Fa4 := Lib.hid (Fa4.out.grw hgrow (fun j hj => Nat.le_trans Ba4.out (HO.out.lt j hj).1) Za4.out)
              replace Za4 := Lib.hid (Nat.le_trans Za4.out hgrow.size)
              replace Fa7 := Lib.hid (Fa7.out.grw hgrow (fun j hj => Nat.le_trans Ba7.out (HO.out.lt j hj).1) Za7.out)
              replace Za7 := Lib.hid (Nat.le_trans Za7.out hgrow.size)
              replace SS := Lib.hid (And.intro (SS.out.1.grown hgrow (fun e => by have h1 := (HO.out.lt _ e).1; have h2 := HPBl.out; omega) (fun e => by have h1 := (HO.out.lt _ e).1; have h2 := HTBl.out; omega)) SS.out.2)
              replace BB := Lib.hid (BB.out.grown hgrow (fun j hj => Nat.le_trans (Nat.le_of_lt HRb.out) (HO.out.lt j hj).1))
              replace HWz := Lib.hid (Nat.le_trans HWz.out hgrow.size)
              replace HO := Lib.hid hown
              clear hown hgrow
              refine hK.out _ _ trivial (fun hHeld => ?_)
              clear hK K
              try simp only [Act.put, List.setIfInBounds_toArray, List.set_cons_zero, List.set_cons_succ]
              refine wpAnyH_take (i := 6) (oi := ⟨some 39, .fieldAddr 83 (.tmp 3) 2, 0, "program.go:47", #[⟨0, .phase⟩, ⟨1, .phase⟩, ⟨2, .phase⟩, ⟨3, .phase⟩, ⟨4, .phase⟩, ⟨5, .phase⟩], none⟩) (v := ?_) rfl (by kernel_rfl) (by kernel_rfl) (by kernel_rfl) (fun _ _ _ h => h) (Or.inl ⟨by rfl, ?_⟩) (by assumption) ?_
              rotate_left
              · (intro w hSw; (try dsimp only at hSw); go_simp; try with_reducible rfl)
              try simp only [Act.put, List.setIfInBounds_toArray, List.set_cons_zero, List.set_cons_succ]
              refine wpAnyH_ready (rs := [7]) (by kernel_rfl) (by simp) ?_
              refine (AllReadyH.cons (o := ⟨none, .store 81 (.tmp 39) (.tmp 38), 0, "program.go:47", #[⟨6, .data⟩, ⟨5, .data⟩, ⟨5, .chain⟩, ⟨0, .phase⟩, ⟨1, .phase⟩, ⟨2, .phase⟩, ⟨3, .phase⟩, ⟨4, .phase⟩, ⟨5, .phase⟩], none⟩) rfl (fun K hK => ?_) AllReadyH.nil)
              have lu := cell_blk Kf.out (j := 2) rfl
              have lf : w14.frozen? ⟨W0.heap.size, 2, none⟩ = false := by simp [World.frozen?, Kf.out]
              go_simp
              clear lu lf
              have u15 := cell_blk Kf.out (j := 2) rfl
              have v15 : w14.frozen? ⟨W0.heap.size, 2, none⟩ = false := by simp [World.frozen?, Kf.out]
              obtain ⟨E15, hE15⟩ : ∃ E, w14.setCell ⟨W0.heap.size, 2, none⟩ (.slice qn (zs.length + 1) cn) = E := ⟨_, rfl⟩
              have hEo : ∀ j, j ≠ W0.heap.size → E15.heap[j]? = w14.heap[j]? := fun j hj => by rw [← hE15]; exact Below.heap_setCell w14 _ _ _ hj
              have hEz : E15.heap.size = w14.heap.size := by rw [← hE15]; simp [World.setCell]
              have hEk : E15.heap[W0.heap.size]? = some (.cells #[.string (str a2), .slice qa4 a4.length ca4, .slice qn (zs.length + 1) cn, .slice qa7 a7.length ca7, .slice none 0 0] 83 (0, 0)) := by rw [← hE15, setCell_eq_setRow _ _ _ _ 83 (0, 0) _ Kf.out]; exact setRow_heap _ _ _ _ 83 (0, 0) Kf.out
              replace Kr := Lib.hid ((hEo _ (Nat.ne_of_lt Vf.out)).trans Kr.out)
              replace Kf := Lib.hid hEk
              replace HO := Lib.hid (own_block HO.out (fun g h1 _ => hEo g (Nat.ne_of_gt (Nat.lt_of_lt_of_le HFb.out h1))))
              replace HWz := Lib.hid (Nat.le_trans HWz.out (Nat.le_of_eq hEz.symm))
              replace Fa4 := Lib.hid (Fa4.out.to (Agr.at hEz hEo (by first | exact Or.inl Ufa4.out | exact Or.inr Ufa4.out) Za4.out))
              replace Za4 := Lib.hid (Nat.le_trans Za4.out (Nat.le_of_eq hEz.symm))
              replace Fa7 := Lib.hid (Fa7.out.to (Agr.at hEz hEo (by first | exact Or.inl Ufa7.out | exact Or.inr Ufa7.out) Za7.out))
              replace Za7 := Lib.hid (Nat.le_trans Za7.out (Nat.le_of_eq hEz.symm))
              have hSo := SS.out.1.other (p := ⟨W0.heap.size, 2, none⟩) Nf.out Tf.out (.slice qn (zs.length + 1) cn)
              have hBo := BB.out.putNew (p := ⟨W0.heap.size, 2, none⟩) Mf.out (.slice qn (zs.length + 1) cn)
              rw [hE15] at hSo hBo
              replace SS := Lib.hid (And.intro hSo SS.out.2)
              replace BB := Lib.hid hBo
              clear hEo hEz hEk hSo hBo
              rw [hE15]
              clear hE15 u15 v15
              refine hK.out _ _ trivial (fun hHeld => ?_)
              clear hK K
              try simp only [Act.put, List.setIfInBounds_toArray, List.set_cons_zero, List.set_cons_succ]
              refine wpAnyH_done (by kernel_rfl) ?_ _
              go_wp2_with fail
              go_roundw
              case rel =>
                refine ⟨zs ++ [(a13, ())], k13, g, .slice qn (zs.length + 1) cn, Lib.hid ?_, Lib.hid ?_, Lib.hid ?_, Kf, Kr, SS, BB, HWz, Fa4, Fa7, Lib.hid ?_⟩
                · have h1 := variableP_shs _ _ _ R13.out; rw [List.length_drop, List.length_drop] at h1; have h2 := hzk.out; have h3 := SS.out.2; rw [List.length_append, List.length_singleton]; omega
                · have h1 := variableP_shs _ _ _ R13.out; rw [List.length_drop, List.length_drop] at h1; have h2 := hfu.out; have h3 := SS.out.2; rw [List.length_drop] at h2 ⊢; omega
                · rw [List.length_append, encs_app]; exact HO.out
                · rw [HGy.out, R13.out, map_fst_snoc, Res.bind_ok, Res.bind_assoc]; simp only [Res.bind_ok, List.append_assoc, List.singleton_append]
              case measure =>
                have h1 := variableP_shs _ _ _ R13.out; rw [List.length_drop, List.length_drop] at h1; have h2 := SS.out.1.atOf; have h3 := HPr.out.1.atOf; have h4 := SS.out.2; have h5 := HPr.out.2; rw [h2, h3]; omega
            · go_simp
              have Va13 := Lib.hid (show w.heap.size < wd.heap.size from (Array.getElem?_eq_some_iff.1 Kr.out).1)
              have Ufa13 := Lib.hid (show W0.heap.size < wd.heap.size from (Array.getElem?_eq_some_iff.1 Kf.out).1)
              refine (CV.out kk wd SS.out.1 SS.out.2 HV.out).mono ?_
              intro z w13 hc
              rcases hc with ⟨k13, a13, s13, hr, hkk, hp, hb, hz, hR⟩ | ⟨k13, e13, t13, hr, hp, hb, hz⟩
              rotate_left
              · subst hz
                have HN := Lib.hid (show Post RFnc G p 0 w (WrongIs (e13 : Int) t13) w13 from .no k13 e13 t13 (by rw [← HG.out]; simp only [hr, Res.bind_no]) hp (BB.out.trans hb) rfl)
                clear hr hp hb
                unfold WrongIs
                go_simp
                exact ⟨rfl, HN.out⟩
              replace Kr := Lib.hid ((hb.block _ (Array.getElem?_eq_some_iff.1 Kr.out).1 Nr.out).trans Kr.out)
              replace Kf := Lib.hid ((hb.block _ (Array.getElem?_eq_some_iff.1 Kf.out).1 Nf.out).trans Kf.out)
              replace Fa4 := Lib.hid (Fa4.out.but hb Ga4.out Za4.out)
              replace Za4 := Lib.hid (Nat.le_trans Za4.out hb.size)
              replace Ya4 := Lib.hid Ya4.out
              replace Fa7 := Lib.hid (Fa7.out.but hb Ga7.out Za7.out)
              replace Za7 := Lib.hid (Nat.le_trans Za7.out hb.size)
              replace Ya7 := Lib.hid Ya7.out
              replace HO := Lib.hid (own_but HO.out hb HPBl.out)
              replace HWz := Lib.hid (Nat.le_trans HWz.out hb.size)
              obtain rfl : z = .returned (.agg #[.string (str a13.name), .int .i64 a13.kind, .int .i64 a13.size, .bool a13.secret]) := hz
              have R13 := Lib.hid hr
              replace SS := Lib.hid (And.intro hp hkk)
              replace BB := Lib.hid (BB.out.trans hb)
              clear hr hkk hp hb hR
              refine hK.out _ _ trivial (fun hHeld => ?_)
              clear hK K
              try simp only [Act.put, List.setIfInBounds_toArray, List.set_cons_zero, List.set_cons_succ]
              refine wpAnyH_ready (rs := [1, 4]) (by kernel_rfl) (by simp) ?_
              refine (AllReadyH.cons (o := ⟨some 34, .load 81 (.tmp 33), 81, "program.go:47", #[⟨0, .data⟩], none⟩) rfl (fun K hK => ?_) (AllReadyH.cons (o := ⟨some 37, .buildSlice 81 1 #[(0, .tmp 36)], 81, "program.go:47", #[⟨3, .data⟩], none⟩) rfl (fun K hK => ?_) AllReadyH.nil))
              · have lv := cell_blk Kf.out (j := 2) rfl
                go_simp
                clear lv
                refine hK.out _ _ trivial (fun hHeld => ?_)
                clear hK K
                try simp only [Act.put, List.setIfInBounds_toArray, List.set_cons_zero, List.set_cons_succ]
                refine wpAnyH_ready (rs := [4]) (by kernel_rfl) (by simp) ?_
                refine (AllReadyH.cons (o := ⟨some 37, .buildSlice 81 1 #[(0, .tmp 36)], 81, "program.go:47", #[⟨3, .data⟩], none⟩) rfl (fun K hK => ?_) AllReadyH.nil)
                go_simp
                obtain ⟨Ag, hAg⟩ : ∃ A, w13.alloc (.cells #[.string (str a13.name), .int .i64 a13.kind, .int .i64 a13.size, .bool a13.secret] 108) = A := ⟨_, rfl⟩
                have VV := Lib.hid (show w.heap.size < w13.heap.size from (Array.getElem?_eq_some_iff.1 Kr.out).1)
                have Xa4 := Lib.hid Za4.out
                have Xa7 := Lib.hid Za7.out
                have Xf := Lib.hid (Array.getElem?_eq_some_iff.1 Kf.out).1
                have hBA : Below w13.heap.size w13 Ag := by rw [← hAg]; exact (Below.refl _ _).alloc (Nat.le_refl _) _
                replace Kr := Lib.hid ((hBA.block _ (Array.getElem?_eq_some_iff.1 Kr.out).1).trans Kr.out)
                replace Kf := Lib.hid ((hBA.block _ (Array.getElem?_eq_some_iff.1 Kf.out).1).trans Kf.out)
                replace Fa4 := Lib.hid (Fa4.out.bel hBA Za4.out)
                replace Za4 := Lib.hid (Nat.le_trans Za4.out hBA.size)
                replace Ya4 := Lib.hid Ya4.out
                replace Fa7 := Lib.hid (Fa7.out.bel hBA Za7.out)
                replace Za7 := Lib.hid (Nat.le_trans Za7.out hBA.size)
                replace Ya7 := Lib.hid Ya7.out
                replace HO := Lib.hid (own_bel HO.out hBA)
                replace HWz := Lib.hid (Nat.le_trans HWz.out hBA.size)
                have Kg := Lib.hid (show Ag.heap[w13.heap.size]? = some (.cells #[.string (str a13.name), .int .i64 a13.kind, .int .i64 a13.size, .bool a13.secret] 108 (0, 0)) by rw [← hAg]; exact heap_alloc_new w13 _)
                have Ng := Lib.hid (Nat.ne_of_gt SS.out.1.lt_pb)
                have Tg := Lib.hid (Nat.ne_of_gt SS.out.1.lt)
                have Uga4 := Lib.hid (show _ ≤ w13.heap.size from Xa4.out)
                have Uga7 := Lib.hid (show _ ≤ w13.heap.size from Xa7.out)
                have Lfg := Lib.hid (show W0.heap.size < w13.heap.size from Xf.out)
                have Mg := Lib.hid (show w.heap.size ≤ w13.heap.size from BB.out.size)
                have Vg := Lib.hid (show w.heap.size < w13.heap.size from VV.out)
                replace SS := Lib.hid (And.intro (SS.out.1.later hBA) SS.out.2)
                replace BB := Lib.hid (BB.out.trans (But.of_below hBA))
                clear hBA
                have HAg := Lib.hid hAg
                clear hAg
                rw [HAg.out]
                clear HAg
                refine hK.out _ _ trivial (fun hHeld => ?_)
                clear hK K
                try simp only [Act.put, List.setIfInBounds_toArray, List.set_cons_zero, List.set_cons_succ]
                refine wpAnyH_ready (rs := [5]) (by kernel_rfl) (by simp) ?_
                refine (AllReadyH.cons (o := ⟨some 38, .call { callee := .builtin .append, args := #[.tmp 34, .tmp 37], argTypes := #[81, 81] }, 81, "program.go:47", #[⟨1, .data⟩, ⟨4, .data⟩, ⟨3, .chain⟩], none⟩) rfl (fun K hK => ?_) AllReadyH.nil)
                rw [if_pos (by rfl)]
                refine wp_append_own _ _ _ 81 rfl w9.heap.size 108 i0 (.agg #[.string ByteArray.empty, .int .i64 0, .int .i64 0, .bool false]) 4 40 Tryz.underlying81 hi hz0 hz1 hz2 rfl (by decide) _ _ _ rfl HO.out ⟨w13.heap.size, 0, none⟩ 1 1 [.string (str a13.name), .int .i64 a13.kind, .int .i64 a13.size, .bool a13.secret] rfl rfl ?_ ?_ ?_ ?_ HWz.out ?_
                · intro j u hj
                  have := cell_blk Kg.out (j := j) (v := u) (by rw [← Array.getElem?_toList]; exact hj)
                  rw [add_of, Nat.zero_add]
                  exact this
                · intro u hu
                  simp only [List.mem_cons, List.not_mem_nil, or_false] at hu
                  rcases hu with rfl | rfl | rfl | rfl <;> rfl
                · have := HLn.out; unfold maxLen; omega
                · have := HLn.out; omega
                intro v' w14 hown hgrow _
                obtain ⟨qn, cn, rfl⟩ := own_slice hown
                replace Kr := Lib.hid ((hgrow.block _ (Array.getElem?_eq_some_iff.1 Kr.out).1 (fun e => Nat.ne_of_lt (Nat.lt_of_lt_of_le (HRb.out) (HO.out.lt _ e.symm).1) rfl)).trans Kr.out)
                replace Kf := Lib.hid ((hgrow.block _ (Array.getElem?_eq_some_iff.1 Kf.out).1 (fun e => Nat.ne_of_lt (Nat.lt_of_lt_of_le (HFb.out) (HO.out.lt _ e.symm).1) rfl)).trans Kf.out)
                replace Fa4 := Lib.hid (Fa4.out.grw hgrow (fun j hj => Nat.le_trans Ba4.out (HO.out.lt j hj).1) Za4.out)
                replace Za4 := Lib.hid (Nat.le_trans Za4.out hgrow.size)
                replace Fa7 := Lib.hid (Fa7.out.grw hgrow (fun j hj => Nat.le_trans Ba7.out (HO.out.lt j hj).1) Za7.out)
                replace Za7 := Lib.hid (Nat.le_trans Za7.out hgrow.size)
                replace SS := Lib.hid (And.intro (SS.out.1.grown hgrow (fun e => by have h1 := (HO.out.lt _ e).1; have h2 := HPBl.out; omega) (fun e => by have h1 := (HO.out.lt _ e).1; have h2 := HTBl.out; omega)) SS.out.2)
                replace BB := Lib.hid (BB.out.grown hgrow (fun j hj => Nat.le_trans (Nat.le_of_lt HRb.out) (HO.out.lt j hj).1))
                replace HWz := Lib.hid (Nat.le_trans HWz.out hgrow.size)
                replace HO := Lib.hid hown
                clear hown hgrow
                refine hK.out _ _ trivial (fun hHeld => ?_)
                clear hK K
                try simp only [Act.put, List.setIfInBounds_toArray, List.set_cons_zero, List.set_cons_succ]
                refine wpAnyH_take (i := 6) (oi := ⟨some 39, .fieldAddr 83 (.tmp 3) 2, 0, "program.go:47", #[⟨0, .phase⟩, ⟨1, .phase⟩, ⟨2, .phase⟩, ⟨3, .phase⟩, ⟨4, .phase⟩, ⟨5, .phase⟩], none⟩) (v := ?_) rfl (by kernel_rfl) (by kernel_rfl) (by kernel_rfl) (fun _ _ _ h => h) (Or.inl ⟨by rfl, ?_⟩) (by assumption) ?_
                rotate_left
                · (intro w hSw; (try dsimp only at hSw); go_simp; try with_reducible rfl)
                try simp only [Act.put, List.setIfInBounds_toArray, List.set_cons_zero, List.set_cons_succ]
                refine wpAnyH_ready (rs := [7]) (by kernel_rfl) (by simp) ?_
                refine (AllReadyH.cons (o := ⟨none, .store 81 (.tmp 39) (.tmp 38), 0, "program.go:47", #[⟨6, .data⟩, ⟨5, .data⟩, ⟨5, .chain⟩, ⟨0, .phase⟩, ⟨1, .phase⟩, ⟨2, .phase⟩, ⟨3, .phase⟩, ⟨4, .phase⟩, ⟨5, .phase⟩], none⟩) rfl (fun K hK => ?_) AllReadyH.nil)
                have lu := cell_blk Kf.out (j := 2) rfl
                have lf : w14.frozen? ⟨W0.heap.size, 2, none⟩ = false := by simp [World.frozen?, Kf.out]
                go_simp
                clear lu lf
                have u15 := cell_blk Kf.out (j := 2) rfl
                have v15 : w14.frozen? ⟨W0.heap.size, 2, none⟩ = false := by simp [World.frozen?, Kf.out]
                obtain ⟨E15, hE15⟩ : ∃ E, w14.setCell ⟨W0.heap.size, 2, none⟩ (.slice qn (zs.length + 1) cn) = E := ⟨_, rfl⟩
                have hEo : ∀ j, j ≠ W0.heap.size → E15.heap[j]? = w14.heap[j]? := fun j hj => by rw [← hE15]; exact Below.heap_setCell w14 _ _ _ hj
                have hEz : E15.heap.size = w14.heap.size := by rw [← hE15]; simp [World.setCell]
                have hEk : E15.heap[W0.heap.size]? = some (.cells #[.string (str a2), .slice qa4 a4.length ca4, .slice qn (zs.length + 1) cn, .slice qa7 a7.length ca7, .slice none 0 0] 83 (0, 0)) := by rw [← hE15, setCell_eq_setRow _ _ _ _ 83 (0, 0) _ Kf.out]; exact setRow_heap _ _ _ _ 83 (0, 0) Kf.out
                replace Kr := Lib.hid ((hEo _ (Nat.ne_of_lt Vf.out)).trans Kr.out)
                replace Kf := Lib.hid hEk
                replace HO := Lib.hid (own_block HO.out (fun g h1 _ => hEo g (Nat.ne_of_gt (Nat.lt_of_lt_of_le HFb.out h1))))
                replace HWz := Lib.hid (Nat.le_trans HWz.out (Nat.le_of_eq hEz.symm))
                replace Fa4 := Lib.hid (Fa4.out.to (Agr.at hEz hEo (by first | exact Or.inl Ufa4.out | exact Or.inr Ufa4.out) Za4.out))
                replace Za4 := Lib.hid (Nat.le_trans Za4.out (Nat.le_of_eq hEz.symm))
                replace Fa7 := Lib.hid (Fa7.out.to (Agr.at hEz hEo (by first | exact Or.inl Ufa7.out | exact Or.inr Ufa7.out) Za7.out))
                replace Za7 := Lib.hid (Nat.le_trans Za7.out (Nat.le_of_eq hEz.symm))
                have hSo := SS.out.1.other (p := ⟨W0.heap.size, 2, none⟩) Nf.out Tf.out (.slice qn (zs.length + 1) cn)
                have hBo := BB.out.putNew (p := ⟨W0.heap.size, 2, none⟩) Mf.out (.slice qn (zs.length + 1) cn)
                rw [hE15] at hSo hBo
                replace SS := Lib.hid (And.intro hSo SS.out.2)
                replace BB := Lib.hid hBo
                clear hEo hEz hEk hSo hBo
                rw [hE15]
                clear hE15 u15 v15
                refine hK.out _ _ trivial (fun hHeld => ?_)
                clear hK K
                try simp only [Act.put, List.setIfInBounds_toArray, List.set_cons_zero, List.set_cons_succ]
                refine wpAnyH_done (by kernel_rfl) ?_ _
                go_wp2_with fail
                go_roundw
                case rel =>
                  refine ⟨zs ++ [(a13, ())], k13, g, .slice qn (zs.length + 1) cn, Lib.hid ?_, Lib.hid ?_, Lib.hid ?_, Kf, Kr, SS, BB, HWz, Fa4, Fa7, Lib.hid ?_⟩
                  · have h1 := variableP_shs _ _ _ R13.out; rw [List.length_drop, List.length_drop] at h1; have h2 := hzk.out; have h3 := SS.out.2; rw [List.length_append, List.length_singleton]; omega
                  · have h1 := variableP_shs _ _ _ R13.out; rw [List.length_drop, List.length_drop] at h1; have h2 := hfu.out; have h3 := SS.out.2; rw [List.length_drop] at h2 ⊢; omega
                  · rw [List.length_append, encs_app]; exact HO.out
                  · rw [HGy.out, R13.out, map_fst_snoc, Res.bind_ok, Res.bind_assoc]; simp only [Res.bind_ok, List.append_assoc, List.singleton_append]
                case measure =>
                  have h1 := variableP_shs _ _ _ R13.out; rw [List.length_drop, List.length_drop] at h1; have h2 := SS.out.1.atOf; have h3 := HPr.out.1.atOf; have h4 := SS.out.2; have h5 := HPr.out.2; rw [h2, h3]; omega
              · go_simp
                obtain ⟨Ag, hAg⟩ : ∃ A, w13.alloc (.cells #[.string (str a13.name), .int .i64 a13.kind, .int .i64 a13.size, .bool a13.secret] 108) = A := ⟨_, rfl⟩
                have VV := Lib.hid (show w.heap.size < w13.heap.size from (Array.getElem?_eq_some_iff.1 Kr.out).1)
                have Xa4 := Lib.hid Za4.out
                have Xa7 := Lib.hid Za7.out
                have Xf := Lib.hid (Array.getElem?_eq_some_iff.1 Kf.out).1
                have hBA : Below w13.heap.size w13 Ag := by rw [← hAg]; exact (Below.refl _ _).alloc (Nat.le_refl _) _
                replace Kr := Lib.hid ((hBA.block _ (Array.getElem?_eq_some_iff.1 Kr.out).1).trans Kr.out)
                replace Kf := Lib.hid ((hBA.block _ (Array.getElem?_eq_some_iff.1 Kf.out).1).trans Kf.out)
                replace Fa4 := Lib.hid (Fa4.out.bel hBA Za4.out)
                replace Za4 := Lib.hid (Nat.le_trans Za4.out hBA.size)
                replace Ya4 := Lib.hid Ya4.out
                replace Fa7 := Lib.hid (Fa7.out.bel hBA Za7.out)
                replace Za7 := Lib.hid (Nat.le_trans Za7.out hBA.size)
                replace Ya7 := Lib.hid Ya7.out
                replace HO := Lib.hid (own_bel HO.out hBA)
                replace HWz := Lib.hid (Nat.le_trans HWz.out hBA.size)
                have Kg := Lib.hid (show Ag.heap[w13.heap.size]? = some (.cells #[.string (str a13.name), .int .i64 a13.kind, .int .i64 a13.size, .bool a13.secret] 108 (0, 0)) by rw [← hAg]; exact heap_alloc_new w13 _)
                have Ng := Lib.hid (Nat.ne_of_gt SS.out.1.lt_pb)
                have Tg := Lib.hid (Nat.ne_of_gt SS.out.1.lt)
                have Uga4 := Lib.hid (show _ ≤ w13.heap.size from Xa4.out)
                have Uga7 := Lib.hid (show _ ≤ w13.heap.size from Xa7.out)
                have Lfg := Lib.hid (show W0.heap.size < w13.heap.size from Xf.out)
                have Mg := Lib.hid (show w.heap.size ≤ w13.heap.size from BB.out.size)
                have Vg := Lib.hid (show w.heap.size < w13.heap.size from VV.out)
                replace SS := Lib.hid (And.intro (SS.out.1.later hBA) SS.out.2)
                replace BB := Lib.hid (BB.out.trans (But.of_below hBA))
                clear hBA
                have HAg := Lib.hid hAg
                clear hAg
                rw [HAg.out]
                clear HAg
                refine hK.out _ _ trivial (fun hHeld => ?_)
                clear hK K
                try simp only [Act.put, List.setIfInBounds_toArray, List.set_cons_zero, List.set_cons_succ]
                refine wpAnyH_ready (rs := [1]) (by kernel_rfl) (by simp) ?_
                refine (AllReadyH.cons (o := ⟨some 34, .load 81 (.tmp 33), 81, "program.go:47", #[⟨0, .data⟩], none⟩) rfl (fun K hK => ?_) AllReadyH.nil)
                have lv := cell_blk Kf.out (j := 2) rfl
                go_simp
                clear lv
                refine hK.out _ _ trivial (fun hHeld => ?_)
                clear hK K
                try simp only [Act.put, List.setIfInBounds_toArray, List.set_cons_zero, List.set_cons_succ]
                refine wpAnyH_ready (rs := [5]) (by kernel_rfl) (by simp) ?_
                refine (AllReadyH.cons (o := ⟨some 38, .call { callee := .builtin .append, args := #[.tmp 34, .tmp 37], argTypes := #[81, 81] }, 81, "program.go:47", #[⟨1, .data⟩, ⟨4, .data⟩, ⟨3, .chain⟩], none⟩) rfl (fun K hK => ?_) AllReadyH.nil)
                rw [if_pos (by rfl)]
                refine wp_append_own _ _ _ 81 rfl w9.heap.size 108 i0 (.agg #[.string ByteArray.empty, .int .i64 0, .int .i64 0, .bool false]) 4 40 Tryz.underlying81 hi hz0 hz1 hz2 rfl (by decide) _ _ _ rfl HO.out ⟨w13.heap.size, 0, none⟩ 1 1 [.string (str a13.name), .int .i64 a13.kind, .int .i64 a13.size, .bool a13.secret] rfl rfl ?_ ?_ ?_ ?_ HWz.out ?_
                · intro j u hj
                  have := cell_blk Kg.out (j := j) (v := u) (by rw [← Array.getElem?_toList]; exact hj)
                  rw [add_of, Nat.zero_add]
                  exact this
                · intro u hu
                  simp only [List.mem_cons, List.not_mem_nil, or_false] at hu
                  rcases hu with rfl | rfl | rfl | rfl <;> rfl
                · have := HLn.out; unfold maxLen; omega
                · have := HLn.out; omega
                intro v' w14 hown hgrow _
                obtain ⟨qn, cn, rfl⟩ := own_slice hown
                replace Kr := Lib.hid ((hgrow.block _ (Array.getElem?_eq_some_iff.1 Kr.out).1 (fun e => Nat.ne_of_lt (Nat.lt_of_lt_of_le (HRb.out) (HO.out.lt _ e.symm).1) rfl)).trans Kr.out)
                replace Kf := Lib.hid ((hgrow.block _ (Array.getElem?_eq_some_iff.1 Kf.out).1 (fun e => Nat.ne_of_lt (Nat.lt_of_lt_of_le (HFb.out) (HO.out.lt _ e.symm).1) rfl)).trans Kf.out)
                replace Fa4 := Lib.hid (Fa4.out.grw hgrow (fun j hj => Nat.le_trans Ba4.out (HO.out.lt j hj).1) Za4.out)
                replace Za4 := Lib.hid (Nat.le_trans Za4.out hgrow.size)
                replace Fa7 := Lib.hid (Fa7.out.grw hgrow (fun j hj => Nat.le_trans Ba7.out (HO.out.lt j hj).1) Za7.out)
                replace Za7 := Lib.hid (Nat.le_trans Za7.out hgrow.size)
                replace SS := Lib.hid (And.intro (SS.out.1.grown hgrow (fun e => by have h1 := (HO.out.lt _ e).1; have h2 := HPBl.out; omega) (fun e => by have h1 := (HO.out.lt _ e).1; have h2 := HTBl.out; omega)) SS.out.2)
                replace BB := Lib.hid (BB.out.grown hgrow (fun j hj => Nat.le_trans (Nat.le_of_lt HRb.out) (HO.out.lt j hj).1))
                replace HWz := Lib.hid (Nat.le_trans HWz.out hgrow.size)
                replace HO := Lib.hid hown
                clear hown hgrow
                refine hK.out _ _ trivial (fun hHeld => ?_)
                clear hK K
                try simp only [Act.put, List.setIfInBounds_toArray, List.set_cons_zero, List.set_cons_succ]
                refine wpAnyH_take (i := 6) (oi := ⟨some 39, .fieldAddr 83 (.tmp 3) 2, 0, "program.go:47", #[⟨0, .phase⟩, ⟨1, .phase⟩, ⟨2, .phase⟩, ⟨3, .phase⟩, ⟨4, .phase⟩, ⟨5, .phase⟩], none⟩) (v := ?_) rfl (by kernel_rfl) (by kernel_rfl) (by kernel_rfl) (fun _ _ _ h => h) (Or.inl ⟨by rfl, ?_⟩) (by assumption) ?_
                rotate_left
                · (intro w hSw; (try dsimp only at hSw); go_simp; try with_reducible rfl)
                try simp only [Act.put, List.setIfInBounds_toArray, List.set_cons_zero, List.set_cons_succ]
                refine wpAnyH_ready (rs := [7]) (by kernel_rfl) (by simp) ?_
                refine (AllReadyH.cons (o := ⟨none, .store 81 (.tmp 39) (.tmp 38), 0, "program.go:47", #[⟨6, .data⟩, ⟨5, .data⟩, ⟨5, .chain⟩, ⟨0, .phase⟩, ⟨1, .phase⟩, ⟨2, .phase⟩, ⟨3, .phase⟩, ⟨4, .phase⟩, ⟨5, .phase⟩], none⟩) rfl (fun K hK => ?_) AllReadyH.nil)
                have lu := cell_blk Kf.out (j := 2) rfl
                have lf : w14.frozen? ⟨W0.heap.size, 2, none⟩ = false := by simp [World.frozen?, Kf.out]
                go_simp
                clear lu lf
                have u15 := cell_blk Kf.out (j := 2) rfl
                have v15 : w14.frozen? ⟨W0.heap.size, 2, none⟩ = false := by simp [World.frozen?, Kf.out]
                obtain ⟨E15, hE15⟩ : ∃ E, w14.setCell ⟨W0.heap.size, 2, none⟩ (.slice qn (zs.length + 1) cn) = E := ⟨_, rfl⟩
                have hEo : ∀ j, j ≠ W0.heap.size → E15.heap[j]? = w14.heap[j]? := fun j hj => by rw [← hE15]; exact Below.heap_setCell w14 _ _ _ hj
                have hEz : E15.heap.size = w14.heap.size := by rw [← hE15]; simp [World.setCell]
                have hEk : E15.heap[W0.heap.size]? = some (.cells #[.string (str a2), .slice qa4 a4.length ca4, .slice qn (zs.length + 1) cn, .slice qa7 a7.length ca7, .slice none 0 0] 83 (0, 0)) := by rw [← hE15, setCell_eq_setRow _ _ _ _ 83 (0, 0) _ Kf.out]; exact setRow_heap _ _ _ _ 83 (0, 0) Kf.out
                replace Kr := Lib.hid ((hEo _ (Nat.ne_of_lt Vf.out)).trans Kr.out)
                replace Kf := Lib.hid hEk
                replace HO := Lib.hid (own_block HO.out (fun g h1 _ => hEo g (Nat.ne_of_gt (Nat.lt_of_lt_of_le HFb.out h1))))
                replace HWz := Lib.hid (Nat.le_trans HWz.out (Nat.le_of_eq hEz.symm))
                replace Fa4 := Lib.hid (Fa4.out.to (Agr.at hEz hEo (by first | exact Or.inl Ufa4.out | exact Or.inr Ufa4.out) Za4.out))
                replace Za4 := Lib.hid (Nat.le_trans Za4.out (Nat.le_of_eq hEz.symm))
                replace Fa7 := Lib.hid (Fa7.out.to (Agr.at hEz hEo (by first | exact Or.inl Ufa7.out | exact Or.inr Ufa7.out) Za7.out))
                replace Za7 := Lib.hid (Nat.le_trans Za7.out (Nat.le_of_eq hEz.symm))
                have hSo := SS.out.1.other (p := ⟨W0.heap.size, 2, none⟩) Nf.out Tf.out (.slice qn (zs.length + 1) cn)
                have hBo := BB.out.putNew (p := ⟨W0.heap.size, 2, none⟩) Mf.out (.slice qn (zs.length + 1) cn)
                rw [hE15] at hSo hBo
                replace SS := Lib.hid (And.intro hSo SS.out.2)
                replace BB := Lib.hid hBo
                clear hEo hEz hEk hSo hBo
                rw [hE15]
                clear hE15 u15 v15
                refine hK.out _ _ trivial (fun hHeld => ?_)
                clear hK K
                try simp only [Act.put, List.setIfInBounds_toArray, List.set_cons_zero, List.set_cons_succ]
                refine wpAnyH_done (by kernel_rfl) ?_ _
                go_wp2_with fail
                go_roundw
                case rel =>
                  refine ⟨zs ++ [(a13, ())], k13, g, .slice qn (zs.length + 1) cn, Lib.hid ?_, Lib.hid ?_, Lib.hid ?_, Kf, Kr, SS, BB, HWz, Fa4, Fa7, Lib.hid ?_⟩
                  · have h1 := variableP_shs _ _ _ R13.out; rw [List.length_drop, List.length_drop] at h1; have h2 := hzk.out; have h3 := SS.out.2; rw [List.length_append, List.length_singleton]; omega
                  · have h1 := variableP_shs _ _ _ R13.out; rw [List.length_drop, List.length_drop] at h1; have h2 := hfu.out; have h3 := SS.out.2; rw [List.length_drop] at h2 ⊢; omega
                  · rw [List.length_append, encs_app]; exact HO.out
                  · rw [HGy.out, R13.out, map_fst_snoc, Res.bind_ok, Res.bind_assoc]; simp only [Res.bind_ok, List.append_assoc, List.singleton_append]
                case measure =>
                  have h1 := variableP_shs _ _ _ R13.out; rw [List.length_drop, List.length_drop] at h1; have h2 := SS.out.1.atOf; have h3 := HPr.out.1.atOf; have h4 := SS.out.2; have h5 := HPr.out.2; rw [h2, h3]; omega
          · have HI := Lib.hid (CI1.out kk wr SS.out.1 SS.out.2)
            rw [decide_eq_false t1] at HI
            go_wp2_with fail
            refine (HI.out).mono ?_
            rintro z w10 ⟨rfl, hBX⟩
            replace Kr := Lib.hid ((hBX.block _ (Array.getElem?_eq_some_iff.1 Kr.out).1).trans Kr.out)
            replace Kf := Lib.hid ((hBX.block _ (Array.getElem?_eq_some_iff.1 Kf.out).1).trans Kf.out)
            replace Fa4 := Lib.hid (Fa4.out.bel hBX Za4.out)
            replace Za4 := Lib.hid (Nat.le_trans Za4.out hBX.size)
            replace Ya4 := Lib.hid Ya4.out
            replace Fa7 := Lib.hid (Fa7.out.bel hBX Za7.out)
            replace Za7 := Lib.hid (Nat.le_trans Za7.out hBX.size)
            replace Ya7 := Lib.hid Ya7.out
            replace HO := Lib.hid (own_bel HO.out hBX)
            replace HWz := Lib.hid (Nat.le_trans HWz.out hBX.size)
            replace SS := Lib.hid (And.intro (SS.out.1.later hBX) SS.out.2)
            replace BB := Lib.hid (BB.out.trans (But.of_below hBX))
            clear hBX
            clear HI
            have HI := Lib.hid (CI2.out kk w10 SS.out.1 SS.out.2)
            rw [decide_eq_false t2] at HI
            go_wp2_with fail
            refine (HI.out).mono ?_
            rintro z w11 ⟨rfl, hBX⟩
            replace Kr := Lib.hid ((hBX.block _ (Array.getElem?_eq_some_iff.1 Kr.out).1).trans Kr.out)
            replace Kf := Lib.hid ((hBX.block _ (Array.getElem?_eq_some_iff.1 Kf.out).1).trans Kf.out)
            replace Fa4 := Lib.hid (Fa4.out.bel hBX Za4.out)
            replace Za4 := Lib.hid (Nat.le_trans Za4.out hBX.size)
            replace Ya4 := Lib.hid Ya4.out
            replace Fa7 := Lib.hid (Fa7.out.bel hBX Za7.out)
            replace Za7 := Lib.hid (Nat.le_trans Za7.out hBX.size)
            replace Ya7 := Lib.hid Ya7.out
            replace HO := Lib.hid (own_bel HO.out hBX)
            replace HWz := Lib.hid (Nat.le_trans HWz.out hBX.size)
            replace SS := Lib.hid (And.intro (SS.out.1.later hBX) SS.out.2)
            replace BB := Lib.hid (BB.out.trans (But.of_below hBX))
            clear hBX
            clear HI
            have HI := Lib.hid (CI3.out kk w11 SS.out.1 SS.out.2)
            rw [decide_eq_false t3] at HI
            go_wp2_with fail
            refine (HI.out).mono ?_
            rintro z w12 ⟨rfl, hBX⟩
            replace Kr := Lib.hid ((hBX.block _ (Array.getElem?_eq_some_iff.1 Kr.out).1).trans Kr.out)
            replace Kf := Lib.hid ((hBX.block _ (Array.getElem?_eq_some_iff.1 Kf.out).1).trans Kf.out)
            replace Fa4 := Lib.hid (Fa4.out.bel hBX Za4.out)
            replace Za4 := Lib.hid (Nat.le_trans Za4.out hBX.size)
            replace Ya4 := Lib.hid Ya4.out
            replace Fa7 := Lib.hid (Fa7.out.bel hBX Za7.out)
            replace Za7 := Lib.hid (Nat.le_trans Za7.out hBX.size)
            replace Ya7 := Lib.hid Ya7.out
            replace HO := Lib.hid (own_bel HO.out hBX)
            replace HWz := Lib.hid (Nat.le_trans HWz.out hBX.size)
            replace SS := Lib.hid (And.intro (SS.out.1.later hBX) SS.out.2)
            replace BB := Lib.hid (BB.out.trans (But.of_below hBX))
            clear hBX
            clear HI
            have HGy := Lib.hid (HGr.out.trans (by rw [whileP_over (by simp [isVar, t1, t2, t3]), Res.bind_ok, List.append_nil]))
            clear HGr t1 t2 t3
            have HG := Lib.hid HGy.out.symm
            obtain ⟨⟨qav, cav⟩, hv, hfr⟩ := row_fresh (A := (fun W _ => Vr.At W)) (k := 4) (OK := fun _ _ (_ : Vr) (_ : Unit) => True) (enc := (fun (x : Vr) (_ : Unit) => [.string (str x.name), .int .i64 x.kind, .int .i64 x.size, .bool x.secret])) (fun _ _ => rfl) (fun W N x s b o hok hc => ⟨hc 0 _ rfl, hc 1 _ rfl, hc 2 _ rfl, hc 3 _ rfl⟩) (fun _ _ _ _ _ _ _ => trivial) HO.out (els_true _ _ _ zs) (by have := HLn.out; omega)
            obtain rfl : v = .slice qav (zs.map Prod.fst).length cav := hv
            have Fav := Lib.hid (show Fresh w9.heap.size w12.heap.size w12 (fun W N => (zs.map Prod.fst).length ≤ cav ∧ RowIn N (Vr.At W) 4 (zs.map Prod.fst) qav) from hfr)
            have Gav := Lib.hid HPBl.out
            have Zav := Lib.hid (Nat.le_refl w12.heap.size)
            have Yav := Lib.hid (Nat.le_of_lt HRb.out)
            have Vav := Lib.hid HRb.out
            have Ufav := Lib.hid HFb.out
            clear hfr
            have HOx := HO
            clear HO HOx
            go_wp2_with fail
            have Va13 := Lib.hid (show w.heap.size < w12.heap.size from (Array.getElem?_eq_some_iff.1 Kr.out).1)
            have Ufa13 := Lib.hid (show W0.heap.size < w12.heap.size from (Array.getElem?_eq_some_iff.1 Kf.out).1)
            refine (CB.out kk w12 SS.out.1 SS.out.2).mono ?_
            intro z w13 hc
            rcases hc with ⟨k13, a13, s13, hr, hkk, hp, hb, hz, hR⟩ | ⟨k13, e13, t13, hr, hp, hb, hz⟩
            rotate_left
            · subst hz
              have HN := Lib.hid (show Post RFnc G p 0 w (WrongIs (e13 : Int) t13) w13 from .no k13 e13 t13 (by rw [← HG.out]; simp only [hr, Res.bind_no]) hp (BB.out.trans hb) rfl)
              clear hr hp hb
              unfold WrongIs
              go_wp2_with fail
              exact ⟨rfl, HN.out⟩
            replace Kr := Lib.hid ((hb.block _ (Array.getElem?_eq_some_iff.1 Kr.out).1 Nr.out).trans Kr.out)
            replace Kf := Lib.hid ((hb.block _ (Array.getElem?_eq_some_iff.1 Kf.out).1 Nf.out).trans Kf.out)
            replace Fa4 := Lib.hid (Fa4.out.but hb Ga4.out Za4.out)
            replace Za4 := Lib.hid (Nat.le_trans Za4.out hb.size)
            replace Ya4 := Lib.hid Ya4.out
            replace Fa7 := Lib.hid (Fa7.out.but hb Ga7.out Za7.out)
            replace Za7 := Lib.hid (Nat.le_trans Za7.out hb.size)
            replace Ya7 := Lib.hid Ya7.out
            replace Fav := Lib.hid (Fav.out.but hb Gav.out Zav.out)
            replace Zav := Lib.hid (Nat.le_trans Zav.out hb.size)
            replace Yav := Lib.hid Yav.out
            obtain ⟨qa13, ca13⟩ := s13
            obtain rfl : z = .returned (.slice qa13 a13.len ca13) := hz
            have Fa13 := Lib.hid (show Fresh w12.heap.size w13.heap.size w13 (fun W N => a13.In W N qa13) from hR)
            have Ga13 := Lib.hid SS.out.1.lt_pb
            have Za13 := Lib.hid (Nat.le_refl w13.heap.size)
            have Ya13 := Lib.hid (show w.heap.size ≤ w12.heap.size from BB.out.size)
            have R13 := Lib.hid hr
            replace SS := Lib.hid (And.intro hp hkk)
            replace BB := Lib.hid (BB.out.trans hb)
            clear hr hkk hp hb hR
            have u14 := cell_blk Kf.out (j := 4) rfl
            have v14 : w13.frozen? ⟨W0.heap.size, 4, none⟩ = false := by simp [World.frozen?, Kf.out]
            obtain ⟨E14, hE14⟩ : ∃ E, w13.setCell ⟨W0.heap.size, 4, none⟩ (.slice qa13 a13.len ca13) = E := ⟨_, rfl⟩
            have hEo : ∀ j, j ≠ W0.heap.size → E14.heap[j]? = w13.heap[j]? := fun j hj => by rw [← hE14]; exact Below.heap_setCell w13 _ _ _ hj
            have hEz : E14.heap.size = w13.heap.size := by rw [← hE14]; simp [World.setCell]
            have hEk : E14.heap[W0.heap.size]? = some (.cells #[.string (str a2), .slice qa4 a4.length ca4, .slice qav (zs.map Prod.fst).length cav, .slice qa7 a7.length ca7, .slice qa13 a13.len ca13] 83 (0, 0)) := by rw [← hE14, setCell_eq_setRow _ _ _ _ 83 (0, 0) _ Kf.out]; exact setRow_heap _ _ _ _ 83 (0, 0) Kf.out
            replace Kr := Lib.hid ((hEo _ (Nat.ne_of_lt Vf.out)).trans Kr.out)
            replace Kf := Lib.hid hEk
            replace Fa4 := Lib.hid (Fa4.out.to (Agr.at hEz hEo (by first | exact Or.inl Ufa4.out | exact Or.inr Ufa4.out) Za4.out))
            replace Za4 := Lib.hid (Nat.le_trans Za4.out (Nat.le_of_eq hEz.symm))
            replace Fa7 := Lib.hid (Fa7.out.to (Agr.at hEz hEo (by first | exact Or.inl Ufa7.out | exact Or.inr Ufa7.out) Za7.out))
            replace Za7 := Lib.hid (Nat.le_trans Za7.out (Nat.le_of_eq hEz.symm))
            replace Fav := Lib.hid (Fav.out.to (Agr.at hEz hEo (by first | exact Or.inl Ufav.out | exact Or.inr Ufav.out) Zav.out))
            replace Zav := Lib.hid (Nat.le_trans Zav.out (Nat.le_of_eq hEz.symm))
            replace Fa13 := Lib.hid (Fa13.out.to (Agr.at hEz hEo (by first | exact Or.inl Ufa13.out | exact Or.inr Ufa13.out) Za13.out))
            replace Za13 := Lib.hid (Nat.le_trans Za13.out (Nat.le_of_eq hEz.symm))
            have hSo := SS.out.1.other (p := ⟨W0.heap.size, 4, none⟩) Nf.out Tf.out (.slice qa13 a13.len ca13)
            have hBo := BB.out.putNew (p := ⟨W0.heap.size, 4, none⟩) Mf.out (.slice qa13 a13.len ca13)
            rw [hE14] at hSo hBo
            replace SS := Lib.hid (And.intro hSo SS.out.2)
            replace BB := Lib.hid hBo
            clear hEo hEz hEk hSo hBo
            go_upto_region 11 with fail
            try rw [hE14]
            clear hE14 u14 v14
            have hrz := (Array.getElem?_eq_some_iff.1 Kr.out).1
            have HRz := Lib.hid hrz
            clear hrz
            go_wp2_with (first | (refine wpl_load rfl 83 _ rfl (W0.heap.size) 0 rfl #[.string (str a2), .slice qa4 a4.length ca4, .slice qav (zs.map Prod.fst).length cav, .slice qa7 a7.length ca7, .slice qa13 a13.len ca13] _ (range_block Kf.out) Tryz.underlying83 rfl infoFn ?_) | (refine wpl_put rfl _ _ _ rfl rfl w.heap.size 0 (.agg #[.string (str a2), .slice qa4 a4.length ca4, .slice qav (zs.map Prod.fst).length cav, .slice qa7 a7.length ca7, .slice qa13 a13.len ca13]) rfl rfl _ _ Kr.out (by exact Nat.le_of_ble_eq_true rfl) infoFn rfl ?_; intro wF hF hbF hzF))
            have hG : wF.heap[w.heap.size]? = some (.cells #[.string (str a2), .slice qa4 a4.length ca4, .slice qav (zs.map Prod.fst).length cav, .slice qa7 a7.length ca7, .slice qa13 a13.len ca13] 83 (0, 0)) := hF.trans (congrArg (fun a => some (Obj.cells a 83 (0, 0))) (putA_all (cur := #[.string ⟨#[]⟩, .slice none 0 0, .slice none 0 0, .slice none 0 0, .slice none 0 0]) (vs := #[.string (str a2), .slice qa4 a4.length ca4, .slice qav (zs.map Prod.fst).length cav, .slice qa7 a7.length ca7, .slice qa13 a13.len ca13]) rfl))
            clear hF
            refine bodyPost_ret (v := .agg #[.string (str a2), .slice qa4 a4.length ca4, .slice qav (zs.map Prod.fst).length cav, .slice qa7 a7.length ca7, .slice qa13 a13.len ca13]) ?_ rfl ?_
            · have y0 := cell_blk hG (j := 0) rfl
              have y1 := cell_blk hG (j := 1) rfl
              have y2 := cell_blk hG (j := 2) rfl
              have y3 := cell_blk hG (j := 3) rfl
              have y4 := cell_blk hG (j := 4) rfl
              simp [results, Tryz.results90, go_sem, y0, y1, y2, y3, y4]
            · refine .ok k13 ⟨a2, a4, zs.map Prod.fst, a7, a13⟩ ⟨qa4, qav, qa7, qa13, ca4, cav, ca7, ca13⟩ (by rw [← HG.out]; first | rfl | simp only [R13.out, Res.bind_ok] | trace_state) SS.out.2 (SS.out.1.aside hbF Nr.out Nr2.out) (BB.out.fin hbF (Nat.le_refl _)) rfl ?_
              intro W hW
              have oa4 := ((Fa4.out.asd hbF (by first | exact Or.inl Va4.out | exact Or.inr Va4.out) Za4.out).fin Ya4.out (Nat.le_trans Za4.out hbF.size) (fun W h => ⟨h.1, h.2.imp (Nat.le_trans Za4.out hbF.size) (fun x b o _ ha => ha)⟩)) W hW
              have oa7 := ((Fa7.out.asd hbF (by first | exact Or.inl Va7.out | exact Or.inr Va7.out) Za7.out).fin Ya7.out (Nat.le_trans Za7.out hbF.size) (fun W h => ⟨h.1, h.2.imp (Nat.le_trans Za7.out hbF.size) (fun x b o _ ha => ha)⟩)) W hW
              have oav := ((Fav.out.asd hbF (by first | exact Or.inl Vav.out | exact Or.inr Vav.out) Zav.out).fin Yav.out (Nat.le_trans Zav.out hbF.size) (fun W h => ⟨h.1, h.2.imp (Nat.le_trans Zav.out hbF.size) (fun x b o _ ha => ha)⟩)) W hW
              have oa13 := ((Fa13.out.asd hbF (by first | exact Or.inl Va13.out | exact Or.inr Va13.out) Za13.out).fin Ya13.out (Nat.le_trans Za13.out hbF.size) (fun W h => Sts.In.up h (Nat.le_trans Za13.out hbF.size))) W hW
              exact ⟨oa4.2, oav.2, oa7, oa13⟩
  · have Hht := Lib.hid ht
    have HY := Lib.hid (CN2.out k4 E5 SS.out.1 SS.out.2 ht)
    clear ht
    go_wp2_with fail
    try rw [hE5]
    clear hE5 u5 v5
    refine (HY.out).mono ?_
    rintro z w6 ⟨rfl, hp, hb⟩
    replace Kr := Lib.hid ((hb.block _ (Array.getElem?_eq_some_iff.1 Kr.out).1 Nr.out).trans Kr.out)
    replace Kf := Lib.hid ((hb.block _ (Array.getElem?_eq_some_iff.1 Kf.out).1 Nf.out).trans Kf.out)
    replace Fa4 := Lib.hid (Fa4.out.but hb Ga4.out Za4.out)
    replace Za4 := Lib.hid (Nat.le_trans Za4.out hb.size)
    replace Ya4 := Lib.hid Ya4.out
    replace SS := Lib.hid (And.intro hp SS.out.2)
    replace BB := Lib.hid (BB.out.trans hb)
    clear hp hb
    go_wp2_with fail
    refine (CO.out k4 w6 SS.out.1 SS.out.2).mono ?_
    intro z w7 hc
    rcases hc with ⟨k7, a7, s7, hr, hkk, hp, hb, hz, hR⟩ | ⟨k7, e7, t7, hr, hp, hb, hz⟩
    rotate_left
    · subst hz
      have HN := Lib.hid (show Post RFnc G p 0 w (WrongIs (e7 : Int) t7) w7 from .no k7 e7 t7 (by rw [← HG.out]; simp only [R1.out, R2.out, R4.out, if_neg Hht.out, hr, Res.bind_ok, Res.bind_no]) hp (BB.out.trans hb) rfl)
      clear hr hp hb
      unfold WrongIs
      go_wp2_with fail
      exact ⟨rfl, HN.out⟩
    replace Kr := Lib.hid ((hb.block _ (Array.getElem?_eq_some_iff.1 Kr.out).1 Nr.out).trans Kr.out)
    replace Kf := Lib.hid ((hb.block _ (Array.getElem?_eq_some_iff.1 Kf.out).1 Nf.out).trans Kf.out)
    replace Fa4 := Lib.hid (Fa4.out.but hb Ga4.out Za4.out)
    replace Za4 := Lib.hid (Nat.le_trans Za4.out hb.size)
    replace Ya4 := Lib.hid Ya4.out
    obtain rfl : z = .returned (.tuple #[]) := hz
    have R7 := Lib.hid hr
    replace SS := Lib.hid (And.intro hp hkk)
    replace BB := Lib.hid (BB.out.trans hb)
    clear hr hkk hp hb hR
    have HFb := Lib.hid (show W0.heap.size < w7.heap.size from (Array.getElem?_eq_some_iff.1 Kf.out).1)
    have HRb := Lib.hid (show w.heap.size < w7.heap.size from (Array.getElem?_eq_some_iff.1 Kr.out).1)
    have HPBl := Lib.hid SS.out.1.lt_pb
    have HTBl := Lib.hid SS.out.1.lt
    have Ba4 := Lib.hid Za4.out
    go_wp2_with fail
    go_loopw [] (fun wr => ∃ (zs : List (Vr × Unit)) (kk fu : Nat) (v : Value), Hid (zs.length ≤ kk) ∧ Hid ((p.ts.drop kk).length < fu) ∧ Hid (wr.ownsRow w7.heap.size 108 4 v zs.length (encs (fun (x : Vr) (_ : Unit) => [.string (str x.name), .int .i64 x.kind, .int .i64 x.size, .bool x.secret]) zs)) ∧ Hid (wr.heap[W0.heap.size]? = some (.cells #[.string (str a2), .slice qa4 a4.length ca4, v, .slice none 0 0, .slice none 0 0] 83 (0, 0))) ∧ Hid (wr.heap[w.heap.size]? = some (.cells #[.string ⟨#[]⟩, .slice none 0 0, .slice none 0 0, .slice none 0 0, .slice none 0 0] 83 (0, 0))) ∧ Hid (Ps wr p.pb p.tb p.tf p.tc p.ts kk 0 ∧ kk < p.ts.length) ∧ Hid (But p.pb w wr) ∧ Hid (w7.heap.size ≤ wr.heap.size) ∧ Hid (Fresh E3.heap.size w4.heap.size wr (fun W N => a4.length ≤ ca4 ∧ RowIn N (Vr.At W) 4 a4 qa4)) ∧ Hid (G = (whileP variableP isVar fu (p.ts.drop kk)).bind fun vs r => (bodyP (stmtP 64) r).bind fun b r => .ok (⟨a2, a4, zs.map Prod.fst ++ vs, [], b⟩ : Fnc) r)) (fun wr => p.ts.length - atOf wr p.pb)
    case atStart =>
      refine ⟨[], k7, (p.ts.drop k7).length + 1, .slice none 0 0, Lib.hid (Nat.zero_le _), Lib.hid (Nat.lt_succ_self _), Lib.hid (World.ownsRow_nil _ _ _ _), Kf, Kr, SS, BB, Lib.hid (Nat.le_refl _), Fa4, Lib.hid ?_⟩
      rw [← HG.out]; simp only [R1.out, R2.out, R4.out, R7.out, if_neg Hht.out, Res.bind_ok]; rfl
    case round =>
      clear Fa4
      clear Kf Kr SS BB
      obtain ⟨zs, kk, fu, v, hzk, hfu, HO, Kf, Kr, SS, BB, HWz, Fa4, HGr⟩ := hrel
      replace Za4 := Lib.hid (Nat.le_trans Za4.out HWz.out)
      obtain ⟨g, rfl⟩ : ∃ g, fu = g + 1 := ⟨fu - 1, by have := hfu.out; omega⟩
      have HLn := Lib.hid (show zs.length + 1 ≤ 100001 by have h1 := hzk.out; have h2 := SS.out.2; have h3 := HL.out; omega)
      have HPr := SS
      rcases Classical.em ((hdT (p.ts.drop kk)).text = wVar) with t1 | t1
      · have HI := Lib.hid (CI1.out kk wr SS.out.1 SS.out.2)
        rw [decide_eq_true t1] at HI
        go_wp2_with fail
        refine (HI.out).mono ?_
        rintro z w8 ⟨rfl, hBX⟩
        replace Kr := Lib.hid ((hBX.block _ (Array.getElem?_eq_some_iff.1 Kr.out).1).trans Kr.out)
        replace Kf := Lib.hid ((hBX.block _ (Array.getElem?_eq_some_iff.1 Kf.out).1).trans Kf.out)
        replace Fa4 := Lib.hid (Fa4.out.bel hBX Za4.out)
        replace Za4 := Lib.hid (Nat.le_trans Za4.out hBX.size)
        replace Ya4 := Lib.hid Ya4.out
        replace HO := Lib.hid (own_bel HO.out hBX)
        replace HWz := Lib.hid (Nat.le_trans HWz.out hBX.size)
        replace SS := Lib.hid (And.intro (SS.out.1.later hBX) SS.out.2)
        replace BB := Lib.hid (BB.out.trans (But.of_below hBX))
        clear hBX
        clear HI
        have HV := Lib.hid (show isVar (hdT (p.ts.drop kk)) = true by simp [isVar, t1])
        have HGy := Lib.hid (HGr.out.trans (by rw [whileP_more HV.out]))
        clear HGr t1
        have HG := Lib.hid HGy.out.symm
        go_wp2_with fail
        have hBD : Below w8.heap.size w8 w8.drew := (Below.refl _ _).drew
        replace Kr := Lib.hid ((hBD.block _ (Array.getElem?_eq_some_iff.1 Kr.out).1).trans Kr.out)
        replace Kf := Lib.hid ((hBD.block _ (Array.getElem?_eq_some_iff.1 Kf.out).1).trans Kf.out)
        replace Fa4 := Lib.hid (Fa4.out.bel hBD Za4.out)
        replace Za4 := Lib.hid (Nat.le_trans Za4.out hBD.size)
        replace Ya4 := Lib.hid Ya4.out
        replace HO := Lib.hid (own_bel HO.out hBD)
        replace HWz := Lib.hid (Nat.le_trans HWz.out hBD.size)
        replace SS := Lib.hid (And.intro (SS.out.1.later hBD) SS.out.2)
        replace BB := Lib.hid (BB.out.trans (But.of_below hBD))
        clear hBD
        refine wp_region_held_drew (S := fun _ => True) (by kernel_rfl) ?_ (fun hHeld => ?_)
        · trivial
        generalize w8.drew = wd at *
        refine wpAnyH_take (i := 0) (oi := ⟨some 33, .fieldAddr 83 (.tmp 3) 2, 0, "program.go:47", #[], none⟩) (v := ?_) rfl (by kernel_rfl) (by kernel_rfl) (by kernel_rfl) (fun _ _ _ h => h) (Or.inl ⟨by rfl, ?_⟩) (by assumption) ?_
        rotate_left
        · (intro w hSw; (try dsimp only at hSw); go_simp; try with_reducible rfl)
        try simp only [Act.put, List.setIfInBounds_toArray, List.set_cons_zero, List.set_cons_succ]
        refine wpAnyH_take (i := 2) (oi := ⟨some 35, .move (.tmp 0), 73, "program.go:47", #[], none⟩) (v := ?_) rfl (by kernel_rfl) (by kernel_rfl) (by kernel_rfl) (fun _ _ _ h => h) (Or.inl ⟨by rfl, ?_⟩) (by assumption) ?_
        rotate_left
        · (intro w hSw; (try dsimp only at hSw); go_simp; try with_reducible rfl)
        try simp only [Act.put, List.setIfInBounds_toArray, List.set_cons_zero, List.set_cons_succ]
        refine wpAnyH_ready (rs := [1, 3]) (by kernel_rfl) (by simp) ?_
        refine (AllReadyH.cons (o := ⟨some 34, .load 81 (.tmp 33), 81, "program.go:47", #[⟨0, .data⟩], none⟩) rfl (fun K hK => ?_) (AllReadyH.cons (o := ⟨some 36, .call { callee := .value (.func 156), args := #[.tmp 35], argTypes := #[73] }, 108, "program.go:47", #[⟨2, .data⟩], none⟩) rfl (fun K hK => ?_) AllReadyH.nil))
        · have lv := cell_blk Kf.out (j := 2) rfl
          go_simp
          clear lv
          refine hK.out _ _ trivial (fun hHeld => ?_)
          clear hK K
          try simp only [Act.put, List.setIfInBounds_toArray, List.set_cons_zero, List.set_cons_succ]
          refine wpAnyH_ready (rs := [3]) (by kernel_rfl) (by simp) ?_
          refine (AllReadyH.cons (o := ⟨some 36, .call { callee := .value (.func 156), args := #[.tmp 35], argTypes := #[73] }, 108, "program.go:47", #[⟨2, .data⟩], none⟩) rfl (fun K hK => ?_) AllReadyH.nil)
          go_simp
          have Va9 := Lib.hid (show w.heap.size < wd.heap.size from (Array.getElem?_eq_some_iff.1 Kr.out).1)
          have Ufa9 := Lib.hid (show W0.heap.size < wd.heap.size from (Array.getElem?_eq_some_iff.1 Kf.out).1)
          refine (CV.out kk wd SS.out.1 SS.out.2 HV.out).mono ?_
          intro z w9 hc
          rcases hc with ⟨k9, a9, s9, hr, hkk, hp, hb, hz, hR⟩ | ⟨k9, e9, t9, hr, hp, hb, hz⟩
          rotate_left
          · subst hz
            have HN := Lib.hid (show Post RFnc G p 0 w (WrongIs (e9 : Int) t9) w9 from .no k9 e9 t9 (by rw [← HG.out]; simp only [hr, Res.bind_no]) hp (BB.out.trans hb) rfl)
            clear hr hp hb
            unfold WrongIs
            go_simp
            exact ⟨rfl, HN.out⟩
          replace Kr := Lib.hid ((hb.block _ (Array.getElem?_eq_some_iff.1 Kr.out).1 Nr.out).trans Kr.out)
          replace Kf := Lib.hid ((hb.block _ (Array.getElem?_eq_some_iff.1 Kf.out).1 Nf.out).trans Kf.out)
          replace Fa4 := Lib.hid (Fa4.out.but hb Ga4.out Za4.out)
          replace Za4 := Lib.hid (Nat.le_trans Za4.out hb.size)
          replace Ya4 := Lib.hid Ya4.out
          replace HO := Lib.hid (own_but HO.out hb HPBl.out)
          replace HWz := Lib.hid (Nat.le_trans HWz.out hb.size)
          obtain rfl : z = .returned (.agg #[.string (str a9.name), .int .i64 a9.kind, .int .i64 a9.size, .bool a9.secret]) := hz
          have R9 := Lib.hid hr
          replace SS := Lib.hid (And.intro hp hkk)
          replace BB := Lib.hid (BB.out.trans hb)
          clear hr hkk hp hb hR
          refine hK.out _ _ trivial (fun hHeld => ?_)
          clear hK K
          try simp only [Act.put, List.setIfInBounds_toArray, List.set_cons_zero, List.set_cons_succ]
          refine wpAnyH_ready (rs := [4]) (by kernel_rfl) (by simp) ?_
          refine (AllReadyH.cons (o := ⟨some 37, .buildSlice 81 1 #[(0, .tmp 36)], 81, "program.go:47", #[⟨3, .data⟩], none⟩) rfl (fun K hK => ?_) AllReadyH.nil)
          go_simp
          obtain ⟨Ag, hAg⟩ : ∃ A, w9.alloc (.cells #[.string (str a9.name), .int .i64 a9.kind, .int .i64 a9.size, .bool a9.secret] 108) = A := ⟨_, rfl⟩
          have VV := Lib.hid (show w.heap.size < w9.heap.size from (Array.getElem?_eq_some_iff.1 Kr.out).1)
          have Xa4 := Lib.hid Za4.out
          have Xf := Lib.hid (Array.getElem?_eq_some_iff.1 Kf.out).1
          have hBA : Below w9.heap.size w9 Ag := by rw [← hAg]; exact (Below.refl _ _).alloc (Nat.le_refl _) _
          replace Kr := Lib.hid ((hBA.block _ (Array.getElem?_eq_some_iff.1 Kr.out).1).trans Kr.out)
          replace Kf := Lib.hid ((hBA.block _ (Array.getElem?_eq_some_iff.1 Kf.out).1).trans Kf.out)
          replace Fa4 := Lib.hid (Fa4.out.bel hBA Za4.out)
          replace Za4 := Lib.hid (Nat.le_trans Za4.out hBA.size)
          replace Ya4 := Lib.hid Ya4.out
          replace HO := Lib.hid (own_bel HO.out hBA)
          replace HWz := Lib.hid (Nat.le_trans HWz.out hBA.size)
          have Kg := Lib.hid (show Ag.heap[w9.heap.size]? = some (.cells #[.string (str a9.name), .int .i64 a9.kind, .int .i64 a9.size, .bool a9.secret] 108 (0, 0)) by rw [← hAg]; exact heap_alloc_new w9 _)
          have Ng := Lib.hid (Nat.ne_of_gt SS.out.1.lt_pb)
          have Tg := Lib.hid (Nat.ne_of_gt SS.out.1.lt)
          have Uga4 := Lib.hid (show _ ≤ w9.heap.size from Xa4.out)
          have Lfg := Lib.hid (show W0.heap.size < w9.heap.size from Xf.out)
          have Mg := Lib.hid (show w.heap.size ≤ w9.heap.size from BB.out.size)
          have Vg := Lib.hid (show w.heap.size < w9.heap.size from VV.out)
          replace SS := Lib.hid (And.intro (SS.out.1.later hBA) SS.out.2)
          replace BB := Lib.hid (BB.out.trans (But.of_below hBA))
          clear hBA
          have HAg := Lib.hid hAg
          clear hAg
          rw [HAg.out]
          clear HAg
          refine hK.out _ _ trivial (fun hHeld => ?_)
          clear hK K
          try simp only [Act.put, List.setIfInBounds_toArray, List.set_cons_zero, List.set_cons_succ]
          refine wpAnyH_ready (rs := [5]) (by kernel_rfl) (by simp) ?_
          refine (AllReadyH.cons (o := ⟨some 38, .call { callee := .builtin .append, args := #[.tmp 34, .tmp 37], argTypes := #[81, 81] }, 81, "program.go:47", #[⟨1, .data⟩, ⟨4, .data⟩, ⟨3, .chain⟩], none⟩) rfl (fun K hK => ?_) AllReadyH.nil)
          rw [if_pos (by rfl)]
          refine wp_append_own _ _ _ 81 rfl w7.heap.size 108 i0 (.agg #[.string ByteArray.empty, .int .i64 0, .int .i64 0, .bool false]) 4 40 Tryz.underlying81 hi hz0 hz1 hz2 rfl (by decide) _ _ _ rfl HO.out ⟨w9.heap.size, 0, none⟩ 1 1 [.string (str a9.name), .int .i64 a9.kind, .int .i64 a9.size, .bool a9.secret] rfl rfl ?_ ?_ ?_ ?_ HWz.out ?_
          · intro j u hj
            have := cell_blk Kg.out (j := j) (v := u) (by rw [← Array.getElem?_toList]; exact hj)
            rw [add_of, Nat.zero_add]
            exact this
          · intro u hu
            simp only [List.mem_cons, List.not_mem_nil, or_false] at hu
            rcases hu with rfl | rfl | rfl | rfl <;> rfl
          · have := HLn.out; unfold maxLen; omega
          · have := HLn.out; omega
          intro v' w10 hown hgrow _
          obtain ⟨qn, cn, rfl⟩ := own_slice hown
          replace Kr := Lib.hid ((hgrow.block _ (Array.getElem?_eq_some_iff.1 Kr.out).1 (fun e => Nat.ne_of_lt (Nat.lt_of_lt_of_le (HRb.out) (HO.out.lt _ e.symm).1) rfl)).trans Kr.out)
          replace Kf := Lib.hid ((hgrow.block _ (Array.getElem?_eq_some_iff.1 Kf.out).1 (fun e => Nat.ne_of_lt (Nat.lt_of_lt_of_le (HFb.out) (HO.out.lt _ e.symm).1) rfl)).trans Kf.out)
          replace Fa4 := Lib.hid (Fa4.out.grw hgrow (fun j hj => Nat.le_trans Ba4.out (HO.out.lt j hj).1) Za4.out)
          replace Za4 := Lib.hid (Nat.le_trans Za4.out hgrow.size)
          replace SS := Lib.hid (And.intro (SS.out.1.grown hgrow (fun e => by have h1 := (HO.out.lt _ e).1; have h2 := HPBl.out; omega) (fun e => by have h1 := (HO.out.lt _ e).1; have h2 := HTBl.out; omega)) SS.out.2)
          replace BB := Lib.hid (BB.out.grown hgrow (fun j hj => Nat.le_trans (Nat.le_of_lt HRb.out) (HO.out.lt j hj).1))
          replace HWz := Lib.hid (Nat.le_trans HWz.out hgrow.size)
          replace HO := Lib.hid hown
          clear hown hgrow
          refine hK.out _ _ trivial (fun hHeld => ?_)
          clear hK K
          try simp only [Act.put, List.setIfInBounds_toArray, List.set_cons_zero, List.set_cons_succ]
          refine wpAnyH_take (i := 6) (oi := ⟨some 39, .fieldAddr 83 (.tmp 3) 2, 0, "program.go:47", #[⟨0, .phase⟩, ⟨1, .phase⟩, ⟨2, .phase⟩, ⟨3, .phase⟩, ⟨4, .phase⟩, ⟨5, .phase⟩], none⟩) (v := ?_) rfl (by kernel_rfl) (by kernel_rfl) (by kernel_rfl) (fun _ _ _ h => h) (Or.inl ⟨by rfl, ?_⟩) (by assumption) ?_
          rotate_left
          · (intro w hSw; (try dsimp only at hSw); go_simp; try with_reducible rfl)
          try simp only [Act.put, List.setIfInBounds_toArray, List.set_cons_zero, List.set_cons_succ]
          refine wpAnyH_ready (rs := [7]) (by kernel_rfl) (by simp) ?_
          refine (AllReadyH.cons (o := ⟨none, .store 81 (.tmp 39) (.tmp 38), 0, "program.go:47", #[⟨6, .data⟩, ⟨5, .data⟩, ⟨5, .chain⟩, ⟨0, .phase⟩, ⟨1, .phase⟩, ⟨2, .phase⟩, ⟨3, .phase⟩, ⟨4, .phase⟩, ⟨5, .phase⟩], none⟩) rfl (fun K hK => ?_) AllReadyH.nil)
          have lu := cell_blk Kf.out (j := 2) rfl
          have lf : w10.frozen? ⟨W0.heap.size, 2, none⟩ = false := by simp [World.frozen?, Kf.out]
          go_simp
          clear lu lf
          have u11 := cell_blk Kf.out (j := 2) rfl
          have v11 : w10.frozen? ⟨W0.heap.size, 2, none⟩ = false := by simp [World.frozen?, Kf.out]
          obtain ⟨E11, hE11⟩ : ∃ E, w10.setCell ⟨W0.heap.size, 2, none⟩ (.slice qn (zs.length + 1) cn) = E := ⟨_, rfl⟩
          have hEo : ∀ j, j ≠ W0.heap.size → E11.heap[j]? = w10.heap[j]? := fun j hj => by rw [← hE11]; exact Below.heap_setCell w10 _ _ _ hj
          have hEz : E11.heap.size = w10.heap.size := by rw [← hE11]; simp [World.setCell]
          have hEk : E11.heap[W0.heap.size]? = some (.cells #[.string (str a2), .slice qa4 a4.length ca4, .slice qn (zs.length + 1) cn, .slice none 0 0, .slice none 0 0] 83 (0, 0)) := by rw [← hE11, setCell_eq_setRow _ _ _ _ 83 (0, 0) _ Kf.out]; exact setRow_heap _ _ _ _ 83 (0, 0) Kf.out
          replace Kr := Lib.hid ((hEo _ (Nat.ne_of_lt Vf.out)).trans Kr.out)
          replace Kf := Lib.hid hEk
          replace HO := Lib.hid (own_block HO.out (fun g h1 _ => hEo g (Nat.ne_of_gt (Nat.lt_of_lt_of_le HFb.out h1))))
          replace HWz := Lib.hid (Nat.le_trans HWz.out (Nat.le_of_eq hEz.symm))
          replace Fa4 := Lib.hid (Fa4.out.to (Agr.at hEz hEo (by first | exact Or.inl Ufa4.out | exact Or.inr Ufa4.out) Za4.out))
          replace Za4 := Lib.hid (Nat.le_trans Za4.out (Nat.le_of_eq hEz.symm))
          have hSo := SS.out.1.other (p := ⟨W0.heap.size, 2, none⟩) Nf.out Tf.out (.slice qn (zs.length + 1) cn)
          have hBo := BB.out.putNew (p := ⟨W0.heap.size, 2, none⟩) Mf.out (.slice qn (zs.length + 1) cn)
          rw [hE11] at hSo hBo
          replace SS := Lib.hid (And.intro hSo SS.out.2)
          replace BB := Lib.hid hBo
          clear hEo hEz hEk hSo hBo
          rw [hE11]
          clear hE11 u11 v11
          refine hK.out _ _ trivial (fun hHeld => ?_)
          clear hK K
          try simp only [Act.put, List.setIfInBounds_toArray, List.set_cons_zero, List.set_cons_succ]
          refine wpAnyH_done (by kernel_rfl) ?_ _
          go_wp2_with fail
          go_roundw
          case rel =>
            refine ⟨zs ++ [(a9, ())], k9, g, .slice qn (zs.length + 1) cn, Lib.hid ?_, Lib.hid ?_, Lib.hid ?_, Kf, Kr, SS, BB, HWz, Fa4, Lib.hid ?_⟩
            · have h1 := variableP_shs _ _ _ R9.out; rw [List.length_drop, List.length_drop] at h1; have h2 := hzk.out; have h3 := SS.out.2; rw [List.length_append, List.length_singleton]; omega
            · have h1 := variableP_shs _ _ _ R9.out; rw [List.length_drop, List.length_drop] at h1; have h2 := hfu.out; have h3 := SS.out.2; rw [List.length_drop] at h2 ⊢; omega
            · rw [List.length_append, encs_app]; exact HO.out
            · rw [HGy.out, R9.out, map_fst_snoc, Res.bind_ok, Res.bind_assoc]; simp only [Res.bind_ok, List.append_assoc, List.singleton_append]
          case measure =>
            have h1 := variableP_shs _ _ _ R9.out; rw [List.length_drop, List.length_drop] at h1; have h2 := SS.out.1.atOf; have h3 := HPr.out.1.atOf; have h4 := SS.out.2; have h5 := HPr.out.2; rw [h2, h3]; omega
        · go_simp
          have Va9 := Lib.hid (show w.heap.size < wd.heap.size from (Array.getElem?_eq_some_iff.1 Kr.out).1)
          have Ufa9 := Lib.hid (show W0.heap.size < wd.heap.size from (Array.getElem?_eq_some_iff.1 Kf.out).1)
          refine (CV.out kk wd SS.out.1 SS.out.2 HV.out).mono ?_
          intro z w9 hc
          rcases hc with ⟨k9, a9, s9, hr, hkk, hp, hb, hz, hR⟩ | ⟨k9, e9, t9, hr, hp, hb, hz⟩
          rotate_left
          · subst hz
            have HN := Lib.hid (show Post RFnc G p 0 w (WrongIs (e9 : Int) t9) w9 from .no k9 e9 t9 (by rw [← HG.out]; simp only [hr, Res.bind_no]) hp (BB.out.trans hb) rfl)
            clear hr hp hb
            unfold WrongIs
            go_simp
            exact ⟨rfl, HN.out⟩
          replace Kr := Lib.hid ((hb.block _ (Array.getElem?_eq_some_iff.1 Kr.out).1 Nr.out).trans Kr.out)
          replace Kf := Lib.hid ((hb.block _ (Array.getElem?_eq_some_iff.1 Kf.out).1 Nf.out).trans Kf.out)
          replace Fa4 := Lib.hid (Fa4.out.but hb Ga4.out Za4.out)
          replace Za4 := Lib.hid (Nat.le_trans Za4.out hb.size)
          replace Ya4 := Lib.hid Ya4.out
          replace HO := Lib.hid (own_but HO.out hb HPBl.out)
          replace HWz := Lib.hid (Nat.le_trans HWz.out hb.size)
          obtain rfl : z = .returned (.agg #[.string (str a9.name), .int .i64 a9.kind, .int .i64 a9.size, .bool a9.secret]) := hz
          have R9 := Lib.hid hr
          replace SS := Lib.hid (And.intro hp hkk)
          replace BB := Lib.hid (BB.out.trans hb)
          clear hr hkk hp hb hR
          refine hK.out _ _ trivial (fun hHeld => ?_)
          clear hK K
          try simp only [Act.put, List.setIfInBounds_toArray, List.set_cons_zero, List.set_cons_succ]
          refine wpAnyH_ready (rs := [1, 4]) (by kernel_rfl) (by simp) ?_
          refine (AllReadyH.cons (o := ⟨some 34, .load 81 (.tmp 33), 81, "program.go:47", #[⟨0, .data⟩], none⟩) rfl (fun K hK => ?_) (AllReadyH.cons (o := ⟨some 37, .buildSlice 81 1 #[(0, .tmp 36)], 81, "program.go:47", #[⟨3, .data⟩], none⟩) rfl (fun K hK => ?_) AllReadyH.nil))
          · have lv := cell_blk Kf.out (j := 2) rfl
            go_simp
            clear lv
            refine hK.out _ _ trivial (fun hHeld => ?_)
            clear hK K
            try simp only [Act.put, List.setIfInBounds_toArray, List.set_cons_zero, List.set_cons_succ]
            refine wpAnyH_ready (rs := [4]) (by kernel_rfl) (by simp) ?_
            refine (AllReadyH.cons (o := ⟨some 37, .buildSlice 81 1 #[(0, .tmp 36)], 81, "program.go:47", #[⟨3, .data⟩], none⟩) rfl (fun K hK => ?_) AllReadyH.nil)
            go_simp
            obtain ⟨Ag, hAg⟩ : ∃ A, w9.alloc (.cells #[.string (str a9.name), .int .i64 a9.kind, .int .i64 a9.size, .bool a9.secret] 108) = A := ⟨_, rfl⟩
            have VV := Lib.hid (show w.heap.size < w9.heap.size from (Array.getElem?_eq_some_iff.1 Kr.out).1)
            have Xa4 := Lib.hid Za4.out
            have Xf := Lib.hid (Array.getElem?_eq_some_iff.1 Kf.out).1
            have hBA : Below w9.heap.size w9 Ag := by rw [← hAg]; exact (Below.refl _ _).alloc (Nat.le_refl _) _
            replace Kr := Lib.hid ((hBA.block _ (Array.getElem?_eq_some_iff.1 Kr.out).1).trans Kr.out)
            replace Kf := Lib.hid ((hBA.block _ (Array.getElem?_eq_some_iff.1 Kf.out).1).trans Kf.out)
            replace Fa4 := Lib.hid (Fa4.out.bel hBA Za4.out)
            replace Za4 := Lib.hid (Nat.le_trans Za4.out hBA.size)
            replace Ya4 := Lib.hid Ya4.out
            replace HO := Lib.hid (own_bel HO.out hBA)
            replace HWz := Lib.hid (Nat.le_trans HWz.out hBA.size)
            have Kg := Lib.hid (show Ag.heap[w9.heap.size]? = some (.cells #[.string (str a9.name), .int .i64 a9.kind, .int .i64 a9.size, .bool a9.secret] 108 (0, 0)) by rw [← hAg]; exact heap_alloc_new w9 _)
            have Ng := Lib.hid (Nat.ne_of_gt SS.out.1.lt_pb)
            have Tg := Lib.hid (Nat.ne_of_gt SS.out.1.lt)
            have Uga4 := Lib.hid (show _ ≤ w9.heap.size from Xa4.out)
            have Lfg := Lib.hid (show W0.heap.size < w9.heap.size from Xf.out)
            have Mg := Lib.hid (show w.heap.size ≤ w9.heap.size from BB.out.size)
            have Vg := Lib.hid (show w.heap.size < w9.heap.size from VV.out)
            replace SS := Lib.hid (And.intro (SS.out.1.later hBA) SS.out.2)
            replace BB := Lib.hid (BB.out.trans (But.of_below hBA))
            clear hBA
            have HAg := Lib.hid hAg
            clear hAg
            rw [HAg.out]
            clear HAg
            refine hK.out _ _ trivial (fun hHeld => ?_)
            clear hK K
            try simp only [Act.put, List.setIfInBounds_toArray, List.set_cons_zero, List.set_cons_succ]
            refine wpAnyH_ready (rs := [5]) (by kernel_rfl) (by simp) ?_
            refine (AllReadyH.cons (o := ⟨some 38, .call { callee := .builtin .append, args := #[.tmp 34, .tmp 37], argTypes := #[81, 81] }, 81, "program.go:47", #[⟨1, .data⟩, ⟨4, .data⟩, ⟨3, .chain⟩], none⟩) rfl (fun K hK => ?_) AllReadyH.nil)
            rw [if_pos (by rfl)]
            refine wp_append_own _ _ _ 81 rfl w7.heap.size 108 i0 (.agg #[.string ByteArray.empty, .int .i64 0, .int .i64 0, .bool false]) 4 40 Tryz.underlying81 hi hz0 hz1 hz2 rfl (by decide) _ _ _ rfl HO.out ⟨w9.heap.size, 0, none⟩ 1 1 [.string (str a9.name), .int .i64 a9.kind, .int .i64 a9.size, .bool a9.secret] rfl rfl ?_ ?_ ?_ ?_ HWz.out ?_
            · intro j u hj
              have := cell_blk Kg.out (j := j) (v := u) (by rw [← Array.getElem?_toList]; exact hj)
              rw [add_of, Nat.zero_add]
              exact this
            · intro u hu
              simp only [List.mem_cons, List.not_mem_nil, or_false] at hu
              rcases hu with rfl | rfl | rfl | rfl <;> rfl
            · have := HLn.out; unfold maxLen; omega
            · have := HLn.out; omega
            intro v' w10 hown hgrow _
            obtain ⟨qn, cn, rfl⟩ := own_slice hown
            replace Kr := Lib.hid ((hgrow.block _ (Array.getElem?_eq_some_iff.1 Kr.out).1 (fun e => Nat.ne_of_lt (Nat.lt_of_lt_of_le (HRb.out) (HO.out.lt _ e.symm).1) rfl)).trans Kr.out)
            replace Kf := Lib.hid ((hgrow.block _ (Array.getElem?_eq_some_iff.1 Kf.out).1 (fun e => Nat.ne_of_lt (Nat.lt_of_lt_of_le (HFb.out) (HO.out.lt _ e.symm).1) rfl)).trans Kf.out)
            replace Fa4 := Lib.hid (Fa4.out.grw hgrow (fun j hj => Nat.le_trans Ba4.out (HO.out.lt j hj).1) Za4.out)
            replace Za4 := Lib.hid (Nat.le_trans Za4.out hgrow.size)
            replace SS := Lib.hid (And.intro (SS.out.1.grown hgrow (fun e => by have h1 := (HO.out.lt _ e).1; have h2 := HPBl.out; omega) (fun e => by have h1 := (HO.out.lt _ e).1; have h2 := HTBl.out; omega)) SS.out.2)
            replace BB := Lib.hid (BB.out.grown hgrow (fun j hj => Nat.le_trans (Nat.le_of_lt HRb.out) (HO.out.lt j hj).1))
            replace HWz := Lib.hid (Nat.le_trans HWz.out hgrow.size)
            replace HO := Lib.hid hown
            clear hown hgrow
            refine hK.out _ _ trivial (fun hHeld => ?_)
            clear hK K
            try simp only [Act.put, List.setIfInBounds_toArray, List.set_cons_zero, List.set_cons_succ]
            refine wpAnyH_take (i := 6) (oi := ⟨some 39, .fieldAddr 83 (.tmp 3) 2, 0, "program.go:47", #[⟨0, .phase⟩, ⟨1, .phase⟩, ⟨2, .phase⟩, ⟨3, .phase⟩, ⟨4, .phase⟩, ⟨5, .phase⟩], none⟩) (v := ?_) rfl (by kernel_rfl) (by kernel_rfl) (by kernel_rfl) (fun _ _ _ h => h) (Or.inl ⟨by rfl, ?_⟩) (by assumption) ?_
            rotate_left
            · (intro w hSw; (try dsimp only at hSw); go_simp; try with_reducible rfl)
            try simp only [Act.put, List.setIfInBounds_toArray, List.set_cons_zero, List.set_cons_succ]
            refine wpAnyH_ready (rs := [7]) (by kernel_rfl) (by simp) ?_
            refine (AllReadyH.cons (o := ⟨none, .store 81 (.tmp 39) (.tmp 38), 0, "program.go:47", #[⟨6, .data⟩, ⟨5, .data⟩, ⟨5, .chain⟩, ⟨0, .phase⟩, ⟨1, .phase⟩, ⟨2, .phase⟩, ⟨3, .phase⟩, ⟨4, .phase⟩, ⟨5, .phase⟩], none⟩) rfl (fun K hK => ?_) AllReadyH.nil)
            have lu := cell_blk Kf.out (j := 2) rfl
            have lf : w10.frozen? ⟨W0.heap.size, 2, none⟩ = false := by simp [World.frozen?, Kf.out]
            go_simp
            clear lu lf
            have u11 := cell_blk Kf.out (j := 2) rfl
            have v11 : w10.frozen? ⟨W0.heap.size, 2, none⟩ = false := by simp [World.frozen?, Kf.out]
            obtain ⟨E11, hE11⟩ : ∃ E, w10.setCell ⟨W0.heap.size, 2, none⟩ (.slice qn (zs.length + 1) cn) = E := ⟨_, rfl⟩
            have hEo : ∀ j, j ≠ W0.heap.size → E11.heap[j]? = w10.heap[j]? := fun j hj => by rw [← hE11]; exact Below.heap_setCell w10 _ _ _ hj
            have hEz : E11.heap.size = w10.heap.size := by rw [← hE11]; simp [World.setCell]
            have hEk : E11.heap[W0.heap.size]? = some (.cells #[.string (str a2), .slice qa4 a4.length ca4, .slice qn (zs.length + 1) cn, .slice none 0 0, .slice none 0 0] 83 (0, 0)) := by rw [← hE11, setCell_eq_setRow _ _ _ _ 83 (0, 0) _ Kf.out]; exact setRow_heap _ _ _ _ 83 (0, 0) Kf.out
            replace Kr := Lib.hid ((hEo _ (Nat.ne_of_lt Vf.out)).trans Kr.out)
            replace Kf := Lib.hid hEk
            replace HO := Lib.hid (own_block HO.out (fun g h1 _ => hEo g (Nat.ne_of_gt (Nat.lt_of_lt_of_le HFb.out h1))))
            replace HWz := Lib.hid (Nat.le_trans HWz.out (Nat.le_of_eq hEz.symm))
            replace Fa4 := Lib.hid (Fa4.out.to (Agr.at hEz hEo (by first | exact Or.inl Ufa4.out | exact Or.inr Ufa4.out) Za4.out))
            replace Za4 := Lib.hid (Nat.le_trans Za4.out (Nat.le_of_eq hEz.symm))
            have hSo := SS.out.1.other (p := ⟨W0.heap.size, 2, none⟩) Nf.out Tf.out (.slice qn (zs.length + 1) cn)
            have hBo := BB.out.putNew (p := ⟨W0.heap.size, 2, none⟩) Mf.out (.slice qn (zs.length + 1) cn)
            rw [hE11] at hSo hBo
            replace SS := Lib.hid (And.intro hSo SS.out.2)
            replace BB := Lib.hid hBo
            clear hEo hEz hEk hSo hBo
            rw [hE11]
            clear hE11 u11 v11
            refine hK.out _ _ trivial (fun hHeld => ?_)
            clear hK K
            try simp only [Act.put, List.setIfInBounds_toArray, List.set_cons_zero, List.set_cons_succ]
            refine wpAnyH_done (by kernel_rfl) ?_ _
            go_wp2_with fail
            go_roundw
            case rel =>
              refine ⟨zs ++ [(a9, ())], k9, g, .slice qn (zs.length + 1) cn, Lib.hid ?_, Lib.hid ?_, Lib.hid ?_, Kf, Kr, SS, BB, HWz, Fa4, Lib.hid ?_⟩
              · have h1 := variableP_shs _ _ _ R9.out; rw [List.length_drop, List.length_drop] at h1; have h2 := hzk.out; have h3 := SS.out.2; rw [List.length_append, List.length_singleton]; omega
              · have h1 := variableP_shs _ _ _ R9.out; rw [List.length_drop, List.length_drop] at h1; have h2 := hfu.out; have h3 := SS.out.2; rw [List.length_drop] at h2 ⊢; omega
              · rw [List.length_append, encs_app]; exact HO.out
              · rw [HGy.out, R9.out, map_fst_snoc, Res.bind_ok, Res.bind_assoc]; simp only [Res.bind_ok, List.append_assoc, List.singleton_append]
            case measure =>
              have h1 := variableP_shs _ _ _ R9.out; rw [List.length_drop, List.length_drop] at h1; have h2 := SS.out.1.atOf; have h3 := HPr.out.1.atOf; have h4 := SS.out.2; have h5 := HPr.out.2; rw [h2, h3]; omega
          · go_simp
            obtain ⟨Ag, hAg⟩ : ∃ A, w9.alloc (.cells #[.string (str a9.name), .int .i64 a9.kind, .int .i64 a9.size, .bool a9.secret] 108) = A := ⟨_, rfl⟩
            have VV := Lib.hid (show w.heap.size < w9.heap.size from (Array.getElem?_eq_some_iff.1 Kr.out).1)
            have Xa4 := Lib.hid Za4.out
            have Xf := Lib.hid (Array.getElem?_eq_some_iff.1 Kf.out).1
            have hBA : Below w9.heap.size w9 Ag := by rw [← hAg]; exact (Below.refl _ _).alloc (Nat.le_refl _) _
            replace Kr := Lib.hid ((hBA.block _ (Array.getElem?_eq_some_iff.1 Kr.out).1).trans Kr.out)
            replace Kf := Lib.hid ((hBA.block _ (Array.getElem?_eq_some_iff.1 Kf.out).1).trans Kf.out)
            replace Fa4 := Lib.hid (Fa4.out.bel hBA Za4.out)
            replace Za4 := Lib.hid (Nat.le_trans Za4.out hBA.size)
            replace Ya4 := Lib.hid Ya4.out
            replace HO := Lib.hid (own_bel HO.out hBA)
            replace HWz := Lib.hid (Nat.le_trans HWz.out hBA.size)
            have Kg := Lib.hid (show Ag.heap[w9.heap.size]? = some (.cells #[.string (str a9.name), .int .i64 a9.kind, .int .i64 a9.size, .bool a9.secret] 108 (0, 0)) by rw [← hAg]; exact heap_alloc_new w9 _)
            have Ng := Lib.hid (Nat.ne_of_gt SS.out.1.lt_pb)
            have Tg := Lib.hid (Nat.ne_of_gt SS.out.1.lt)
            have Uga4 := Lib.hid (show _ ≤ w9.heap.size from Xa4.out)
            have Lfg := Lib.hid (show W0.heap.size < w9.heap.size from Xf.out)
            have Mg := Lib.hid (show w.heap.size ≤ w9.heap.size from BB.out.size)
            have Vg := Lib.hid (show w.heap.size < w9.heap.size from VV.out)
            replace SS := Lib.hid (And.intro (SS.out.1.later hBA) SS.out.2)
            replace BB := Lib.hid (BB.out.trans (But.of_below hBA))
            clear hBA
            have HAg := Lib.hid hAg
            clear hAg
            rw [HAg.out]
            clear HAg
            refine hK.out _ _ trivial (fun hHeld => ?_)
            clear hK K
            try simp only [Act.put, List.setIfInBounds_toArray, List.set_cons_zero, List.set_cons_succ]
            refine wpAnyH_ready (rs := [1]) (by kernel_rfl) (by simp) ?_
            refine (AllReadyH.cons (o := ⟨some 34, .load 81 (.tmp 33), 81, "program.go:47", #[⟨0, .data⟩], none⟩) rfl (fun K hK => ?_) AllReadyH.nil)
            have lv := cell_blk Kf.out (j := 2) rfl
            go_simp
            clear lv
            refine hK.out _ _ trivial (fun hHeld => ?_)
            clear hK K
            try simp only [Act.put, List.setIfInBounds_toArray, List.set_cons_zero, List.set_cons_succ]
            refine wpAnyH_ready (rs := [5]) (by kernel_rfl) (by simp) ?_
            refine (AllReadyH.cons (o := ⟨some 38, .call { callee := .builtin .append, args := #[.tmp 34, .tmp 37], argTypes := #[81, 81] }, 81, "program.go:47", #[⟨1, .data⟩, ⟨4, .data⟩, ⟨3, .chain⟩], none⟩) rfl (fun K hK => ?_) AllReadyH.nil)
            rw [if_pos (by rfl)]
            refine wp_append_own _ _ _ 81 rfl w7.heap.size 108 i0 (.agg #[.string ByteArray.empty, .int .i64 0, .int .i64 0, .bool false]) 4 40 Tryz.underlying81 hi hz0 hz1 hz2 rfl (by decide) _ _ _ rfl HO.out ⟨w9.heap.size, 0, none⟩ 1 1 [.string (str a9.name), .int .i64 a9.kind, .int .i64 a9.size, .bool a9.secret] rfl rfl ?_ ?_ ?_ ?_ HWz.out ?_
            · intro j u hj
              have := cell_blk Kg.out (j := j) (v := u) (by rw [← Array.getElem?_toList]; exact hj)
              rw [add_of, Nat.zero_add]
              exact this
            · intro u hu
              simp only [List.mem_cons, List.not_mem_nil, or_false] at hu
              rcases hu with rfl | rfl | rfl | rfl <;> rfl
            · have := HLn.out; unfold maxLen; omega
            · have := HLn.out; omega
            intro v' w10 hown hgrow _
            obtain ⟨qn, cn, rfl⟩ := own_slice hown
            replace Kr := Lib.hid ((hgrow.block _ (Array.getElem?_eq_some_iff.1 Kr.out).1 (fun e => Nat.ne_of_lt (Nat.lt_of_lt_of_le (HRb.out) (HO.out.lt _ e.symm).1) rfl)).trans Kr.out)
            replace Kf := Lib.hid ((hgrow.block _ (Array.getElem?_eq_some_iff.1 Kf.out).1 (fun e => Nat.ne_of_lt (Nat.lt_of_lt_of_le (HFb.out) (HO.out.lt _ e.symm).1) rfl)).trans Kf.out)
            replace Fa4 := Lib.hid (Fa4.out.grw hgrow (fun j hj => Nat.le_trans Ba4.out (HO.out.lt j hj).1) Za4.out)
            replace Za4 := Lib.hid (Nat.le_trans Za4.out hgrow.size)
            replace SS := Lib.hid (And.intro (SS.out.1.grown hgrow (fun e => by have h1 := (HO.out.lt _ e).1; have h2 := HPBl.out; omega) (fun e => by have h1 := (HO.out.lt _ e).1; have h2 := HTBl.out; omega)) SS.out.2)
            replace BB := Lib.hid (BB.out.grown hgrow (fun j hj => Nat.le_trans (Nat.le_of_lt HRb.out) (HO.out.lt j hj).1))
            replace HWz := Lib.hid (Nat.le_trans HWz.out hgrow.size)
            replace HO := Lib.hid hown
            clear hown hgrow
            refine hK.out _ _ trivial (fun hHeld => ?_)
            clear hK K
            try simp only [Act.put, List.setIfInBounds_toArray, List.set_cons_zero, List.set_cons_succ]
            refine wpAnyH_take (i := 6) (oi := ⟨some 39, .fieldAddr 83 (.tmp 3) 2, 0, "program.go:47", #[⟨0, .phase⟩, ⟨1, .phase⟩, ⟨2, .phase⟩, ⟨3, .phase⟩, ⟨4, .phase⟩, ⟨5, .phase⟩], none⟩) (v := ?_) rfl (by kernel_rfl) (by kernel_rfl) (by kernel_rfl) (fun _ _ _ h => h) (Or.inl ⟨by rfl, ?_⟩) (by assumption) ?_
            rotate_left
            · (intro w hSw; (try dsimp only at hSw); go_simp; try with_reducible rfl)
            try simp only [Act.put, List.setIfInBounds_toArray, List.set_cons_zero, List.set_cons_succ]
            refine wpAnyH_ready (rs := [7]) (by kernel_rfl) (by simp) ?_
            refine (AllReadyH.cons (o := ⟨none, .store 81 (.tmp 39) (.tmp 38), 0, "program.go:47", #[⟨6, .data⟩, ⟨5, .data⟩, ⟨5, .chain⟩, ⟨0, .phase⟩, ⟨1, .phase⟩, ⟨2, .phase⟩, ⟨3, .phase⟩, ⟨4, .phase⟩, ⟨5, .phase⟩], none⟩) rfl (fun K hK => ?_) AllReadyH.nil)
            have lu := cell_blk Kf.out (j := 2) rfl
            have lf : w10.frozen? ⟨W0.heap.size, 2, none⟩ = false := by simp [World.frozen?, Kf.out]
            go_simp
            clear lu lf
            have u11 := cell_blk Kf.out (j := 2) rfl
            have v11 : w10.frozen? ⟨W0.heap.size, 2, none⟩ = false := by simp [World.frozen?, Kf.out]
            obtain ⟨E11, hE11⟩ : ∃ E, w10.setCell ⟨W0.heap.size, 2, none⟩ (.slice qn (zs.length + 1) cn) = E := ⟨_, rfl⟩
            have hEo : ∀ j, j ≠ W0.heap.size → E11.heap[j]? = w10.heap[j]? := fun j hj => by rw [← hE11]; exact Below.heap_setCell w10 _ _ _ hj
            have hEz : E11.heap.size = w10.heap.size := by rw [← hE11]; simp [World.setCell]
            have hEk : E11.heap[W0.heap.size]? = some (.cells #[.string (str a2), .slice qa4 a4.length ca4, .slice qn (zs.length + 1) cn, .slice none 0 0, .slice none 0 0] 83 (0, 0)) := by rw [← hE11, setCell_eq_setRow _ _ _ _ 83 (0, 0) _ Kf.out]; exact setRow_heap _ _ _ _ 83 (0, 0) Kf.out
            replace Kr := Lib.hid ((hEo _ (Nat.ne_of_lt Vf.out)).trans Kr.out)
            replace Kf := Lib.hid hEk
            replace HO := Lib.hid (own_block HO.out (fun g h1 _ => hEo g (Nat.ne_of_gt (Nat.lt_of_lt_of_le HFb.out h1))))
            replace HWz := Lib.hid (Nat.le_trans HWz.out (Nat.le_of_eq hEz.symm))
            replace Fa4 := Lib.hid (Fa4.out.to (Agr.at hEz hEo (by first | exact Or.inl Ufa4.out | exact Or.inr Ufa4.out) Za4.out))
            replace Za4 := Lib.hid (Nat.le_trans Za4.out (Nat.le_of_eq hEz.symm))
            have hSo := SS.out.1.other (p := ⟨W0.heap.size, 2, none⟩) Nf.out Tf.out (.slice qn (zs.length + 1) cn)
            have hBo := BB.out.putNew (p := ⟨W0.heap.size, 2, none⟩) Mf.out (.slice qn (zs.length + 1) cn)
            rw [hE11] at hSo hBo
            replace SS := Lib.hid (And.intro hSo SS.out.2)
            replace BB := Lib.hid hBo
            clear hEo hEz hEk hSo hBo
            rw [hE11]
            clear hE11 u11 v11
            refine hK.out _ _ trivial (fun hHeld => ?_)
            clear hK K
            try simp only [Act.put, List.setIfInBounds_toArray, List.set_cons_zero, List.set_cons_succ]
            refine wpAnyH_done (by kernel_rfl) ?_ _
            go_wp2_with fail
            go_roundw
            case rel =>
              refine ⟨zs ++ [(a9, ())], k9, g, .slice qn (zs.length + 1) cn, Lib.hid ?_, Lib.hid ?_, Lib.hid ?_, Kf, Kr, SS, BB, HWz, Fa4, Lib.hid ?_⟩
              · have h1 := variableP_shs _ _ _ R9.out; rw [List.length_drop, List.length_drop] at h1; have h2 := hzk.out; have h3 := SS.out.2; rw [List.length_append, List.length_singleton]; omega
              · have h1 := variableP_shs _ _ _ R9.out; rw [List.length_drop, List.length_drop] at h1; have h2 := hfu.out; have h3 := SS.out.2; rw [List.length_drop] at h2 ⊢; omega
              · rw [List.length_append, encs_app]; exact HO.out
              · rw [HGy.out, R9.out, map_fst_snoc, Res.bind_ok, Res.bind_assoc]; simp only [Res.bind_ok, List.append_assoc, List.singleton_append]
            case measure =>
              have h1 := variableP_shs _ _ _ R9.out; rw [List.length_drop, List.length_drop] at h1; have h2 := SS.out.1.atOf; have h3 := HPr.out.1.atOf; have h4 := SS.out.2; have h5 := HPr.out.2; rw [h2, h3]; omega
      · rcases Classical.em ((hdT (p.ts.drop kk)).text = wArray) with t2 | t2
        · have HI := Lib.hid (CI1.out kk wr SS.out.1 SS.out.2)
          rw [decide_eq_false t1] at HI
          go_wp2_with fail
          refine (HI.out).mono ?_
          rintro z w8 ⟨rfl, hBX⟩
          replace Kr := Lib.hid ((hBX.block _ (Array.getElem?_eq_some_iff.1 Kr.out).1).trans Kr.out)
          replace Kf := Lib.hid ((hBX.block _ (Array.getElem?_eq_some_iff.1 Kf.out).1).trans Kf.out)
          replace Fa4 := Lib.hid (Fa4.out.bel hBX Za4.out)
          replace Za4 := Lib.hid (Nat.le_trans Za4.out hBX.size)
          replace Ya4 := Lib.hid Ya4.out
          replace HO := Lib.hid (own_bel HO.out hBX)
          replace HWz := Lib.hid (Nat.le_trans HWz.out hBX.size)
          replace SS := Lib.hid (And.intro (SS.out.1.later hBX) SS.out.2)
          replace BB := Lib.hid (BB.out.trans (But.of_below hBX))
          clear hBX
          clear HI
          have HI := Lib.hid (CI2.out kk w8 SS.out.1 SS.out.2)
          rw [decide_eq_true t2] at HI
          go_wp2_with fail
          refine (HI.out).mono ?_
          rintro z w9 ⟨rfl, hBX⟩
          replace Kr := Lib.hid ((hBX.block _ (Array.getElem?_eq_some_iff.1 Kr.out).1).trans Kr.out)
          replace Kf := Lib.hid ((hBX.block _ (Array.getElem?_eq_some_iff.1 Kf.out).1).trans Kf.out)
          replace Fa4 := Lib.hid (Fa4.out.bel hBX Za4.out)
          replace Za4 := Lib.hid (Nat.le_trans Za4.out hBX.size)
          replace Ya4 := Lib.hid Ya4.out
          replace HO := Lib.hid (own_bel HO.out hBX)
          replace HWz := Lib.hid (Nat.le_trans HWz.out hBX.size)
          replace SS := Lib.hid (And.intro (SS.out.1.later hBX) SS.out.2)
          replace BB := Lib.hid (BB.out.trans (But.of_below hBX))
          clear hBX
          clear HI
          have HV := Lib.hid (show isVar (hdT (p.ts.drop kk)) = true by simp [isVar, t2])
          have HGy := Lib.hid (HGr.out.trans (by rw [whileP_more HV.out]))
          clear HGr t1 t2
          have HG := Lib.hid HGy.out.symm
          go_wp2_with fail
          have hBD : Below w9.heap.size w9 w9.drew := (Below.refl _ _).drew
          replace Kr := Lib.hid ((hBD.block _ (Array.getElem?_eq_some_iff.1 Kr.out).1).trans Kr.out)
          replace Kf := Lib.hid ((hBD.block _ (Array.getElem?_eq_some_iff.1 Kf.out).1).trans Kf.out)
          replace Fa4 := Lib.hid (Fa4.out.bel hBD Za4.out)
          replace Za4 := Lib.hid (Nat.le_trans Za4.out hBD.size)
          replace Ya4 := Lib.hid Ya4.out
          replace HO := Lib.hid (own_bel HO.out hBD)
          replace HWz := Lib.hid (Nat.le_trans HWz.out hBD.size)
          replace SS := Lib.hid (And.intro (SS.out.1.later hBD) SS.out.2)
          replace BB := Lib.hid (BB.out.trans (But.of_below hBD))
          clear hBD
          refine wp_region_held_drew (S := fun _ => True) (by kernel_rfl) ?_ (fun hHeld => ?_)
          · trivial
          generalize w9.drew = wd at *
          refine wpAnyH_take (i := 0) (oi := ⟨some 33, .fieldAddr 83 (.tmp 3) 2, 0, "program.go:47", #[], none⟩) (v := ?_) rfl (by kernel_rfl) (by kernel_rfl) (by kernel_rfl) (fun _ _ _ h => h) (Or.inl ⟨by rfl, ?_⟩) (by assumption) ?_
          rotate_left
          · (intro w hSw; (try dsimp only at hSw); go_simp; try with_reducible rfl)
          try simp only [Act.put, List.setIfInBounds_toArray, List.set_cons_zero, List.set_cons_succ]
          refine wpAnyH_take (i := 2) (oi := ⟨some 35, .move (.tmp 0), 73, "program.go:47", #[], none⟩) (v := ?_) rfl (by kernel_rfl) (by kernel_rfl) (by kernel_rfl) (fun _ _ _ h => h) (Or.inl ⟨by rfl, ?_⟩) (by assumption) ?_
          rotate_left
          · (intro w hSw; (try dsimp only at hSw); go_simp; try with_reducible rfl)
          try simp only [Act.put, List.setIfInBounds_toArray, List.set_cons_zero, List.set_cons_succ]
          refine wpAnyH_ready (rs := [1, 3]) (by kernel_rfl) (by simp) ?_
          refine (AllReadyH.cons (o := ⟨some 34, .load 81 (.tmp 33), 81, "program.go:47", #[⟨0, .data⟩], none⟩) rfl (fun K hK => ?_) (AllReadyH.cons (o := ⟨some 36, .call { callee := .value (.func 156), args := #[.tmp 35], argTypes := #[73] }, 108, "program.go:47", #[⟨2, .data⟩], none⟩) rfl (fun K hK => ?_) AllReadyH.nil))
          · have lv := cell_blk Kf.out (j := 2) rfl
            go_simp
            clear lv
            refine hK.out _ _ trivial (fun hHeld => ?_)
            clear hK K
            try simp only [Act.put, List.setIfInBounds_toArray, List.set_cons_zero, List.set_cons_succ]
            refine wpAnyH_ready (rs := [3]) (by kernel_rfl) (by simp) ?_
            refine (AllReadyH.cons (o := ⟨some 36, .call { callee := .value (.func 156), args := #[.tmp 35], argTypes := #[73] }, 108, "program.go:47", #[⟨2, .data⟩], none⟩) rfl (fun K hK => ?_) AllReadyH.nil)
            go_simp
            have Va10 := Lib.hid (show w.heap.size < wd.heap.size from (Array.getElem?_eq_some_iff.1 Kr.out).1)
            have Ufa10 := Lib.hid (show W0.heap.size < wd.heap.size from (Array.getElem?_eq_some_iff.1 Kf.out).1)
            refine (CV.out kk wd SS.out.1 SS.out.2 HV.out).mono ?_
            intro z w10 hc
            rcases hc with ⟨k10, a10, s10, hr, hkk, hp, hb, hz, hR⟩ | ⟨k10, e10, t10, hr, hp, hb, hz⟩
            rotate_left
            · subst hz
              have HN := Lib.hid (show Post RFnc G p 0 w (WrongIs (e10 : Int) t10) w10 from .no k10 e10 t10 (by rw [← HG.out]; simp only [hr, Res.bind_no]) hp (BB.out.trans hb) rfl)
              clear hr hp hb
              unfold WrongIs
              go_simp
              exact ⟨rfl, HN.out⟩
            replace Kr := Lib.hid ((hb.block _ (Array.getElem?_eq_some_iff.1 Kr.out).1 Nr.out).trans Kr.out)
            replace Kf := Lib.hid ((hb.block _ (Array.getElem?_eq_some_iff.1 Kf.out).1 Nf.out).trans Kf.out)
            replace Fa4 := Lib.hid (Fa4.out.but hb Ga4.out Za4.out)
            replace Za4 := Lib.hid (Nat.le_trans Za4.out hb.size)
            replace Ya4 := Lib.hid Ya4.out
            replace HO := Lib.hid (own_but HO.out hb HPBl.out)
            replace HWz := Lib.hid (Nat.le_trans HWz.out hb.size)
            obtain rfl : z = .returned (.agg #[.string (str a10.name), .int .i64 a10.kind, .int .i64 a10.size, .bool a10.secret]) := hz
            have R10 := Lib.hid hr
            replace SS := Lib.hid (And.intro hp hkk)
            replace BB := Lib.hid (BB.out.trans hb)
            clear hr hkk hp hb hR
            refine hK.out _ _ trivial (fun hHeld => ?_)
            clear hK K
            try simp only [Act.put, List.setIfInBounds_toArray, List.set_cons_zero, List.set_cons_succ]
            refine wpAnyH_ready (rs := [4]) (by kernel_rfl) (by simp) ?_
            refine (AllReadyH.cons (o := ⟨some 37, .buildSlice 81 1 #[(0, .tmp 36)], 81, "program.go:47", #[⟨3, .data⟩], none⟩) rfl (fun K hK => ?_) AllReadyH.nil)
            go_simp
            obtain ⟨Ag, hAg⟩ : ∃ A, w10.alloc (.cells #[.string (str a10.name), .int .i64 a10.kind, .int .i64 a10.size, .bool a10.secret] 108) = A := ⟨_, rfl⟩
            have VV := Lib.hid (show w.heap.size < w10.heap.size from (Array.getElem?_eq_some_iff.1 Kr.out).1)
            have Xa4 := Lib.hid Za4.out
            have Xf := Lib.hid (Array.getElem?_eq_some_iff.1 Kf.out).1
            have hBA : Below w10.heap.size w10 Ag := by rw [← hAg]; exact (Below.refl _ _).alloc (Nat.le_refl _) _
            replace Kr := Lib.hid ((hBA.block _ (Array.getElem?_eq_some_iff.1 Kr.out).1).trans Kr.out)
            replace Kf := Lib.hid ((hBA.block _ (Array.getElem?_eq_some_iff.1 Kf.out).1).trans Kf.out)
            replace Fa4 := Lib.hid (Fa4.out.bel hBA Za4.out)
            replace Za4 := Lib.hid (Nat.le_trans Za4.out hBA.size)
            replace Ya4 := Lib.hid Ya4.out
            replace HO := Lib.hid (own_bel HO.out hBA)
            replace HWz := Lib.hid (Nat.le_trans HWz.out hBA.size)
            have Kg := Lib.hid (show Ag.heap[w10.heap.size]? = some (.cells #[.string (str a10.name), .int .i64 a10.kind, .int .i64 a10.size, .bool a10.secret] 108 (0, 0)) by rw [← hAg]; exact heap_alloc_new w10 _)
            have Ng := Lib.hid (Nat.ne_of_gt SS.out.1.lt_pb)
            have Tg := Lib.hid (Nat.ne_of_gt SS.out.1.lt)
            have Uga4 := Lib.hid (show _ ≤ w10.heap.size from Xa4.out)
            have Lfg := Lib.hid (show W0.heap.size < w10.heap.size from Xf.out)
            have Mg := Lib.hid (show w.heap.size ≤ w10.heap.size from BB.out.size)
            have Vg := Lib.hid (show w.heap.size < w10.heap.size from VV.out)
            replace SS := Lib.hid (And.intro (SS.out.1.later hBA) SS.out.2)
            replace BB := Lib.hid (BB.out.trans (But.of_below hBA))
            clear hBA
            have HAg := Lib.hid hAg
            clear hAg
            rw [HAg.out]
            clear HAg
            refine hK.out _ _ trivial (fun hHeld => ?_)
            clear hK K
            try simp only [Act.put, List.setIfInBounds_toArray, List.set_cons_zero, List.set_cons_succ]
            refine wpAnyH_ready (rs := [5]) (by kernel_rfl) (by simp) ?_
            refine (AllReadyH.cons (o := ⟨some 38, .call { callee := .builtin .append, args := #[.tmp 34, .tmp 37], argTypes := #[81, 81] }, 81, "program.go:47", #[⟨1, .data⟩, ⟨4, .data⟩, ⟨3, .chain⟩], none⟩) rfl (fun K hK => ?_) AllReadyH.nil)
            rw [if_pos (by rfl)]
            refine wp_append_own _ _ _ 81 rfl w7.heap.size 108 i0 (.agg #[.string ByteArray.empty, .int .i64 0, .int .i64 0, .bool false]) 4 40 Tryz.underlying81 hi hz0 hz1 hz2 rfl (by decide) _ _ _ rfl HO.out ⟨w10.heap.size, 0, none⟩ 1 1 [.string (str a10.name), .int .i64 a10.kind, .int .i64 a10.size, .bool a10.secret] rfl rfl ?_ ?_ ?_ ?_ HWz.out ?_
            · intro j u hj
              have := cell_blk Kg.out (j := j) (v := u) (by rw [← Array.getElem?_toList]; exact hj)
              rw [add_of, Nat.zero_add]
              exact this
            · intro u hu
              simp only [List.mem_cons, List.not_mem_nil, or_false] at hu
              rcases hu with rfl | rfl | rfl | rfl <;> rfl
            · have := HLn.out; unfold maxLen; omega
            · have := HLn.out; omega
            intro v' w11 hown hgrow _
            obtain ⟨qn, cn, rfl⟩ := own_slice hown
            replace Kr := Lib.hid ((hgrow.block _ (Array.getElem?_eq_some_iff.1 Kr.out).1 (fun e => Nat.ne_of_lt (Nat.lt_of_lt_of_le (HRb.out) (HO.out.lt _ e.symm).1) rfl)).trans Kr.out)
            replace Kf := Lib.hid ((hgrow.block _ (Array.getElem?_eq_some_iff.1 Kf.out).1 (fun e => Nat.ne_of_lt (Nat.lt_of_lt_of_le (HFb.out) (HO.out.lt _ e.symm).1) rfl)).trans Kf.out)
            replace Fa4 := Lib.hid (Fa4.out.grw hgrow (fun j hj => Nat.le_trans Ba4.out (HO.out.lt j hj).1) Za4.out)
            replace Za4 := Lib.hid (Nat.le_trans Za4.out hgrow.size)
            replace SS := Lib.hid (And.intro (SS.out.1.grown hgrow (fun e => by have h1 := (HO.out.lt _ e).1; have h2 := HPBl.out; omega) (fun e => by have h1 := (HO.out.lt _ e).1; have h2 := HTBl.out; omega)) SS.out.2)
            replace BB := Lib.hid (BB.out.grown hgrow (fun j hj => Nat.le_trans (Nat.le_of_lt HRb.out) (HO.out.lt j hj).1))
            replace HWz := Lib.hid (Nat.le_trans HWz.out hgrow.size)
            replace HO := Lib.hid hown
            clear hown hgrow
            refine hK.out _ _ trivial (fun hHeld => ?_)
            clear hK K
            try simp only [Act.put, List.setIfInBounds_toArray, List.set_cons_zero, List.set_cons_succ]
            refine wpAnyH_take (i := 6) (oi := ⟨some 39, .fieldAddr 83 (.tmp 3) 2, 0, "program.go:47", #[⟨0, .phase⟩, ⟨1, .phase⟩, ⟨2, .phase⟩, ⟨3, .phase⟩, ⟨4, .phase⟩, ⟨5, .phase⟩], none⟩) (v := ?_) rfl (by kernel_rfl) (by kernel_rfl) (by kernel_rfl) (fun _ _ _ h => h) (Or.inl ⟨by rfl, ?_⟩) (by assumption) ?_
            rotate_left
            · (intro w hSw; (try dsimp only at hSw); go_simp; try with_reducible rfl)
            try simp only [Act.put, List.setIfInBounds_toArray, List.set_cons_zero, List.set_cons_succ]
            refine wpAnyH_ready (rs := [7]) (by kernel_rfl) (by simp) ?_
            refine (AllReadyH.cons (o := ⟨none, .store 81 (.tmp 39) (.tmp 38), 0, "program.go:47", #[⟨6, .data⟩, ⟨5, .data⟩, ⟨5, .chain⟩, ⟨0, .phase⟩, ⟨1, .phase⟩, ⟨2, .phase⟩, ⟨3, .phase⟩, ⟨4, .phase⟩, ⟨5, .phase⟩], none⟩) rfl (fun K hK => ?_) AllReadyH.nil)
            have lu := cell_blk Kf.out (j := 2) rfl
            have lf : w11.frozen? ⟨W0.heap.size, 2, none⟩ = false := by simp [World.frozen?, Kf.out]
            go_simp
            clear lu lf
            have u12 := cell_blk Kf.out (j := 2) rfl
            have v12 : w11.frozen? ⟨W0.heap.size, 2, none⟩ = false := by simp [World.frozen?, Kf.out]
            obtain ⟨E12, hE12⟩ : ∃ E, w11.setCell ⟨W0.heap.size, 2, none⟩ (.slice qn (zs.length + 1) cn) = E := ⟨_, rfl⟩
            have hEo : ∀ j, j ≠ W0.heap.size → E12.heap[j]? = w11.heap[j]? := fun j hj => by rw [← hE12]; exact Below.heap_setCell w11 _ _ _ hj
            have hEz : E12.heap.size = w11.heap.size := by rw [← hE12]; simp [World.setCell]
            have hEk : E12.heap[W0.heap.size]? = some (.cells #[.string (str a2), .slice qa4 a4.length ca4, .slice qn (zs.length + 1) cn, .slice none 0 0, .slice none 0 0] 83 (0, 0)) := by rw [← hE12, setCell_eq_setRow _ _ _ _ 83 (0, 0) _ Kf.out]; exact setRow_heap _ _ _ _ 83 (0, 0) Kf.out
            replace Kr := Lib.hid ((hEo _ (Nat.ne_of_lt Vf.out)).trans Kr.out)
            replace Kf := Lib.hid hEk
            replace HO := Lib.hid (own_block HO.out (fun g h1 _ => hEo g (Nat.ne_of_gt (Nat.lt_of_lt_of_le HFb.out h1))))
            replace HWz := Lib.hid (Nat.le_trans HWz.out (Nat.le_of_eq hEz.symm))
            replace Fa4 := Lib.hid (Fa4.out.to (Agr.at hEz hEo (by first | exact Or.inl Ufa4.out | exact Or.inr Ufa4.out) Za4.out))
            replace Za4 := Lib.hid (Nat.le_trans Za4.out (Nat.le_of_eq hEz.symm))
            have hSo := SS.out.1.other (p := ⟨W0.heap.size, 2, none⟩) Nf.out Tf.out (.slice qn (zs.length + 1) cn)
            have hBo := BB.out.putNew (p := ⟨W0.heap.size, 2, none⟩) Mf.out (.slice qn (zs.length + 1) cn)
            rw [hE12] at hSo hBo
            replace SS := Lib.hid (And.intro hSo SS.out.2)
            replace BB := Lib.hid hBo
            clear hEo hEz hEk hSo hBo
            rw [hE12]
            clear hE12 u12 v12
            refine hK.out _ _ trivial (fun hHeld => ?_)
            clear hK K
            try simp only [Act.put, List.setIfInBounds_toArray, List.set_cons_zero, List.set_cons_succ]
            refine wpAnyH_done (by kernel_rfl) ?_ _
            go_wp2_with fail
            go_roundw
            case rel =>
              refine ⟨zs ++ [(a10, ())], k10, g, .slice qn (zs.length + 1) cn, Lib.hid ?_, Lib.hid ?_, Lib.hid ?_, Kf, Kr, SS, BB, HWz, Fa4, Lib.hid ?_⟩
              · have h1 := variableP_shs _ _ _ R10.out; rw [List.length_drop, List.length_drop] at h1; have h2 := hzk.out; have h3 := SS.out.2; rw [List.length_append, List.length_singleton]; omega
              · have h1 := variableP_shs _ _ _ R10.out; rw [List.length_drop, List.length_drop] at h1; have h2 := hfu.out; have h3 := SS.out.2; rw [List.length_drop] at h2 ⊢; omega
              · rw [List.length_append, encs_app]; exact HO.out
              · rw [HGy.out, R10.out, map_fst_snoc, Res.bind_ok, Res.bind_assoc]; simp only [Res.bind_ok, List.append_assoc, List.singleton_append]
            case measure =>
              have h1 := variableP_shs _ _ _ R10.out; rw [List.length_drop, List.length_drop] at h1; have h2 := SS.out.1.atOf; have h3 := HPr.out.1.atOf; have h4 := SS.out.2; have h5 := HPr.out.2; rw [h2, h3]; omega
          · go_simp
            have Va10 := Lib.hid (show w.heap.size < wd.heap.size from (Array.getElem?_eq_some_iff.1 Kr.out).1)
            have Ufa10 := Lib.hid (show W0.heap.size < wd.heap.size from (Array.getElem?_eq_some_iff.1 Kf.out).1)
            refine (CV.out kk wd SS.out.1 SS.out.2 HV.out).mono ?_
            intro z w10 hc
            rcases hc with ⟨k10, a10, s10, hr, hkk, hp, hb, hz, hR⟩ | ⟨k10, e10, t10, hr, hp, hb, hz⟩
            rotate_left
            · subst hz
              have HN := Lib.hid (show Post RFnc G p 0 w (WrongIs (e10 : Int) t10) w10 from .no k10 e10 t10 (by rw [← HG.out]; simp only [hr, Res.bind_no]) hp (BB.out.trans hb) rfl)
              clear hr hp hb
              unfold WrongIs
              go_simp
              exact ⟨rfl, HN.out⟩
            replace Kr := Lib.hid ((hb.block _ (Array.getElem?_eq_some_iff.1 Kr.out).1 Nr.out).trans Kr.out)
            replace Kf := Lib.hid ((hb.block _ (Array.getElem?_eq_some_iff.1 Kf.out).1 Nf.out).trans Kf.out)
            replace Fa4 := Lib.hid (Fa4.out.but hb Ga4.out Za4.out)
            replace Za4 := Lib.hid (Nat.le_trans Za4.out hb.size)
            replace Ya4 := Lib.hid Ya4.out
            replace HO := Lib.hid (own_but HO.out hb HPBl.out)
            replace HWz := Lib.hid (Nat.le_trans HWz.out hb.size)
            obtain rfl : z = .returned (.agg #[.string (str a10.name), .int .i64 a10.kind, .int .i64 a10.size, .bool a10.secret]) := hz
            have R10 := Lib.hid hr
            replace SS := Lib.hid (And.intro hp hkk)
            replace BB := Lib.hid (BB.out.trans hb)
            clear hr hkk hp hb hR
            refine hK.out _ _ trivial (fun hHeld => ?_)
            clear hK K
            try simp only [Act.put, List.setIfInBounds_toArray, List.set_cons_zero, List.set_cons_succ]
            refine wpAnyH_ready (rs := [1, 4]) (by kernel_rfl) (by simp) ?_
            refine (AllReadyH.cons (o := ⟨some 34, .load 81 (.tmp 33), 81, "program.go:47", #[⟨0, .data⟩], none⟩) rfl (fun K hK => ?_) (AllReadyH.cons (o := ⟨some 37, .buildSlice 81 1 #[(0, .tmp 36)], 81, "program.go:47", #[⟨3, .data⟩], none⟩) rfl (fun K hK => ?_) AllReadyH.nil))
            · have lv := cell_blk Kf.out (j := 2) rfl
              go_simp
              clear lv
              refine hK.out _ _ trivial (fun hHeld => ?_)
              clear hK K
              try simp only [Act.put, List.setIfInBounds_toArray, List.set_cons_zero, List.set_cons_succ]
              refine wpAnyH_ready (rs := [4]) (by kernel_rfl) (by simp) ?_
              refine (AllReadyH.cons (o := ⟨some 37, .buildSlice 81 1 #[(0, .tmp 36)], 81, "program.go:47", #[⟨3, .data⟩], none⟩) rfl (fun K hK => ?_) AllReadyH.nil)
              go_simp
              obtain ⟨Ag, hAg⟩ : ∃ A, w10.alloc (.cells #[.string (str a10.name), .int .i64 a10.kind, .int .i64 a10.size, .bool a10.secret] 108) = A := ⟨_, rfl⟩
              have VV := Lib.hid (show w.heap.size < w10.heap.size from (Array.getElem?_eq_some_iff.1 Kr.out).1)
              have Xa4 := Lib.hid Za4.out
              have Xf := Lib.hid (Array.getElem?_eq_some_iff.1 Kf.out).1
              have hBA : Below w10.heap.size w10 Ag := by rw [← hAg]; exact (Below.refl _ _).alloc (Nat.le_refl _) _
              replace Kr := Lib.hid ((hBA.block _ (Array.getElem?_eq_some_iff.1 Kr.out).1).trans Kr.out)
              replace Kf := Lib.hid ((hBA.block _ (Array.getElem?_eq_some_iff.1 Kf.out).1).trans Kf.out)
              replace Fa4 := Lib.hid (Fa4.out.bel hBA Za4.out)
              replace Za4 := Lib.hid (Nat.le_trans Za4.out hBA.size)
              replace Ya4 := Lib.hid Ya4.out
              replace HO := Lib.hid (own_bel HO.out hBA)
              replace HWz := Lib.hid (Nat.le_trans HWz.out hBA.size)
              have Kg := Lib.hid (show Ag.heap[w10.heap.size]? = some (.cells #[.string (str a10.name), .int .i64 a10.kind, .int .i64 a10.size, .bool a10.secret] 108 (0, 0)) by rw [← hAg]; exact heap_alloc_new w10 _)
              have Ng := Lib.hid (Nat.ne_of_gt SS.out.1.lt_pb)
              have Tg := Lib.hid (Nat.ne_of_gt SS.out.1.lt)
              have Uga4 := Lib.hid (show _ ≤ w10.heap.size from Xa4.out)
              have Lfg := Lib.hid (show W0.heap.size < w10.heap.size from Xf.out)
              have Mg := Lib.hid (show w.heap.size ≤ w10.heap.size from BB.out.size)
              have Vg := Lib.hid (show w.heap.size < w10.heap.size from VV.out)
              replace SS := Lib.hid (And.intro (SS.out.1.later hBA) SS.out.2)
              replace BB := Lib.hid (BB.out.trans (But.of_below hBA))
              clear hBA
              have HAg := Lib.hid hAg
              clear hAg
              rw [HAg.out]
              clear HAg
              refine hK.out _ _ trivial (fun hHeld => ?_)
              clear hK K
              try simp only [Act.put, List.setIfInBounds_toArray, List.set_cons_zero, List.set_cons_succ]
              refine wpAnyH_ready (rs := [5]) (by kernel_rfl) (by simp) ?_
              refine (AllReadyH.cons (o := ⟨some 38, .call { callee := .builtin .append, args := #[.tmp 34, .tmp 37], argTypes := #[81, 81] }, 81, "program.go:47", #[⟨1, .data⟩, ⟨4, .data⟩, ⟨3, .chain⟩], none⟩) rfl (fun K hK => ?_) AllReadyH.nil)
              rw [if_pos (by rfl)]
              refine wp_append_own _ _ _ 81 rfl w7.heap.size 108 i0 (.agg #[.string ByteArray.empty, .int .i64 0, .int .i64 0, .bool false]) 4 40 Tryz.underlying81 hi hz0 hz1 hz2 rfl (by decide) _ _ _ rfl HO.out ⟨w10.heap.size, 0, none⟩ 1 1 [.string (str a10.name), .int .i64 a10.kind, .int .i64 a10.size, .bool a10.secret] rfl rfl ?_ ?_ ?_ ?_ HWz.out ?_
              · intro j u hj
                have := cell_blk Kg.out (j := j) (v := u) (by rw [← Array.getElem?_toList]; exact hj)
                rw [add_of, Nat.zero_add]
                exact this
              · intro u hu
                simp only [List.mem_cons, List.not_mem_nil, or_false] at hu
                rcases hu with rfl | rfl | rfl | rfl <;> rfl
              · have := HLn.out; unfold maxLen; omega
              · have := HLn.out; omega
              intro v' w11 hown hgrow _
              obtain ⟨qn, cn, rfl⟩ := own_slice hown
              replace Kr := Lib.hid ((hgrow.block _ (Array.getElem?_eq_some_iff.1 Kr.out).1 (fun e => Nat.ne_of_lt (Nat.lt_of_lt_of_le (HRb.out) (HO.out.lt _ e.symm).1) rfl)).trans Kr.out)
              replace Kf := Lib.hid ((hgrow.block _ (Array.getElem?_eq_some_iff.1 Kf.out).1 (fun e => Nat.ne_of_lt (Nat.lt_of_lt_of_le (HFb.out) (HO.out.lt _ e.symm).1) rfl)).trans Kf.out)
              replace Fa4 := Lib.hid (Fa4.out.grw hgrow (fun j hj => Nat.le_trans Ba4.out (HO.out.lt j hj).1) Za4.out)
              replace Za4 := Lib.hid (Nat.le_trans Za4.out hgrow.size)
              replace SS := Lib.hid (And.intro (SS.out.1.grown hgrow (fun e => by have h1 := (HO.out.lt _ e).1; have h2 := HPBl.out; omega) (fun e => by have h1 := (HO.out.lt _ e).1; have h2 := HTBl.out; omega)) SS.out.2)
              replace BB := Lib.hid (BB.out.grown hgrow (fun j hj => Nat.le_trans (Nat.le_of_lt HRb.out) (HO.out.lt j hj).1))
              replace HWz := Lib.hid (Nat.le_trans HWz.out hgrow.size)
              replace HO := Lib.hid hown
              clear hown hgrow
              refine hK.out _ _ trivial (fun hHeld => ?_)
              clear hK K
              try simp only [Act.put, List.setIfInBounds_toArray, List.set_cons_zero, List.set_cons_succ]
              refine wpAnyH_take (i := 6) (oi := ⟨some 39, .fieldAddr 83 (.tmp 3) 2, 0, "program.go:47", #[⟨0, .phase⟩, ⟨1, .phase⟩, ⟨2, .phase⟩, ⟨3, .phase⟩, ⟨4, .phase⟩, ⟨5, .phase⟩], none⟩) (v := ?_) rfl (by kernel_rfl) (by kernel_rfl) (by kernel_rfl) (fun _ _ _ h => h) (Or.inl ⟨by rfl, ?_⟩) (by assumption) ?_
              rotate_left
              · (intro w hSw; (try dsimp only at hSw); go_simp; try with_reducible rfl)
              try simp only [Act.put, List.setIfInBounds_toArray, List.set_cons_zero, List.set_cons_succ]
              refine wpAnyH_ready (rs := [7]) (by kernel_rfl) (by simp) ?_
              refine (AllReadyH.cons (o := ⟨none, .store 81 (.tmp 39) (.tmp 38), 0, "program.go:47", #[⟨6, .data⟩, ⟨5, .data⟩, ⟨5, .chain⟩, ⟨0, .phase⟩, ⟨1, .phase⟩, ⟨2, .phase⟩, ⟨3, .phase⟩, ⟨4, .phase⟩, ⟨5, .phase⟩], none⟩) rfl (fun K hK => ?_) AllReadyH.nil)
              have lu := cell_blk Kf.out (j := 2) rfl
              have lf : w11.frozen? ⟨W0.heap.size, 2, none⟩ = false := by simp [World.frozen?, Kf.out]
              go_simp
              clear lu lf
              have u12 := cell_blk Kf.out (j := 2) rfl
              have v12 : w11.frozen? ⟨W0.heap.size, 2, none⟩ = false := by simp [World.frozen?, Kf.out]
              obtain ⟨E12, hE12⟩ : ∃ E, w11.setCell ⟨W0.heap.size, 2, none⟩ (.slice qn (zs.length + 1) cn) = E := ⟨_, rfl⟩
              have hEo : ∀ j, j ≠ W0.heap.size → E12.heap[j]? = w11.heap[j]? := fun j hj => by rw [← hE12]; exact Below.heap_setCell w11 _ _ _ hj
              have hEz : E12.heap.size = w11.heap.size := by rw [← hE12]; simp [World.setCell]
              have hEk : E12.heap[W0.heap.size]? = some (.cells #[.string (str a2), .slice qa4 a4.length ca4, .slice qn (zs.length + 1) cn, .slice none 0 0, .slice none 0 0] 83 (0, 0)) := by rw [← hE12, setCell_eq_setRow _ _ _ _ 83 (0, 0) _ Kf.out]; exact setRow_heap _ _ _ _ 83 (0, 0) Kf.out
              replace Kr := Lib.hid ((hEo _ (Nat.ne_of_lt Vf.out)).trans Kr.out)
              replace Kf := Lib.hid hEk
              replace HO := Lib.hid (own_block HO.out (fun g h1 _ => hEo g (Nat.ne_of_gt (Nat.lt_of_lt_of_le HFb.out h1))))
              replace HWz := Lib.hid (Nat.le_trans HWz.out (Nat.le_of_eq hEz.symm))
              replace Fa4 := Lib.hid (Fa4.out.to (Agr.at hEz hEo (by first | exact Or.inl Ufa4.out | exact Or.inr Ufa4.out) Za4.out))
              replace Za4 := Lib.hid (Nat.le_trans Za4.out (Nat.le_of_eq hEz.symm))
              have hSo := SS.out.1.other (p := ⟨W0.heap.size, 2, none⟩) Nf.out Tf.out (.slice qn (zs.length + 1) cn)
              have hBo := BB.out.putNew (p := ⟨W0.heap.size, 2, none⟩) Mf.out (.slice qn (zs.length + 1) cn)
              rw [hE12] at hSo hBo
              replace SS := Lib.hid (And.intro hSo SS.out.2)
              replace BB := Lib.hid hBo
              clear hEo hEz hEk hSo hBo
              rw [hE12]
              clear hE12 u12 v12
              refine hK.out _ _ trivial (fun hHeld => ?_)
              clear hK K
              try simp only [Act.put, List.setIfInBounds_toArray, List.set_cons_zero, List.set_cons_succ]
              refine wpAnyH_done (by kernel_rfl) ?_ _
              go_wp2_with fail
              go_roundw
              case rel =>
                refine ⟨zs ++ [(a10, ())], k10, g, .slice qn (zs.length + 1) cn, Lib.hid ?_, Lib.hid ?_, Lib.hid ?_, Kf, Kr, SS, BB, HWz, Fa4, Lib.hid ?_⟩
                · have h1 := variableP_shs _ _ _ R10.out; rw [List.length_drop, List.length_drop] at h1; have h2 := hzk.out; have h3 := SS.out.2; rw [List.length_append, List.length_singleton]; omega
                · have h1 := variableP_shs _ _ _ R10.out; rw [List.length_drop, List.length_drop] at h1; have h2 := hfu.out; have h3 := SS.out.2; rw [List.length_drop] at h2 ⊢; omega
                · rw [List.length_append, encs_app]; exact HO.out
                · rw [HGy.out, R10.out, map_fst_snoc, Res.bind_ok, Res.bind_assoc]; simp only [Res.bind_ok, List.append_assoc, List.singleton_append]
              case measure =>
                have h1 := variableP_shs _ _ _ R10.out; rw [List.length_drop, List.length_drop] at h1; have h2 := SS.out.1.atOf; have h3 := HPr.out.1.atOf; have h4 := SS.out.2; have h5 := HPr.out.2; rw [h2, h3]; omega
            · go_simp
              obtain ⟨Ag, hAg⟩ : ∃ A, w10.alloc (.cells #[.string (str a10.name), .int .i64 a10.kind, .int .i64 a10.size, .bool a10.secret] 108) = A := ⟨_, rfl⟩
              have VV := Lib.hid (show w.heap.size < w10.heap.size from (Array.getElem?_eq_some_iff.1 Kr.out).1)
              have Xa4 := Lib.hid Za4.out
              have Xf := Lib.hid (Array.getElem?_eq_some_iff.1 Kf.out).1
              have hBA : Below w10.heap.size w10 Ag := by rw [← hAg]; exact (Below.refl _ _).alloc (Nat.le_refl _) _
              replace Kr := Lib.hid ((hBA.block _ (Array.getElem?_eq_some_iff.1 Kr.out).1).trans Kr.out)
              replace Kf := Lib.hid ((hBA.block _ (Array.getElem?_eq_some_iff.1 Kf.out).1).trans Kf.out)
              replace Fa4 := Lib.hid (Fa4.out.bel hBA Za4.out)
              replace Za4 := Lib.hid (Nat.le_trans Za4.out hBA.size)
              replace Ya4 := Lib.hid Ya4.out
              replace HO := Lib.hid (own_bel HO.out hBA)
              replace HWz := Lib.hid (Nat.le_trans HWz.out hBA.size)
              have Kg := Lib.hid (show Ag.heap[w10.heap.size]? = some (.cells #[.string (str a10.name), .int .i64 a10.kind, .int .i64 a10.size, .bool a10.secret] 108 (0, 0)) by rw [← hAg]; exact heap_alloc_new w10 _)
              have Ng := Lib.hid (Nat.ne_of_gt SS.out.1.lt_pb)
              have Tg := Lib.hid (Nat.ne_of_gt SS.out.1.lt)
              have Uga4 := Lib.hid (show _ ≤ w10.heap.size from Xa4.out)
              have Lfg := Lib.hid (show W0.heap.size < w10.heap.size from Xf.out)
              have Mg := Lib.hid (show w.heap.size ≤ w10.heap.size from BB.out.size)
              have Vg := Lib.hid (show w.heap.size < w10.heap.size from VV.out)
              replace SS := Lib.hid (And.intro (SS.out.1.later hBA) SS.out.2)
              replace BB := Lib.hid (BB.out.trans (But.of_below hBA))
              clear hBA
              have HAg := Lib.hid hAg
              clear hAg
              rw [HAg.out]
              clear HAg
              refine hK.out _ _ trivial (fun hHeld => ?_)
              clear hK K
              try simp only [Act.put, List.setIfInBounds_toArray, List.set_cons_zero, List.set_cons_succ]
              refine wpAnyH_ready (rs := [1]) (by kernel_rfl) (by simp) ?_
              refine (AllReadyH.cons (o := ⟨some 34, .load 81 (.tmp 33), 81, "program.go:47", #[⟨0, .data⟩], none⟩) rfl (fun K hK => ?_) AllReadyH.nil)
              have lv := cell_blk Kf.out (j := 2) rfl
              go_simp
              clear lv
              refine hK.out _ _ trivial (fun hHeld => ?_)
              clear hK K
              try simp only [Act.put, List.setIfInBounds_toArray, List.set_cons_zero, List.set_cons_succ]
              refine wpAnyH_ready (rs := [5]) (by kernel_rfl) (by simp) ?_
              refine (AllReadyH.cons (o := ⟨some 38, .call { callee := .builtin .append, args := #[.tmp 34, .tmp 37], argTypes := #[81, 81] }, 81, "program.go:47", #[⟨1, .data⟩, ⟨4, .data⟩, ⟨3, .chain⟩], none⟩) rfl (fun K hK => ?_) AllReadyH.nil)
              rw [if_pos (by rfl)]
              refine wp_append_own _ _ _ 81 rfl w7.heap.size 108 i0 (.agg #[.string ByteArray.empty, .int .i64 0, .int .i64 0, .bool false]) 4 40 Tryz.underlying81 hi hz0 hz1 hz2 rfl (by decide) _ _ _ rfl HO.out ⟨w10.heap.size, 0, none⟩ 1 1 [.string (str a10.name), .int .i64 a10.kind, .int .i64 a10.size, .bool a10.secret] rfl rfl ?_ ?_ ?_ ?_ HWz.out ?_
              · intro j u hj
                have := cell_blk Kg.out (j := j) (v := u) (by rw [← Array.getElem?_toList]; exact hj)
                rw [add_of, Nat.zero_add]
                exact this
              · intro u hu
                simp only [List.mem_cons, List.not_mem_nil, or_false] at hu
                rcases hu with rfl | rfl | rfl | rfl <;> rfl
              · have := HLn.out; unfold maxLen; omega
              · have := HLn.out; omega
              intro v' w11 hown hgrow _
              obtain ⟨qn, cn, rfl⟩ := own_slice hown
              replace Kr := Lib.hid ((hgrow.block _ (Array.getElem?_eq_some_iff.1 Kr.out).1 (fun e => Nat.ne_of_lt (Nat.lt_of_lt_of_le (HRb.out) (HO.out.lt _ e.symm).1) rfl)).trans Kr.out)
              replace Kf := Lib.hid ((hgrow.block _ (Array.getElem?_eq_some_iff.1 Kf.out).1 (fun e => Nat.ne_of_lt (Nat.lt_of_lt_of_le (HFb.out) (HO.out.lt _ e.symm).1) rfl)).trans Kf.out)
              replace Fa4 := Lib.hid (Fa4.out.grw hgrow (fun j hj => Nat.le_trans Ba4.out (HO.out.lt j hj).1) Za4.out)
              replace Za4 := Lib.hid (Nat.le_trans Za4.out hgrow.size)
              replace SS := Lib.hid (And.intro (SS.out.1.grown hgrow (fun e => by have h1 := (HO.out.lt _ e).1; have h2 := HPBl.out; omega) (fun e => by have h1 := (HO.out.lt _ e).1; have h2 := HTBl.out; omega)) SS.out.2)
              replace BB := Lib.hid (BB.out.grown hgrow (fun j hj => Nat.le_trans (Nat.le_of_lt HRb.out) (HO.out.lt j hj).1))
              replace HWz := Lib.hid (Nat.le_trans HWz.out hgrow.size)
              replace HO := Lib.hid hown
              clear hown hgrow
              refine hK.out _ _ trivial (fun hHeld => ?_)
              clear hK K
              try simp only [Act.put, List.setIfInBounds_toArray, List.set_cons_zero, List.set_cons_succ]
              refine wpAnyH_take (i := 6) (oi := ⟨some 39, .fieldAddr 83 (.tmp 3) 2, 0, "program.go:47", #[⟨0, .phase⟩, ⟨1, .phase⟩, ⟨2, .phase⟩, ⟨3, .phase⟩, ⟨4, .phase⟩, ⟨5, .phase⟩], none⟩) (v := ?_) rfl (by kernel_rfl) (by kernel_rfl) (by kernel_rfl) (fun _ _ _ h => h) (Or.inl ⟨by rfl, ?_⟩) (by assumption) ?_
              rotate_left
              · (intro w hSw; (try dsimp only at hSw); go_simp; try with_reducible rfl)
              try simp only [Act.put, List.setIfInBounds_toArray, List.set_cons_zero, List.set_cons_succ]
              refine wpAnyH_ready (rs := [7]) (by kernel_rfl) (by simp) ?_
              refine (AllReadyH.cons (o := ⟨none, .store 81 (.tmp 39) (.tmp 38), 0, "program.go:47", #[⟨6, .data⟩, ⟨5, .data⟩, ⟨5, .chain⟩, ⟨0, .phase⟩, ⟨1, .phase⟩, ⟨2, .phase⟩, ⟨3, .phase⟩, ⟨4, .phase⟩, ⟨5, .phase⟩], none⟩) rfl (fun K hK => ?_) AllReadyH.nil)
              have lu := cell_blk Kf.out (j := 2) rfl
              have lf : w11.frozen? ⟨W0.heap.size, 2, none⟩ = false := by simp [World.frozen?, Kf.out]
              go_simp
              clear lu lf
              have u12 := cell_blk Kf.out (j := 2) rfl
              have v12 : w11.frozen? ⟨W0.heap.size, 2, none⟩ = false := by simp [World.frozen?, Kf.out]
              obtain ⟨E12, hE12⟩ : ∃ E, w11.setCell ⟨W0.heap.size, 2, none⟩ (.slice qn (zs.length + 1) cn) = E := ⟨_, rfl⟩
              have hEo : ∀ j, j ≠ W0.heap.size → E12.heap[j]? = w11.heap[j]? := fun j hj => by rw [← hE12]; exact Below.heap_setCell w11 _ _ _ hj
              have hEz : E12.heap.size = w11.heap.size := by rw [← hE12]; simp [World.setCell]
              have hEk : E12.heap[W0.heap.size]? = some (.cells #[.string (str a2), .slice qa4 a4.length ca4, .slice qn (zs.length + 1) cn, .slice none 0 0, .slice none 0 0] 83 (0, 0)) := by rw [← hE12, setCell_eq_setRow _ _ _ _ 83 (0, 0) _ Kf.out]; exact setRow_heap _ _ _ _ 83 (0, 0) Kf.out
              replace Kr := Lib.hid ((hEo _ (Nat.ne_of_lt Vf.out)).trans Kr.out)
              replace Kf := Lib.hid hEk
              replace HO := Lib.hid (own_block HO.out (fun g h1 _ => hEo g (Nat.ne_of_gt (Nat.lt_of_lt_of_le HFb.out h1))))
              replace HWz := Lib.hid (Nat.le_trans HWz.out (Nat.le_of_eq hEz.symm))
              replace Fa4 := Lib.hid (Fa4.out.to (Agr.at hEz hEo (by first | exact Or.inl Ufa4.out | exact Or.inr Ufa4.out) Za4.out))
              replace Za4 := Lib.hid (Nat.le_trans Za4.out (Nat.le_of_eq hEz.symm))
              have hSo := SS.out.1.other (p := ⟨W0.heap.size, 2, none⟩) Nf.out Tf.out (.slice qn (zs.length + 1) cn)
              have hBo := BB.out.putNew (p := ⟨W0.heap.size, 2, none⟩) Mf.out (.slice qn (zs.length + 1) cn)
              rw [hE12] at hSo hBo
              replace SS := Lib.hid (And.intro hSo SS.out.2)
              replace BB := Lib.hid hBo
              clear hEo hEz hEk hSo hBo
              rw [hE12]
              clear hE12 u12 v12
              refine hK.out _ _ trivial (fun hHeld => ?_)
              clear hK K
              try simp only [Act.put, List.setIfInBounds_toArray, List.set_cons_zero, List.set_cons_succ]
              refine wpAnyH_done (by kernel_rfl) ?_ _
              go_wp2_with fail
              go_roundw
              case rel =>
                refine ⟨zs ++ [(a10, ())], k10, g, .slice qn (zs.length + 1) cn, Lib.hid ?_, Lib.hid ?_, Lib.hid ?_, Kf, Kr, SS, BB, HWz, Fa4, Lib.hid ?_⟩
                · have h1 := variableP_shs _ _ _ R10.out; rw [List.length_drop, List.length_drop] at h1; have h2 := hzk.out; have h3 := SS.out.2; rw [List.length_append, List.length_singleton]; omega
                · have h1 := variableP_shs _ _ _ R10.out; rw [List.length_drop, List.length_drop] at h1; have h2 := hfu.out; have h3 := SS.out.2; rw [List.length_drop] at h2 ⊢; omega
                · rw [List.length_append, encs_app]; exact HO.out
                · rw [HGy.out, R10.out, map_fst_snoc, Res.bind_ok, Res.bind_assoc]; simp only [Res.bind_ok, List.append_assoc, List.singleton_append]
              case measure =>
                have h1 := variableP_shs _ _ _ R10.out; rw [List.length_drop, List.length_drop] at h1; have h2 := SS.out.1.atOf; have h3 := HPr.out.1.atOf; have h4 := SS.out.2; have h5 := HPr.out.2; rw [h2, h3]; omega
        · rcases Classical.em ((hdT (p.ts.drop kk)).text = wStack) with t3 | t3
          · have HI := Lib.hid (CI1.out kk wr SS.out.1 SS.out.2)
            rw [decide_eq_false t1] at HI
            go_wp2_with fail
            refine (HI.out).mono ?_
            rintro z w8 ⟨rfl, hBX⟩
            replace Kr := Lib.hid ((hBX.block _ (Array.getElem?_eq_some_iff.1 Kr.out).1).trans Kr.out)
            replace Kf := Lib.hid ((hBX.block _ (Array.getElem?_eq_some_iff.1 Kf.out).1).trans Kf.out)
            replace Fa4 := Lib.hid (Fa4.out.bel hBX Za4.out)
            replace Za4 := Lib.hid (Nat.le_trans Za4.out hBX.size)
            replace Ya4 := Lib.hid Ya4.out
            replace HO := Lib.hid (own_bel HO.out hBX)
            replace HWz := Lib.hid (Nat.le_trans HWz.out hBX.size)
            replace SS := Lib.hid (And.intro (SS.out.1.later hBX) SS.out.2)
            replace BB := Lib.hid (BB.out.trans (But.of_below hBX))
            clear hBX
            clear HI
            have HI := Lib.hid (CI2.out kk w8 SS.out.1 SS.out.2)
            rw [decide_eq_false t2] at HI
            go_wp2_with fail
            refine (HI.out).mono ?_
            rintro z w9 ⟨rfl, hBX⟩
            replace Kr := Lib.hid ((hBX.block _ (Array.getElem?_eq_some_iff.1 Kr.out).1).trans Kr.out)
            replace Kf := Lib.hid ((hBX.block _ (Array.getElem?_eq_some_iff.1 Kf.out).1).trans Kf.out)
            replace Fa4 := Lib.hid (Fa4.out.bel hBX Za4.out)
            replace Za4 := Lib.hid (Nat.le_trans Za4.out hBX.size)
            replace Ya4 := Lib.hid Ya4.out
            replace HO := Lib.hid (own_bel HO.out hBX)
            replace HWz := Lib.hid (Nat.le_trans HWz.out hBX.size)
            replace SS := Lib.hid (And.intro (SS.out.1.later hBX) SS.out.2)
            replace BB := Lib.hid (BB.out.trans (But.of_below hBX))
            clear hBX
            clear HI
            have HI := Lib.hid (CI3.out kk w9 SS.out.1 SS.out.2)
            rw [decide_eq_true t3] at HI
            go_wp2_with fail
            refine (HI.out).mono ?_
            rintro z w10 ⟨rfl, hBX⟩
            replace Kr := Lib.hid ((hBX.block _ (Array.getElem?_eq_some_iff.1 Kr.out).1).trans Kr.out)
            replace Kf := Lib.hid ((hBX.block _ (Array.getElem?_eq_some_iff.1 Kf.out).1).trans Kf.out)
            replace Fa4 := Lib.hid (Fa4.out.bel hBX Za4.out)
            replace Za4 := Lib.hid (Nat.le_trans Za4.out hBX.size)
            replace Ya4 := Lib.hid Ya4.out
            replace HO := Lib.hid (own_bel HO.out hBX)
            replace HWz := Lib.hid (Nat.le_trans HWz.out hBX.size)
            replace SS := Lib.hid (And.intro (SS.out.1.later hBX) SS.out.2)
            replace BB := Lib.hid (BB.out.trans (But.of_below hBX))
            clear hBX
            clear HI
            have HV := Lib.hid (show isVar (hdT (p.ts.drop kk)) = true by simp [isVar, t3])
            have HGy := Lib.hid (HGr.out.trans (by rw [whileP_more HV.out]))
            clear HGr t1 t2 t3
            have HG := Lib.hid HGy.out.symm
            go_wp2_with fail
            have hBD : Below w10.heap.size w10 w10.drew := (Below.refl _ _).drew
            replace Kr := Lib.hid ((hBD.block _ (Array.getElem?_eq_some_iff.1 Kr.out).1).trans Kr.out)
            replace Kf := Lib.hid ((hBD.block _ (Array.getElem?_eq_some_iff.1 Kf.out).1).trans Kf.out)
            replace Fa4 := Lib.hid (Fa4.out.bel hBD Za4.out)
            replace Za4 := Lib.hid (Nat.le_trans Za4.out hBD.size)
            replace Ya4 := Lib.hid Ya4.out
            replace HO := Lib.hid (own_bel HO.out hBD)
            replace HWz := Lib.hid (Nat.le_trans HWz.out hBD.size)
            replace SS := Lib.hid (And.intro (SS.out.1.later hBD) SS.out.2)
            replace BB := Lib.hid (BB.out.trans (But.of_below hBD))
            clear hBD
            refine wp_region_held_drew (S := fun _ => True) (by kernel_rfl) ?_ (fun hHeld => ?_)
            · trivial
            generalize w10.drew = wd at *
            refine wpAnyH_take (i := 0) (oi := ⟨some 33, .fieldAddr 83 (.tmp 3) 2, 0, "program.go:47", #[], none⟩) (v := ?_) rfl (by kernel_rfl) (by kernel_rfl) (by kernel_rfl) (fun _ _ _ h => h) (Or.inl ⟨by rfl, ?_⟩) (by assumption) ?_
            rotate_left
            · (intro w hSw; (try dsimp only at hSw); go_simp; try with_reducible rfl)
            try simp only [Act.put, List.setIfInBounds_toArray, List.set_cons_zero, List.set_cons_succ]
            refine wpAnyH_take (i := 2) (oi := ⟨some 35, .move (.tmp 0), 73, "program.go:47", #[], none⟩) (v := ?_) rfl (by kernel_rfl) (by kernel_rfl) (by kernel_rfl) (fun _ _ _ h => h) (Or.inl ⟨by rfl, ?_⟩) (by assumption) ?_
            rotate_left
            · (intro w hSw; (try dsimp only at hSw); go_simp; try with_reducible rfl)
            try simp only [Act.put, List.setIfInBounds_toArray, List.set_cons_zero, List.set_cons_succ]
            refine wpAnyH_ready (rs := [1, 3]) (by kernel_rfl) (by simp) ?_
            refine (AllReadyH.cons (o := ⟨some 34, .load 81 (.tmp 33), 81, "program.go:47", #[⟨0, .data⟩], none⟩) rfl (fun K hK => ?_) (AllReadyH.cons (o := ⟨some 36, .call { callee := .value (.func 156), args := #[.tmp 35], argTypes := #[73] }, 108, "program.go:47", #[⟨2, .data⟩], none⟩) rfl (fun K hK => ?_) AllReadyH.nil))
            · have lv := cell_blk Kf.out (j := 2) rfl
              go_simp
              clear lv
              refine hK.out _ _ trivial (fun hHeld => ?_)
              clear hK K
              try simp only [Act.put, List.setIfInBounds_toArray, List.set_cons_zero, List.set_cons_succ]
              refine wpAnyH_ready (rs := [3]) (by kernel_rfl) (by simp) ?_
              refine (AllReadyH.cons (o := ⟨some 36, .call { callee := .value (.func 156), args := #[.tmp 35], argTypes := #[73] }, 108, "program.go:47", #[⟨2, .data⟩], none⟩) rfl (fun K hK => ?_) AllReadyH.nil)
              go_simp
              have Va11 := Lib.hid (show w.heap.size < wd.heap.size from (Array.getElem?_eq_some_iff.1 Kr.out).1)
              have Ufa11 := Lib.hid (show W0.heap.size < wd.heap.size from (Array.getElem?_eq_some_iff.1 Kf.out).1)
              refine (CV.out kk wd SS.out.1 SS.out.2 HV.out).mono ?_
              intro z w11 hc
              rcases hc with ⟨k11, a11, s11, hr, hkk, hp, hb, hz, hR⟩ | ⟨k11, e11, t11, hr, hp, hb, hz⟩
              rotate_left
              · subst hz
                have HN := Lib.hid (show Post RFnc G p 0 w (WrongIs (e11 : Int) t11) w11 from .no k11 e11 t11 (by rw [← HG.out]; simp only [hr, Res.bind_no]) hp (BB.out.trans hb) rfl)
                clear hr hp hb
                unfold WrongIs
                go_simp
                exact ⟨rfl, HN.out⟩
              replace Kr := Lib.hid ((hb.block _ (Array.getElem?_eq_some_iff.1 Kr.out).1 Nr.out).trans Kr.out)
              replace Kf := Lib.hid ((hb.block _ (Array.getElem?_eq_some_iff.1 Kf.out).1 Nf.out).trans Kf.out)
              replace Fa4 := Lib.hid (Fa4.out.but hb Ga4.out Za4.out)
              replace Za4 := Lib.hid (Nat.le_trans Za4.out hb.size)
              replace Ya4 := Lib.hid Ya4.out
              replace HO := Lib.hid (own_but HO.out hb HPBl.out)
              replace HWz := Lib.hid (Nat.le_trans HWz.out hb.size)
              obtain rfl : z = .returned (.agg #[.string (str a11.name), .int .i64 a11.kind, .int .i64 a11.size, .bool a11.secret]) := hz
              have R11 := Lib.hid hr
              replace SS := Lib.hid (And.intro hp hkk)
              replace BB := Lib.hid (BB.out.trans hb)
              clear hr hkk hp hb hR
              refine hK.out _ _ trivial (fun hHeld => ?_)
              clear hK K
              try simp only [Act.put, List.setIfInBounds_toArray, List.set_cons_zero, List.set_cons_succ]
              refine wpAnyH_ready (rs := [4]) (by kernel_rfl) (by simp) ?_
              refine (AllReadyH.cons (o := ⟨some 37, .buildSlice 81 1 #[(0, .tmp 36)], 81, "program.go:47", #[⟨3, .data⟩], none⟩) rfl (fun K hK => ?_) AllReadyH.nil)
              go_simp
              obtain ⟨Ag, hAg⟩ : ∃ A, w11.alloc (.cells #[.string (str a11.name), .int .i64 a11.kind, .int .i64 a11.size, .bool a11.secret] 108) = A := ⟨_, rfl⟩
              have VV := Lib.hid (show w.heap.size < w11.heap.size from (Array.getElem?_eq_some_iff.1 Kr.out).1)
              have Xa4 := Lib.hid Za4.out
              have Xf := Lib.hid (Array.getElem?_eq_some_iff.1 Kf.out).1
              have hBA : Below w11.heap.size w11 Ag := by rw [← hAg]; exact (Below.refl _ _).alloc (Nat.le_refl _) _
              replace Kr := Lib.hid ((hBA.block _ (Array.getElem?_eq_some_iff.1 Kr.out).1).trans Kr.out)
              replace Kf := Lib.hid ((hBA.block _ (Array.getElem?_eq_some_iff.1 Kf.out).1).trans Kf.out)
              replace Fa4 := Lib.hid (Fa4.out.bel hBA Za4.out)
              replace Za4 := Lib.hid (Nat.le_trans Za4.out hBA.size)
              replace Ya4 := Lib.hid Ya4.out
              replace HO := Lib.hid (own_bel HO.out hBA)
              replace HWz := Lib.hid (Nat.le_trans HWz.out hBA.size)
              have Kg := Lib.hid (show Ag.heap[w11.heap.size]? = some (.cells #[.string (str a11.name), .int .i64 a11.kind, .int .i64 a11.size, .bool a11.secret] 108 (0, 0)) by rw [← hAg]; exact heap_alloc_new w11 _)
              have Ng := Lib.hid (Nat.ne_of_gt SS.out.1.lt_pb)
              have Tg := Lib.hid (Nat.ne_of_gt SS.out.1.lt)
              have Uga4 := Lib.hid (show _ ≤ w11.heap.size from Xa4.out)
              have Lfg := Lib.hid (show W0.heap.size < w11.heap.size from Xf.out)
              have Mg := Lib.hid (show w.heap.size ≤ w11.heap.size from BB.out.size)
              have Vg := Lib.hid (show w.heap.size < w11.heap.size from VV.out)
              replace SS := Lib.hid (And.intro (SS.out.1.later hBA) SS.out.2)
              replace BB := Lib.hid (BB.out.trans (But.of_below hBA))
              clear hBA
              have HAg := Lib.hid hAg
              clear hAg
              rw [HAg.out]
              clear HAg
              refine hK.out _ _ trivial (fun hHeld => ?_)
              clear hK K
              try simp only [Act.put, List.setIfInBounds_toArray, List.set_cons_zero, List.set_cons_succ]
              refine wpAnyH_ready (rs := [5]) (by kernel_rfl) (by simp) ?_
              refine (AllReadyH.cons (o := ⟨some 38, .call { callee := .builtin .append, args := #[.tmp 34, .tmp 37], argTypes := #[81, 81] }, 81, "program.go:47", #[⟨1, .data⟩, ⟨4, .data⟩, ⟨3, .chain⟩], none⟩) rfl (fun K hK => ?_) AllReadyH.nil)
              rw [if_pos (by rfl)]
              refine wp_append_own _ _ _ 81 rfl w7.heap.size 108 i0 (.agg #[.string ByteArray.empty, .int .i64 0, .int .i64 0, .bool false]) 4 40 Tryz.underlying81 hi hz0 hz1 hz2 rfl (by decide) _ _ _ rfl HO.out ⟨w11.heap.size, 0, none⟩ 1 1 [.string (str a11.name), .int .i64 a11.kind, .int .i64 a11.size, .bool a11.secret] rfl rfl ?_ ?_ ?_ ?_ HWz.out ?_
              · intro j u hj
                have := cell_blk Kg.out (j := j) (v := u) (by rw [← Array.getElem?_toList]; exact hj)
                rw [add_of, Nat.zero_add]
                exact this
              · intro u hu
                simp only [List.mem_cons, List.not_mem_nil, or_false] at hu
                rcases hu with rfl | rfl | rfl | rfl <;> rfl
              · have := HLn.out; unfold maxLen; omega
              · have := HLn.out; omega
              intro v' w12 hown hgrow _
              obtain ⟨qn, cn, rfl⟩ := own_slice hown
              replace Kr := Lib.hid ((hgrow.block _ (Array.getElem?_eq_some_iff.1 Kr.out).1 (fun e => Nat.ne_of_lt (Nat.lt_of_lt_of_le (HRb.out) (HO.out.lt _ e.symm).1) rfl)).trans Kr.out)
              replace Kf := Lib.hid ((hgrow.block _ (Array.getElem?_eq_some_iff.1 Kf.out).1 (fun e => Nat.ne_of_lt (Nat.lt_of_lt_of_le (HFb.out) (HO.out.lt _ e.symm).1) rfl)).trans Kf.out)
              replace Fa4 := Lib.hid (Fa4.out.grw hgrow (fun j hj => Nat.le_trans Ba4.out (HO.out.lt j hj).1) Za4.out)
              replace Za4 := Lib.hid (Nat.le_trans Za4.out hgrow.size)
              replace SS := Lib.hid (And.intro (SS.out.1.grown hgrow (fun e => by have h1 := (HO.out.lt _ e).1; have h2 := HPBl.out; omega) (fun e => by have h1 := (HO.out.lt _ e).1; have h2 := HTBl.out; omega)) SS.out.2)
              replace BB := Lib.hid (BB.out.grown hgrow (fun j hj => Nat.le_trans (Nat.le_of_lt HRb.out) (HO.out.lt j hj).1))
              replace HWz := Lib.hid (Nat.le_trans HWz.out hgrow.size)
              replace HO := Lib.hid hown
              clear hown hgrow
              refine hK.out _ _ trivial (fun hHeld => ?_)
              clear hK K
              try simp only [Act.put, List.setIfInBounds_toArray, List.set_cons_zero, List.set_cons_succ]
              refine wpAnyH_take (i := 6) (oi := ⟨some 39, .fieldAddr 83 (.tmp 3) 2, 0, "program.go:47", #[⟨0, .phase⟩, ⟨1, .phase⟩, ⟨2, .phase⟩, ⟨3, .phase⟩, ⟨4, .phase⟩, ⟨5, .phase⟩], none⟩) (v := ?_) rfl (by kernel_rfl) (by kernel_rfl) (by kernel_rfl) (fun _ _ _ h => h) (Or.inl ⟨by rfl, ?_⟩) (by assumption) ?_
              rotate_left
              · (intro w hSw; (try dsimp only at hSw); go_simp; try with_reducible rfl)
              try simp only [Act.put, List.setIfInBounds_toArray, List.set_cons_zero, List.set_cons_succ]
              refine wpAnyH_ready (rs := [7]) (by kernel_rfl) (by simp) ?_
              refine (AllReadyH.cons (o := ⟨none, .store 81 (.tmp 39) (.tmp 38), 0, "program.go:47", #[⟨6, .data⟩, ⟨5, .data⟩, ⟨5, .chain⟩, ⟨0, .phase⟩, ⟨1, .phase⟩, ⟨2, .phase⟩, ⟨3, .phase⟩, ⟨4, .phase⟩, ⟨5, .phase⟩], none⟩) rfl (fun K hK => ?_) AllReadyH.nil)
              have lu := cell_blk Kf.out (j := 2) rfl
              have lf : w12.frozen? ⟨W0.heap.size, 2, none⟩ = false := by simp [World.frozen?, Kf.out]
              go_simp
              clear lu lf
              have u13 := cell_blk Kf.out (j := 2) rfl
              have v13 : w12.frozen? ⟨W0.heap.size, 2, none⟩ = false := by simp [World.frozen?, Kf.out]
              obtain ⟨E13, hE13⟩ : ∃ E, w12.setCell ⟨W0.heap.size, 2, none⟩ (.slice qn (zs.length + 1) cn) = E := ⟨_, rfl⟩
              have hEo : ∀ j, j ≠ W0.heap.size → E13.heap[j]? = w12.heap[j]? := fun j hj => by rw [← hE13]; exact Below.heap_setCell w12 _ _ _ hj
              have hEz : E13.heap.size = w12.heap.size := by rw [← hE13]; simp [World.setCell]
              have hEk : E13.heap[W0.heap.size]? = some (.cells #[.string (str a2), .slice qa4 a4.length ca4, .slice qn (zs.length + 1) cn, .slice none 0 0, .slice none 0 0] 83 (0, 0)) := by rw [← hE13, setCell_eq_setRow _ _ _ _ 83 (0, 0) _ Kf.out]; exact setRow_heap _ _ _ _ 83 (0, 0) Kf.out
              replace Kr := Lib.hid ((hEo _ (Nat.ne_of_lt Vf.out)).trans Kr.out)
              replace Kf := Lib.hid hEk
              replace HO := Lib.hid (own_block HO.out (fun g h1 _ => hEo g (Nat.ne_of_gt (Nat.lt_of_lt_of_le HFb.out h1))))
              replace HWz := Lib.hid (Nat.le_trans HWz.out (Nat.le_of_eq hEz.symm))
              replace Fa4 := Lib.hid (Fa4.out.to (Agr.at hEz hEo (by first | exact Or.inl Ufa4.out | exact Or.inr Ufa4.out) Za4.out))
              replace Za4 := Lib.hid (Nat.le_trans Za4.out (Nat.le_of_eq hEz.symm))
              have hSo := SS.out.1.other (p := ⟨W0.heap.size, 2, none⟩) Nf.out Tf.out (.slice qn (zs.length + 1) cn)
              have hBo := BB.out.putNew (p := ⟨W0.heap.size, 2, none⟩) Mf.out (.slice qn (zs.length + 1) cn)
              rw [hE13] at hSo hBo
              replace SS := Lib.hid (And.intro hSo SS.out.2)
              replace BB := Lib.hid hBo
              clear hEo hEz hEk hSo hBo
              rw [hE13]
              clear hE13 u13 v13
              refine hK.out _ _ trivial (fun hHeld => ?_)
              clear hK K
              try simp only [Act.put, List.setIfInBounds_toArray, List.set_cons_zero, List.set_cons_succ]
              refine wpAnyH_done (by kernel_rfl) ?_ _
              go_wp2_with fail
              go_roundw
              case rel =>
                refine ⟨zs ++ [(a11, ())], k11, g, .slice qn (zs.length + 1) cn, Lib.hid ?_, Lib.hid ?_, Lib.hid ?_, Kf, Kr, SS, BB, HWz, Fa4, Lib.hid ?_⟩
                · have h1 := variableP_shs _ _ _ R11.out; rw [List.length_drop, List.length_drop] at h1; have h2 := hzk.out; have h3 := SS.out.2; rw [List.length_append, List.length_singleton]; omega
                · have h1 := variableP_shs _ _ _ R11.out; rw [List.length_drop, List.length_drop] at h1; have h2 := hfu.out; have h3 := SS.out.2; rw [List.length_drop] at h2 ⊢; omega
                · rw [List.length_append, encs_app]; exact HO.out
                · rw [HGy.out, R11.out, map_fst_snoc, Res.bind_ok, Res.bind_assoc]; simp only [Res.bind_ok, List.append_assoc, List.singleton_append]
              case measure =>
                have h1 := variableP_shs _ _ _ R11.out; rw [List.length_drop, List.length_drop] at h1; have h2 := SS.out.1.atOf; have h3 := HPr.out.1.atOf; have h4 := SS.out.2; have h5 := HPr.out.2; rw [h2, h3]; omega
            · go_simp
              have Va11 := Lib.hid (show w.heap.size < wd.heap.size from (Array.getElem?_eq_some_iff.1 Kr.out).1)
              have Ufa11 := Lib.hid (show W0.heap.size < wd.heap.size from (Array.getElem?_eq_some_iff.1 Kf.out).1)
              refine (CV.out kk wd SS.out.1 SS.out.2 HV.out).mono ?_
              intro z w11 hc
              rcases hc with ⟨k11, a11, s11, hr, hkk, hp, hb, hz, hR⟩ | ⟨k11, e11, t11, hr, hp, hb, hz⟩
              rotate_left
              · subst hz
                have HN := Lib.hid (show Post RFnc G p 0 w (WrongIs (e11 : Int) t11) w11 from .no k11 e11 t11 (by rw [← HG.out]; simp only [hr, Res.bind_no]) hp (BB.out.trans hb) rfl)
                clear hr hp hb
                unfold WrongIs
                go_simp
                exact ⟨rfl, HN.out⟩
              replace Kr := Lib.hid ((hb.block _ (Array.getElem?_eq_some_iff.1 Kr.out).1 Nr.out).trans Kr.out)
              replace Kf := Lib.hid ((hb.block _ (Array.getElem?_eq_some_iff.1 Kf.out).1 Nf.out).trans Kf.out)
              replace Fa4 := Lib.hid (Fa4.out.but hb Ga4.out Za4.out)
              replace Za4 := Lib.hid (Nat.le_trans Za4.out hb.size)
              replace Ya4 := Lib.hid Ya4.out
              replace HO := Lib.hid (own_but HO.out hb HPBl.out)
              replace HWz := Lib.hid (Nat.le_trans HWz.out hb.size)
              obtain rfl : z = .returned (.agg #[.string (str a11.name), .int .i64 a11.kind, .int .i64 a11.size, .bool a11.secret]) := hz
              have R11 := Lib.hid hr
              replace SS := Lib.hid (And.intro hp hkk)
              replace BB := Lib.hid (BB.out.trans hb)
              clear hr hkk hp hb hR
              refine hK.out _ _ trivial (fun hHeld => ?_)
              clear hK K
              try simp only [Act.put, List.setIfInBounds_toArray, List.set_cons_zero, List.set_cons_succ]
              refine wpAnyH_ready (rs := [1, 4]) (by kernel_rfl) (by simp) ?_
              refine (AllReadyH.cons (o := ⟨some 34, .load 81 (.tmp 33), 81, "program.go:47", #[⟨0, .data⟩], none⟩) rfl (fun K hK => ?_) (AllReadyH.cons (o := ⟨some 37, .buildSlice 81 1 #[(0, .tmp 36)], 81, "program.go:47", #[⟨3, .data⟩], none⟩) rfl (fun K hK => ?_) AllReadyH.nil))
              · have lv := cell_blk Kf.out (j := 2) rfl
                go_simp
                clear lv
                refine hK.out _ _ trivial (fun hHeld => ?_)
                clear hK K
                try simp only [Act.put, List.setIfInBounds_toArray, List.set_cons_zero, List.set_cons_succ]
                refine wpAnyH_ready (rs := [4]) (by kernel_rfl) (by simp) ?_
                refine (AllReadyH.cons (o := ⟨some 37, .buildSlice 81 1 #[(0, .tmp 36)], 81, "program.go:47", #[⟨3, .data⟩], none⟩) rfl (fun K hK => ?_) AllReadyH.nil)
                go_simp
                obtain ⟨Ag, hAg⟩ : ∃ A, w11.alloc (.cells #[.string (str a11.name), .int .i64 a11.kind, .int .i64 a11.size, .bool a11.secret] 108) = A := ⟨_, rfl⟩
                have VV := Lib.hid (show w.heap.size < w11.heap.size from (Array.getElem?_eq_some_iff.1 Kr.out).1)
                have Xa4 := Lib.hid Za4.out
                have Xf := Lib.hid (Array.getElem?_eq_some_iff.1 Kf.out).1
                have hBA : Below w11.heap.size w11 Ag := by rw [← hAg]; exact (Below.refl _ _).alloc (Nat.le_refl _) _
                replace Kr := Lib.hid ((hBA.block _ (Array.getElem?_eq_some_iff.1 Kr.out).1).trans Kr.out)
                replace Kf := Lib.hid ((hBA.block _ (Array.getElem?_eq_some_iff.1 Kf.out).1).trans Kf.out)
                replace Fa4 := Lib.hid (Fa4.out.bel hBA Za4.out)
                replace Za4 := Lib.hid (Nat.le_trans Za4.out hBA.size)
                replace Ya4 := Lib.hid Ya4.out
                replace HO := Lib.hid (own_bel HO.out hBA)
                replace HWz := Lib.hid (Nat.le_trans HWz.out hBA.size)
                have Kg := Lib.hid (show Ag.heap[w11.heap.size]? = some (.cells #[.string (str a11.name), .int .i64 a11.kind, .int .i64 a11.size, .bool a11.secret] 108 (0, 0)) by rw [← hAg]; exact heap_alloc_new w11 _)
                have Ng := Lib.hid (Nat.ne_of_gt SS.out.1.lt_pb)
                have Tg := Lib.hid (Nat.ne_of_gt SS.out.1.lt)
                have Uga4 := Lib.hid (show _ ≤ w11.heap.size from Xa4.out)
                have Lfg := Lib.hid (show W0.heap.size < w11.heap.size from Xf.out)
                have Mg := Lib.hid (show w.heap.size ≤ w11.heap.size from BB.out.size)
                have Vg := Lib.hid (show w.heap.size < w11.heap.size from VV.out)
                replace SS := Lib.hid (And.intro (SS.out.1.later hBA) SS.out.2)
                replace BB := Lib.hid (BB.out.trans (But.of_below hBA))
                clear hBA
                have HAg := Lib.hid hAg
                clear hAg
                rw [HAg.out]
                clear HAg
                refine hK.out _ _ trivial (fun hHeld => ?_)
                clear hK K
                try simp only [Act.put, List.setIfInBounds_toArray, List.set_cons_zero, List.set_cons_succ]
                refine wpAnyH_ready (rs := [5]) (by kernel_rfl) (by simp) ?_
                refine (AllReadyH.cons (o := ⟨some 38, .call { callee := .builtin .append, args := #[.tmp 34, .tmp 37], argTypes := #[81, 81] }, 81, "program.go:47", #[⟨1, .data⟩, ⟨4, .data⟩, ⟨3, .chain⟩], none⟩) rfl (fun K hK => ?_) AllReadyH.nil)
                rw [if_pos (by rfl)]
                refine wp_append_own _ _ _ 81 rfl w7.heap.size 108 i0 (.agg #[.string ByteArray.empty, .int .i64 0, .int .i64 0, .bool false]) 4 40 Tryz.underlying81 hi hz0 hz1 hz2 rfl (by decide) _ _ _ rfl HO.out ⟨w11.heap.size, 0, none⟩ 1 1 [.string (str a11.name), .int .i64 a11.kind, .int .i64 a11.size, .bool a11.secret] rfl rfl ?_ ?_ ?_ ?_ HWz.out ?_
                · intro j u hj
                  have := cell_blk Kg.out (j := j) (v := u) (by rw [← Array.getElem?_toList]; exact hj)
                  rw [add_of, Nat.zero_add]
                  exact this
                · intro u hu
                  simp only [List.mem_cons, List.not_mem_nil, or_false] at hu
                  rcases hu with rfl | rfl | rfl | rfl <;> rfl
                · have := HLn.out; unfold maxLen; omega
                · have := HLn.out; omega
                intro v' w12 hown hgrow _
                obtain ⟨qn, cn, rfl⟩ := own_slice hown
                replace Kr := Lib.hid ((hgrow.block _ (Array.getElem?_eq_some_iff.1 Kr.out).1 (fun e => Nat.ne_of_lt (Nat.lt_of_lt_of_le (HRb.out) (HO.out.lt _ e.symm).1) rfl)).trans Kr.out)
                replace Kf := Lib.hid ((hgrow.block _ (Array.getElem?_eq_some_iff.1 Kf.out).1 (fun e => Nat.ne_of_lt (Nat.lt_of_lt_of_le (HFb.out) (HO.out.lt _ e.symm).1) rfl)).trans Kf.out)
                replace Fa4 := Lib.hid (Fa4.out.grw hgrow (fun j hj => Nat.le_trans Ba4.out (HO.out.lt j hj).1) Za4.out)
                replace Za4 := Lib.hid (Nat.le_trans Za4.out hgrow.size)
                replace SS := Lib.hid (And.intro (SS.out.1.grown hgrow (fun e => by have h1 := (HO.out.lt _ e).1; have h2 := HPBl.out; omega) (fun e => by have h1 := (HO.out.lt _ e).1; have h2 := HTBl.out; omega)) SS.out.2)
                replace BB := Lib.hid (BB.out.grown hgrow (fun j hj => Nat.le_trans (Nat.le_of_lt HRb.out) (HO.out.lt j hj).1))
                replace HWz := Lib.hid (Nat.le_trans HWz.out hgrow.size)
                replace HO := Lib.hid hown
                clear hown hgrow
                refine hK.out _ _ trivial (fun hHeld => ?_)
                clear hK K
                try simp only [Act.put, List.setIfInBounds_toArray, List.set_cons_zero, List.set_cons_succ]
                refine wpAnyH_take (i := 6) (oi := ⟨some 39, .fieldAddr 83 (.tmp 3) 2, 0, "program.go:47", #[⟨0, .phase⟩, ⟨1, .phase⟩, ⟨2, .phase⟩, ⟨3, .phase⟩, ⟨4, .phase⟩, ⟨5, .phase⟩], none⟩) (v := ?_) rfl (by kernel_rfl) (by kernel_rfl) (by kernel_rfl) (fun _ _ _ h => h) (Or.inl ⟨by rfl, ?_⟩) (by assumption) ?_
                rotate_left
                · (intro w hSw; (try dsimp only at hSw); go_simp; try with_reducible rfl)
                try simp only [Act.put, List.setIfInBounds_toArray, List.set_cons_zero, List.set_cons_succ]
                refine wpAnyH_ready (rs := [7]) (by kernel_rfl) (by simp) ?_
                refine (AllReadyH.cons (o := ⟨none, .store 81 (.tmp 39) (.tmp 38), 0, "program.go:47", #[⟨6, .data⟩, ⟨5, .data⟩, ⟨5, .chain⟩, ⟨0, .phase⟩, ⟨1, .phase⟩, ⟨2, .phase⟩, ⟨3, .phase⟩, ⟨4, .phase⟩, ⟨5, .phase⟩], none⟩) rfl (fun K hK => ?_) AllReadyH.nil)
                have lu := cell_blk Kf.out (j := 2) rfl
                have lf : w12.frozen? ⟨W0.heap.size, 2, none⟩ = false := by simp [World.frozen?, Kf.out]
                go_simp
                clear lu lf
                have u13 := cell_blk Kf.out (j := 2) rfl
                have v13 : w12.frozen? ⟨W0.heap.size, 2, none⟩ = false := by simp [World.frozen?, Kf.out]
                obtain ⟨E13, hE13⟩ : ∃ E, w12.setCell ⟨W0.heap.size, 2, none⟩ (.slice qn (zs.length + 1) cn) = E := ⟨_, rfl⟩
                have hEo : ∀ j, j ≠ W0.heap.size → E13.heap[j]? = w12.heap[j]? := fun j hj => by rw [← hE13]; exact Below.heap_setCell w12 _ _ _ hj
                have hEz : E13.heap.size = w12.heap.size := by rw [← hE13]; simp [World.setCell]
                have hEk : E13.heap[W0.heap.size]? = some (.cells #[.string (str a2), .slice qa4 a4.length ca4, .slice qn (zs.length + 1) cn, .slice none 0 0, .slice none 0 0] 83 (0, 0)) := by rw [← hE13, setCell_eq_setRow _ _ _ _ 83 (0, 0) _ Kf.out]; exact setRow_heap _ _ _ _ 83 (0, 0) Kf.out
                replace Kr := Lib.hid ((hEo _ (Nat.ne_of_lt Vf.out)).trans Kr.out)
                replace Kf := Lib.hid hEk
                replace HO := Lib.hid (own_block HO.out (fun g h1 _ => hEo g (Nat.ne_of_gt (Nat.lt_of_lt_of_le HFb.out h1))))
                replace HWz := Lib.hid (Nat.le_trans HWz.out (Nat.le_of_eq hEz.symm))
                replace Fa4 := Lib.hid (Fa4.out.to (Agr.at hEz hEo (by first | exact Or.inl Ufa4.out | exact Or.inr Ufa4.out) Za4.out))
                replace Za4 := Lib.hid (Nat.le_trans Za4.out (Nat.le_of_eq hEz.symm))
                have hSo := SS.out.1.other (p := ⟨W0.heap.size, 2, none⟩) Nf.out Tf.out (.slice qn (zs.length + 1) cn)
                have hBo := BB.out.putNew (p := ⟨W0.heap.size, 2, none⟩) Mf.out (.slice qn (zs.length + 1) cn)
                rw [hE13] at hSo hBo
                replace SS := Lib.hid (And.intro hSo SS.out.2)
                replace BB := Lib.hid hBo
                clear hEo hEz hEk hSo hBo
                rw [hE13]
                clear hE13 u13 v13
                refine hK.out _ _ trivial (fun hHeld => ?_)
                clear hK K
                try simp only [Act.put, List.setIfInBounds_toArray, List.set_cons_zero, List.set_cons_succ]
                refine wpAnyH_done (by kernel_rfl) ?_ _
                go_wp2_with fail
                go_roundw
                case rel =>
                  refine ⟨zs ++ [(a11, ())], k11, g, .slice qn (zs.length + 1) cn, Lib.hid ?_, Lib.hid ?_, Lib.hid ?_, Kf, Kr, SS, BB, HWz, Fa4, Lib.hid ?_⟩
                  · have h1 := variableP_shs _ _ _ R11.out; rw [List.length_drop, List.length_drop] at h1; have h2 := hzk.out; have h3 := SS.out.2; rw [List.length_append, List.length_singleton]; omega
                  · have h1 := variableP_shs _ _ _ R11.out; rw [List.length_drop, List.length_drop] at h1; have h2 := hfu.out; have h3 := SS.out.2; rw [List.length_drop] at h2 ⊢; omega
                  · rw [List.length_append, encs_app]; exact HO.out
                  · rw [HGy.out, R11.out, map_fst_snoc, Res.bind_ok, Res.bind_assoc]; simp only [Res.bind_ok, List.append_assoc, List.singleton_append]
                case measure =>
                  have h1 := variableP_shs _ _ _ R11.out; rw [List.length_drop, List.length_drop] at h1; have h2 := SS.out.1.atOf; have h3 := HPr.out.1.atOf; have h4 := SS.out.2; have h5 := HPr.out.2; rw [h2, h3]; omega
              · go_simp
                obtain ⟨Ag, hAg⟩ : ∃ A, w11.alloc (.cells #[.string (str a11.name), .int .i64 a11.kind, .int .i64 a11.size, .bool a11.secret] 108) = A := ⟨_, rfl⟩
                have VV := Lib.hid (show w.heap.size < w11.heap.size from (Array.getElem?_eq_some_iff.1 Kr.out).1)
                have Xa4 := Lib.hid Za4.out
                have Xf := Lib.hid (Array.getElem?_eq_some_iff.1 Kf.out).1
                have hBA : Below w11.heap.size w11 Ag := by rw [← hAg]; exact (Below.refl _ _).alloc (Nat.le_refl _) _
                replace Kr := Lib.hid ((hBA.block _ (Array.getElem?_eq_some_iff.1 Kr.out).1).trans Kr.out)
                replace Kf := Lib.hid ((hBA.block _ (Array.getElem?_eq_some_iff.1 Kf.out).1).trans Kf.out)
                replace Fa4 := Lib.hid (Fa4.out.bel hBA Za4.out)
                replace Za4 := Lib.hid (Nat.le_trans Za4.out hBA.size)
                replace Ya4 := Lib.hid Ya4.out
                replace HO := Lib.hid (own_bel HO.out hBA)
                replace HWz := Lib.hid (Nat.le_trans HWz.out hBA.size)
                have Kg := Lib.hid (show Ag.heap[w11.heap.size]? = some (.cells #[.string (str a11.name), .int .i64 a11.kind, .int .i64 a11.size, .bool a11.secret] 108 (0, 0)) by rw [← hAg]; exact heap_alloc_new w11 _)
                have Ng := Lib.hid (Nat.ne_of_gt SS.out.1.lt_pb)
                have Tg := Lib.hid (Nat.ne_of_gt SS.out.1.lt)
                have Uga4 := Lib.hid (show _ ≤ w11.heap.size from Xa4.out)
                have Lfg := Lib.hid (show W0.heap.size < w11.heap.size from Xf.out)
                have Mg := Lib.hid (show w.heap.size ≤ w11.heap.size from BB.out.size)
                have Vg := Lib.hid (show w.heap.size < w11.heap.size from VV.out)
                replace SS := Lib.hid (And.intro (SS.out.1.later hBA) SS.out.2)
                replace BB := Lib.hid (BB.out.trans (But.of_below hBA))
                clear hBA
                have HAg := Lib.hid hAg
                clear hAg
                rw [HAg.out]
                clear HAg
                refine hK.out _ _ trivial (fun hHeld => ?_)
                clear hK K
                try simp only [Act.put, List.setIfInBounds_toArray, List.set_cons_zero, List.set_cons_succ]
                refine wpAnyH_ready (rs := [1]) (by kernel_rfl) (by simp) ?_
                refine (AllReadyH.cons (o := ⟨some 34, .load 81 (.tmp 33), 81, "program.go:47", #[⟨0, .data⟩], none⟩) rfl (fun K hK => ?_) AllReadyH.nil)
                have lv := cell_blk Kf.out (j := 2) rfl
                go_simp
                clear lv
                refine hK.out _ _ trivial (fun hHeld => ?_)
                clear hK K
                try simp only [Act.put, List.setIfInBounds_toArray, List.set_cons_zero, List.set_cons_succ]
                refine wpAnyH_ready (rs := [5]) (by kernel_rfl) (by simp) ?_
                refine (AllReadyH.cons (o := ⟨some 38, .call { callee := .builtin .append, args := #[.tmp 34, .tmp 37], argTypes := #[81, 81] }, 81, "program.go:47", #[⟨1, .data⟩, ⟨4, .data⟩, ⟨3, .chain⟩], none⟩) rfl (fun K hK => ?_) AllReadyH.nil)
                rw [if_pos (by rfl)]
                refine wp_append_own _ _ _ 81 rfl w7.heap.size 108 i0 (.agg #[.string ByteArray.empty, .int .i64 0, .int .i64 0, .bool false]) 4 40 Tryz.underlying81 hi hz0 hz1 hz2 rfl (by decide) _ _ _ rfl HO.out ⟨w11.heap.size, 0, none⟩ 1 1 [.string (str a11.name), .int .i64 a11.kind, .int .i64 a11.size, .bool a11.secret] rfl rfl ?_ ?_ ?_ ?_ HWz.out ?_
                · intro j u hj
                  have := cell_blk Kg.out (j := j) (v := u) (by rw [← Array.getElem?_toList]; exact hj)
                  rw [add_of, Nat.zero_add]
                  exact this
                · intro u hu
                  simp only [List.mem_cons, List.not_mem_nil, or_false] at hu
                  rcases hu with rfl | rfl | rfl | rfl <;> rfl
                · have := HLn.out; unfold maxLen; omega
                · have := HLn.out; omega
                intro v' w12 hown hgrow _
                obtain ⟨qn, cn, rfl⟩ := own_slice hown
                replace Kr := Lib.hid ((hgrow.block _ (Array.getElem?_eq_some_iff.1 Kr.out).1 (fun e => Nat.ne_of_lt (Nat.lt_of_lt_of_le (HRb.out) (HO.out.lt _ e.symm).1) rfl)).trans Kr.out)
                replace Kf := Lib.hid ((hgrow.block _ (Array.getElem?_eq_some_iff.1 Kf.out).1 (fun e => Nat.ne_of_lt (Nat.lt_of_lt_of_le (HFb.out) (HO.out.lt _ e.symm).1) rfl)).trans Kf.out)
                replace Fa4 := Lib.hid (Fa4.out.grw hgrow (fun j hj => Nat.le_trans Ba4.out (HO.out.lt j hj).1) Za4.out)
                replace Za4 := Lib.hid (Nat.le_trans Za4.out hgrow.size)
                replace SS := Lib.hid (And.intro (SS.out.1.grown hgrow (fun e => by have h1 := (HO.out.lt _ e).1; have h2 := HPBl.out; omega) (fun e => by have h1 := (HO.out.lt _ e).1; have h2 := HTBl.out; omega)) SS.out.2)
                replace BB := Lib.hid (BB.out.grown hgrow (fun j hj => Nat.le_trans (Nat.le_of_lt HRb.out) (HO.out.lt j hj).1))
                replace HWz := Lib.hid (Nat.le_trans HWz.out hgrow.size)
                replace HO := Lib.hid hown
                clear hown hgrow
                refine hK.out _ _ trivial (fun hHeld => ?_)
                clear hK K
                try simp only [Act.put, List.setIfInBounds_toArray, List.set_cons_zero, List.set_cons_succ]
                refine wpAnyH_take (i := 6) (oi := ⟨some 39, .fieldAddr 83 (.tmp 3) 2, 0, "program.go:47", #[⟨0, .phase⟩, ⟨1, .phase⟩, ⟨2, .phase⟩, ⟨3, .phase⟩, ⟨4, .phase⟩, ⟨5, .phase⟩], none⟩) (v := ?_) rfl (by kernel_rfl) (by kernel_rfl) (by kernel_rfl) (fun _ _ _ h => h) (Or.inl ⟨by rfl, ?_⟩) (by assumption) ?_
                rotate_left
                · (intro w hSw; (try dsimp only at hSw); go_simp; try with_reducible rfl)
                try simp only [Act.put, List.setIfInBounds_toArray, List.set_cons_zero, List.set_cons_succ]
                refine wpAnyH_ready (rs := [7]) (by kernel_rfl) (by simp) ?_
                refine (AllReadyH.cons (o := ⟨none, .store 81 (.tmp 39) (.tmp 38), 0, "program.go:47", #[⟨6, .data⟩, ⟨5, .data⟩, ⟨5, .chain⟩, ⟨0, .phase⟩, ⟨1, .phase⟩, ⟨2, .phase⟩, ⟨3, .phase⟩, ⟨4, .phase⟩, ⟨5, .phase⟩], none⟩) rfl (fun K hK => ?_) AllReadyH.nil)
                have lu := cell_blk Kf.out (j := 2) rfl
                have lf : w12.frozen? ⟨W0.heap.size, 2, none⟩ = false := by simp [World.frozen?, Kf.out]
                go_simp
                clear lu lf
                have u13 := cell_blk Kf.out (j := 2) rfl
                have v13 : w12.frozen? ⟨W0.heap.size, 2, none⟩ = false := by simp [World.frozen?, Kf.out]
                obtain ⟨E13, hE13⟩ : ∃ E, w12.setCell ⟨W0.heap.size, 2, none⟩ (.slice qn (zs.length + 1) cn) = E := ⟨_, rfl⟩
                have hEo : ∀ j, j ≠ W0.heap.size → E13.heap[j]? = w12.heap[j]? := fun j hj => by rw [← hE13]; exact Below.heap_setCell w12 _ _ _ hj
                have hEz : E13.heap.size = w12.heap.size := by rw [← hE13]; simp [World.setCell]
                have hEk : E13.heap[W0.heap.size]? = some (.cells #[.string (str a2), .slice qa4 a4.length ca4, .slice qn (zs.length + 1) cn, .slice none 0 0, .slice none 0 0] 83 (0, 0)) := by rw [← hE13, setCell_eq_setRow _ _ _ _ 83 (0, 0) _ Kf.out]; exact setRow_heap _ _ _ _ 83 (0, 0) Kf.out
                replace Kr := Lib.hid ((hEo _ (Nat.ne_of_lt Vf.out)).trans Kr.out)
                replace Kf := Lib.hid hEk
                replace HO := Lib.hid (own_block HO.out (fun g h1 _ => hEo g (Nat.ne_of_gt (Nat.lt_of_lt_of_le HFb.out h1))))
                replace HWz := Lib.hid (Nat.le_trans HWz.out (Nat.le_of_eq hEz.symm))
                replace Fa4 := Lib.hid (Fa4.out.to (Agr.at hEz hEo (by first | exact Or.inl Ufa4.out | exact Or.inr Ufa4.out) Za4.out))
                replace Za4 := Lib.hid (Nat.le_trans Za4.out (Nat.le_of_eq hEz.symm))
                have hSo := SS.out.1.other (p := ⟨W0.heap.size, 2, none⟩) Nf.out Tf.out (.slice qn (zs.length + 1) cn)
                have hBo := BB.out.putNew (p := ⟨W0.heap.size, 2, none⟩) Mf.out (.slice qn (zs.length + 1) cn)
                rw [hE13] at hSo hBo
                replace SS := Lib.hid (And.intro hSo SS.out.2)
                replace BB := Lib.hid hBo
                clear hEo hEz hEk hSo hBo
                rw [hE13]
                clear hE13 u13 v13
                refine hK.out _ _ trivial (fun hHeld => ?_)
                clear hK K
                try simp only [Act.put, List.setIfInBounds_toArray, List.set_cons_zero, List.set_cons_succ]
                refine wpAnyH_done (by kernel_rfl) ?_ _
                go_wp2_with fail
                go_roundw
                case rel =>
                  refine ⟨zs ++ [(a11, ())], k11, g, .slice qn (zs.length + 1) cn, Lib.hid ?_, Lib.hid ?_, Lib.hid ?_, Kf, Kr, SS, BB, HWz, Fa4, Lib.hid ?_⟩
                  · have h1 := variableP_shs _ _ _ R11.out; rw [List.length_drop, List.length_drop] at h1; have h2 := hzk.out; have h3 := SS.out.2; rw [List.length_append, List.length_singleton]; omega
                  · have h1 := variableP_shs _ _ _ R11.out; rw [List.length_drop, List.length_drop] at h1; have h2 := hfu.out; have h3 := SS.out.2; rw [List.length_drop] at h2 ⊢; omega
                  · rw [List.length_append, encs_app]; exact HO.out
                  · rw [HGy.out, R11.out, map_fst_snoc, Res.bind_ok, Res.bind_assoc]; simp only [Res.bind_ok, List.append_assoc, List.singleton_append]
                case measure =>
                  have h1 := variableP_shs _ _ _ R11.out; rw [List.length_drop, List.length_drop] at h1; have h2 := SS.out.1.atOf; have h3 := HPr.out.1.atOf; have h4 := SS.out.2; have h5 := HPr.out.2; rw [h2, h3]; omega
          · have HI := Lib.hid (CI1.out kk wr SS.out.1 SS.out.2)
            rw [decide_eq_false t1] at HI
            go_wp2_with fail
            refine (HI.out).mono ?_
            rintro z w8 ⟨rfl, hBX⟩
            replace Kr := Lib.hid ((hBX.block _ (Array.getElem?_eq_some_iff.1 Kr.out).1).trans Kr.out)
            replace Kf := Lib.hid ((hBX.block _ (Array.getElem?_eq_some_iff.1 Kf.out).1).trans Kf.out)
            replace Fa4 := Lib.hid (Fa4.out.bel hBX Za4.out)
            replace Za4 := Lib.hid (Nat.le_trans Za4.out hBX.size)
            replace Ya4 := Lib.hid Ya4.out
            replace HO := Lib.hid (own_bel HO.out hBX)
            replace HWz := Lib.hid (Nat.le_trans HWz.out hBX.size)
            replace SS := Lib.hid (And.intro (SS.out.1.later hBX) SS.out.2)
            replace BB := Lib.hid (BB.out.trans (But.of_below hBX))
            clear hBX
            clear HI
            have HI := Lib.hid (CI2.out kk w8 SS.out.1 SS.out.2)
            rw [decide_eq_false t2] at HI
            go_wp2_with fail
            refine (HI.out).mono ?_
            rintro z w9 ⟨rfl, hBX⟩
            replace Kr := Lib.hid ((hBX.block _ (Array.getElem?_eq_some_iff.1 Kr.out).1).trans Kr.out)
            replace Kf := Lib.hid ((hBX.block _ (Array.getElem?_eq_some_iff.1 Kf.out).1).trans Kf.out)
            replace Fa4 := Lib.hid (Fa4.out.bel hBX Za4.out)
            replace Za4 := Lib.hid (Nat.le_trans Za4.out hBX.size)
            replace Ya4 := Lib.hid Ya4.out
            replace HO := Lib.hid (own_bel HO.out hBX)
            replace HWz := Lib.hid (Nat.le_trans HWz.out hBX.size)
            replace SS := Lib.hid (And.intro (SS.out.1.later hBX) SS.out.2)
            replace BB := Lib.hid (BB.out.trans (But.of_below hBX))
            clear hBX
            clear HI
            have HI := Lib.hid (CI3.out kk w9 SS.out.1 SS.out.2)
            rw [decide_eq_false t3] at HI
            go_wp2_with fail
            refine (HI.out).mono ?_
            rintro z w10 ⟨rfl, hBX⟩
            replace Kr := Lib.hid ((hBX.block _ (Array.getElem?_eq_some_iff.1 Kr.out).1).trans Kr.out)
            replace Kf := Lib.hid ((hBX.block _ (Array.getElem?_eq_some_iff.1 Kf.out).1).trans Kf.out)
            replace Fa4 := Lib.hid (Fa4.out.bel hBX Za4.out)
            replace Za4 := Lib.hid (Nat.le_trans Za4.out hBX.size)
            replace Ya4 := Lib.hid Ya4.out
            replace HO := Lib.hid (own_bel HO.out hBX)
            replace HWz := Lib.hid (Nat.le_trans HWz.out hBX.size)
            replace SS := Lib.hid (And.intro (SS.out.1.later hBX) SS.out.2)
            replace BB := Lib.hid (BB.out.trans (But.of_below hBX))
            clear hBX
            clear HI
            have HGy := Lib.hid (HGr.out.trans (by rw [whileP_over (by simp [isVar, t1, t2, t3]), Res.bind_ok, List.append_nil]))
            clear HGr t1 t2 t3
            have HG := Lib.hid HGy.out.symm
            obtain ⟨⟨qav, cav⟩, hv, hfr⟩ := row_fresh (A := (fun W _ => Vr.At W)) (k := 4) (OK := fun _ _ (_ : Vr) (_ : Unit) => True) (enc := (fun (x : Vr) (_ : Unit) => [.string (str x.name), .int .i64 x.kind, .int .i64 x.size, .bool x.secret])) (fun _ _ => rfl) (fun W N x s b o hok hc => ⟨hc 0 _ rfl, hc 1 _ rfl, hc 2 _ rfl, hc 3 _ rfl⟩) (fun _ _ _ _ _ _ _ => trivial) HO.out (els_true _ _ _ zs) (by have := HLn.out; omega)
            obtain rfl : v = .slice qav (zs.map Prod.fst).length cav := hv
            have Fav := Lib.hid (show Fresh w7.heap.size w10.heap.size w10 (fun W N => (zs.map Prod.fst).length ≤ cav ∧ RowIn N (Vr.At W) 4 (zs.map Prod.fst) qav) from hfr)
            have Gav := Lib.hid HPBl.out
            have Zav := Lib.hid (Nat.le_refl w10.heap.size)
            have Yav := Lib.hid (Nat.le_of_lt HRb.out)
            have Vav := Lib.hid HRb.out
            have Ufav := Lib.hid HFb.out
            clear hfr
            have HOx := HO
            clear HO HOx
            go_wp2_with fail
            have Va11 := Lib.hid (show w.heap.size < w10.heap.size from (Array.getElem?_eq_some_iff.1 Kr.out).1)
            have Ufa11 := Lib.hid (show W0.heap.size < w10.heap.size from (Array.getElem?_eq_some_iff.1 Kf.out).1)
            refine (CB.out kk w10 SS.out.1 SS.out.2).mono ?_
            intro z w11 hc
            rcases hc with ⟨k11, a11, s11, hr, hkk, hp, hb, hz, hR⟩ | ⟨k11, e11, t11, hr, hp, hb, hz⟩
            rotate_left
            · subst hz
              have HN := Lib.hid (show Post RFnc G p 0 w (WrongIs (e11 : Int) t11) w11 from .no k11 e11 t11 (by rw [← HG.out]; simp only [hr, Res.bind_no]) hp (BB.out.trans hb) rfl)
              clear hr hp hb
              unfold WrongIs
              go_wp2_with fail
              exact ⟨rfl, HN.out⟩
            replace Kr := Lib.hid ((hb.block _ (Array.getElem?_eq_some_iff.1 Kr.out).1 Nr.out).trans Kr.out)
            replace Kf := Lib.hid ((hb.block _ (Array.getElem?_eq_some_iff.1 Kf.out).1 Nf.out).trans Kf.out)
            replace Fa4 := Lib.hid (Fa4.out.but hb Ga4.out Za4.out)
            replace Za4 := Lib.hid (Nat.le_trans Za4.out hb.size)
            replace Ya4 := Lib.hid Ya4.out
            replace Fav := Lib.hid (Fav.out.but hb Gav.out Zav.out)
            replace Zav := Lib.hid (Nat.le_trans Zav.out hb.size)
            replace Yav := Lib.hid Yav.out
            obtain ⟨qa11, ca11⟩ := s11
            obtain rfl : z = .returned (.slice qa11 a11.len ca11) := hz
            have Fa11 := Lib.hid (show Fresh w10.heap.size w11.heap.size w11 (fun W N => a11.In W N qa11) from hR)
            have Ga11 := Lib.hid SS.out.1.lt_pb
            have Za11 := Lib.hid (Nat.le_refl w11.heap.size)
            have Ya11 := Lib.hid (show w.heap.size ≤ w10.heap.size from BB.out.size)
            have R11 := Lib.hid hr
            replace SS := Lib.hid (And.intro hp hkk)
            replace BB := Lib.hid (BB.out.trans hb)
            clear hr hkk hp hb hR
            have u12 := cell_blk Kf.out (j := 4) rfl
            have v12 : w11.frozen? ⟨W0.heap.size, 4, none⟩ = false := by simp [World.frozen?, Kf.out]
            obtain ⟨E12, hE12⟩ : ∃ E, w11.setCell ⟨W0.heap.size, 4, none⟩ (.slice qa11 a11.len ca11) = E := ⟨_, rfl⟩
            have hEo : ∀ j, j ≠ W0.heap.size → E12.heap[j]? = w11.heap[j]? := fun j hj => by rw [← hE12]; exact Below.heap_setCell w11 _ _ _ hj
            have hEz : E12.heap.size = w11.heap.size := by rw [← hE12]; simp [World.setCell]
            have hEk : E12.heap[W0.heap.size]? = some (.cells #[.string (str a2), .slice qa4 a4.length ca4, .slice qav (zs.map Prod.fst).length cav, .slice none 0 0, .slice qa11 a11.len ca11] 83 (0, 0)) := by rw [← hE12, setCell_eq_setRow _ _ _ _ 83 (0, 0) _ Kf.out]; exact setRow_heap _ _ _ _ 83 (0, 0) Kf.out
            replace Kr := Lib.hid ((hEo _ (Nat.ne_of_lt Vf.out)).trans Kr.out)
            replace Kf := Lib.hid hEk
            replace Fa4 := Lib.hid (Fa4.out.to (Agr.at hEz hEo (by first | exact Or.inl Ufa4.out | exact Or.inr Ufa4.out) Za4.out))
            replace Za4 := Lib.hid (Nat.le_trans Za4.out (Nat.le_of_eq hEz.symm))
            replace Fav := Lib.hid (Fav.out.to (Agr.at hEz hEo (by first | exact Or.inl Ufav.out | exact Or.inr Ufav.out) Zav.out))
            replace Zav := Lib.hid (Nat.le_trans Zav.out (Nat.le_of_eq hEz.symm))
            replace Fa11 := Lib.hid (Fa11.out.to (Agr.at hEz hEo (by first | exact Or.inl Ufa11.out | exact Or.inr Ufa11.out) Za11.out))
            replace Za11 := Lib.hid (Nat.le_trans Za11.out (Nat.le_of_eq hEz.symm))
            have hSo := SS.out.1.other (p := ⟨W0.heap.size, 4, none⟩) Nf.out Tf.out (.slice qa11 a11.len ca11)
            have hBo := BB.out.putNew (p := ⟨W0.heap.size, 4, none⟩) Mf.out (.slice qa11 a11.len ca11)
            rw [hE12] at hSo hBo
            replace SS := Lib.hid (And.intro hSo SS.out.2)
            replace BB := Lib.hid hBo
            clear hEo hEz hEk hSo hBo
            go_upto_region 11 with fail
            try rw [hE12]
            clear hE12 u12 v12
            have hrz := (Array.getElem?_eq_some_iff.1 Kr.out).1
            have HRz := Lib.hid hrz
            clear hrz
            go_wp2_with (first | (refine wpl_load rfl 83 _ rfl (W0.heap.size) 0 rfl #[.string (str a2), .slice qa4 a4.length ca4, .slice qav (zs.map Prod.fst).length cav, .slice none 0 0, .slice qa11 a11.len ca11] _ (range_block Kf.out) Tryz.underlying83 rfl infoFn ?_) | (refine wpl_put rfl _ _ _ rfl rfl w.heap.size 0 (.agg #[.string (str a2), .slice qa4 a4.length ca4, .slice qav (zs.map Prod.fst).length cav, .slice none 0 0, .slice qa11 a11.len ca11]) rfl rfl _ _ Kr.out (by exact Nat.le_of_ble_eq_true rfl) infoFn rfl ?_; intro wF hF hbF hzF))
            have hG : wF.heap[w.heap.size]? = some (.cells #[.string (str a2), .slice qa4 a4.length ca4, .slice qav (zs.map Prod.fst).length cav, .slice none 0 0, .slice qa11 a11.len ca11] 83 (0, 0)) := hF.trans (congrArg (fun a => some (Obj.cells a 83 (0, 0))) (putA_all (cur := #[.string ⟨#[]⟩, .slice none 0 0, .slice none 0 0, .slice none 0 0, .slice none 0 0]) (vs := #[.string (str a2), .slice qa4 a4.length ca4, .slice qav (zs.map Prod.fst).length cav, .slice none 0 0, .slice qa11 a11.len ca11]) rfl))
            clear hF
            refine bodyPost_ret (v := .agg #[.string (str a2), .slice qa4 a4.length ca4, .slice qav (zs.map Prod.fst).length cav, .slice none 0 0, .slice qa11 a11.len ca11]) ?_ rfl ?_
            · have y0 := cell_blk hG (j := 0) rfl
              have y1 := cell_blk hG (j := 1) rfl
              have y2 := cell_blk hG (j := 2) rfl
              have y3 := cell_blk hG (j := 3) rfl
              have y4 := cell_blk hG (j := 4) rfl
              simp [results, Tryz.results90, go_sem, y0, y1, y2, y3, y4]
            · refine .ok k11 ⟨a2, a4, zs.map Prod.fst, [], a11⟩ ⟨qa4, qav, none, qa11, ca4, cav, 0, ca11⟩ (by rw [← HG.out]; first | rfl | simp only [R11.out, Res.bind_ok] | trace_state) SS.out.2 (SS.out.1.aside hbF Nr.out Nr2.out) (BB.out.fin hbF (Nat.le_refl _)) rfl ?_
              intro W hW
              have oa4 := ((Fa4.out.asd hbF (by first | exact Or.inl Va4.out | exact Or.inr Va4.out) Za4.out).fin Ya4.out (Nat.le_trans Za4.out hbF.size) (fun W h => ⟨h.1, h.2.imp (Nat.le_trans Za4.out hbF.size) (fun x b o _ ha => ha)⟩)) W hW
              have oav := ((Fav.out.asd hbF (by first | exact Or.inl Vav.out | exact Or.inr Vav.out) Zav.out).fin Yav.out (Nat.le_trans Zav.out hbF.size) (fun W h => ⟨h.1, h.2.imp (Nat.le_trans Zav.out hbF.size) (fun x b o _ ha => ha)⟩)) W hW
              have oa11 := ((Fa11.out.asd hbF (by first | exact Or.inl Va11.out | exact Or.inr Va11.out) Za11.out).fin Ya11.out (Nat.le_trans Za11.out hbF.size) (fun W h => Sts.In.up h (Nat.le_trans Za11.out hbF.size))) W hW
              exact ⟨oa4.2, oav.2, names_nil _ _ _, oa11⟩
end Go.Proofs.YtchbnkepmeelkaaGreatDoor
