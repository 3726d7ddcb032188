/- Expressions: a sign, an index, two, pick. -/
import Derived.Test.YtchbnkepmeelkaaGreatDoorPC
import Derived.Test.YtchbnkepmeelkaaGreatDoorPE
namespace Go.Proofs.YtchbnkepmeelkaaGreatDoor
open Go.RowKit

theorem heap_set4 (w : World) (k b : Nat) (hk : k ≠ b) (v0 v1 v2 v3 : Value) : ((((w.setCell ⟨b, 0, none⟩ v0).setCell ⟨b, 1, none⟩ v1).setCell ⟨b, 2, none⟩ v2).setCell ⟨b, 3, none⟩ v3).heap[k]? = w.heap[k]? := by
  rw [Below.heap_setCell _ _ _ _ hk, Below.heap_setCell _ _ _ _ hk, Below.heap_setCell _ _ _ _ hk, Below.heap_setCell _ _ _ _ hk]
theorem opOf_at (s : List UInt8) : opOf s = opAt s := by
  unfold opOf opAt
  have : signsL = signT := rfl
  rw [this]
  congr 2
  funext x
  by_cases h : x.2 = s
  · rw [decide_eq_true h, h]; exact (beq_self_eq_true _).symm
  · rw [decide_eq_false h]; exact (beq_eq_false_iff_ne.2 h).symm
set_option maxRecDepth 100000 in
set_option maxHeartbeats 3200000 in
theorem sign_p (p : Pp) (k d : Nat) (w : World) (h : Ps w p.pb p.tb p.tf p.tc p.ts k d) (hk : k < p.ts.length) (hE : Ends p.ts) :
    Calls Tryz.prog 227 #[.pointer (some ⟨p.pb, 0, none⟩)] w (Post RInt (signP (p.ts.drop k)) p d w) := by
  obtain ⟨t, ht⟩ := tok_at hk
  have hh := drop_hd ht
  have hl := h.ln
  have HH := Lib.hid (here_any p.pb p.tb p.tf p.tc k d p.ts t w h ht)
  unfold Tok.val at HH
  have hfl := fld1 (t.kind : Int) (t.word : Int) (t.line : Int) (t.col : Int) (str t.text)
  have HO := Lib.hid (fun (w' : World) => op_sign t.text w')
  have HP := Lib.hid h
  have HW := Lib.hid (fun (w' : World) (h' : Ps w' p.pb p.tb p.tf p.tc p.ts k d) => wrong_any 15 p.pb p.tb p.tf p.tc k d p.ts t w' h' ht)
  have hS := opOf_at t.text
  cases ho : opAt t.text with
  | none =>
    have HN := Lib.hid (show signP (p.ts.drop k) = .no 15 t by unfold signP; rw [hh, hS, ho])
    have HO2 := Lib.hid (fun w' => (show Calls Tryz.prog 250 #[.string (str t.text)] w' fun e w'' => e = .returned (.tuple #[.int .i64 (opV t.text), .bool false]) ∧ Below w'.heap.size w' w'' by have := HO.out w'; rw [ho] at this; exact this))
    clear h hk hE hh ht HO hS ho
    go_enter Tryz.func227, Tryz.ntmps227
    go_wp2_with fail
    refine HH.out.mono ?_
    rintro z w1 ⟨rfl, hB1⟩
    have HB1 := Lib.hid hB1
    clear hB1
    go_wp2_with fail
    refine (HO2.out w1).mono ?_
    rintro z w2 ⟨rfl, hB2⟩
    have HB2 := Lib.hid (HB1.out.trans (hB2.mono HB1.out.size))
    clear hB2
    go_wp2_with fail
    refine (HW.out w2 (HP.out.later HB2.out)).mono ?_
    rintro z w3 ⟨rfl, hB3⟩
    have HB3 := Lib.hid (HB2.out.trans (hB3.mono HB2.out.size))
    clear hB3
    go_wp2_with fail
    exact ⟨rfl, .no k 15 t HN.out (HP.out.later HB3.out) (But.of_below HB3.out) rfl⟩
  | some o =>
    have hne : t.text ≠ [] := by
      intro h0
      rw [h0] at ho
      rw [show opAt [] = none by decide] at ho; cases ho
    have HN := Lib.hid (show signP (p.ts.drop k) = .ok o (p.ts.drop (k + 1)) by unfold signP; rw [hh, hS, ho, drop_tl])
    have HK := Lib.hid (hE.next ht (.inl hne))
    have HO2 := Lib.hid (fun w' => (show Calls Tryz.prog 250 #[.string (str t.text)] w' fun e w'' => e = .returned (.tuple #[.int .i64 o, .bool true]) ∧ Below w'.heap.size w' w'' by
      have := HO.out w'
      rw [show opV t.text = o by unfold opV; rw [ho]; rfl, ho] at this
      exact this))
    have hw : IntKind.i64.wrap ((k : Int) + 1) = ((k + 1 : Nat) : Int) := by simp [IntKind.wrap, IntKind.bits, IntKind.signed]; omega
    have hw2 : ((k + 1 : Nat) : Int) = (k : Int) + 1 := by omega
    clear h hk hE hh ht HO hS ho hne
    go_enter Tryz.func227, Tryz.ntmps227
    go_wp2_with fail
    refine HH.out.mono ?_
    rintro z w1 ⟨rfl, hB1⟩
    have HB1 := Lib.hid hB1
    clear hB1
    go_wp2_with fail
    refine (HO2.out w1).mono ?_
    rintro z w2 ⟨rfl, hB2⟩
    have HB2 := Lib.hid (HB1.out.trans (hB2.mono HB1.out.size))
    have h1 := HP.out.later HB2.out
    have HG := Lib.hid (h1.go (k + 1))
    have c1 : w2.cell? ⟨p.pb, 1, none⟩ = some (.int .i64 (k : Int)) := cell_blk h1.pr rfl
    have f1 : w2.frozen? ⟨p.pb, 1, none⟩ = false := by simp [World.frozen?, h1.pr]
    clear hB2 h1
    go_wp2_with fail
    go_ret
    first
      | exact .ok (k + 1) o () HN.out HK.out HG.out.1 ((But.of_below HB2.out).trans HG.out.2) rfl (fun _ _ => trivial)
      | (rw [← hw2]; exact .ok (k + 1) o () HN.out HK.out HG.out.1 ((But.of_below HB2.out).trans HG.out.2) rfl (fun _ _ => trivial))

theorem Agr.at {A B : Nat} {w w' : World} {b : Nat} (hz : w'.heap.size = w.heap.size) (ho : ∀ j, j ≠ b → w'.heap[j]? = w.heap[j]?) (h : b < A ∨ B ≤ b) (hB : B ≤ w.heap.size) : Agr A B w w' :=
  ⟨by omega, fun k h1 h2 => ho k (by omega)⟩

set_option maxRecDepth 100000 in
set_option maxHeartbeats 3200000 in
theorem index_p (n : Nat) (p : Pp) (k d : Nat) (w : World) (h : Ps w p.pb p.tb p.tf p.tc p.ts k d) (hk : k < p.ts.length) (hE : Ends p.ts) (HX : ExprC p n d) :
    Calls Tryz.prog 165 #[.pointer (some ⟨p.pb, 0, none⟩)] w (Post RExpr (indexP n (p.ts.drop k)) p d w) := by
  have hpb := h.lt_pb
  have C1 := Lib.hid (fun (k : Nat) (w : World) (h : Ps w p.pb p.tb p.tf p.tc p.ts k d) (hk : k < p.ts.length) => name_p p k d w h hk hE)
  have C2 := Lib.hid (fun (k : Nat) (w : World) (h : Ps w p.pb p.tb p.tf p.tc p.ts k d) (hk : k < p.ts.length) => place_p n p k d w h hk hE HX)
  obtain ⟨W0, hW0⟩ : ∃ W0, w.alloc (.cells #[.int .i64 0, .int .u64 0, .string ⟨#[]⟩, .slice none 0 0] 39) = W0 := ⟨_, rfl⟩
  have hB0 : Below w.heap.size w W0 := by rw [← hW0]; exact (Below.refl _ _).alloc (Nat.le_refl _) _
  have Kr := Lib.hid (show W0.heap[w.heap.size]? = some (.cells #[.int .i64 0, .int .u64 0, .string ⟨#[]⟩, .slice none 0 0] 39 (0, 0)) by rw [← hW0]; exact heap_alloc_new w _)
  have Nr := Lib.hid (Nat.ne_of_gt hpb)
  have Nr2 := Lib.hid (Nat.ne_of_gt h.lt)
  have BB := Lib.hid (But.of_below (g := p.pb) hB0)
  have SS := Lib.hid (And.intro (h.later hB0) hk)
  clear hB0
  have PB := Lib.hid hpb
  clear h hk hE hpb
  generalize hG : (indexP n (p.ts.drop k)) = G
  unfold indexP at hG
  have HG := Lib.hid hG
  clear hG
  go_enter Tryz.func165, Tryz.ntmps165
  go_wp2_with fail
  try rw [hW0]
  clear hW0
  have Va1 := Lib.hid (show w.heap.size < W0.heap.size from (Array.getElem?_eq_some_iff.1 Kr.out).1)
  refine (C1.out k W0 SS.out.1 SS.out.2).mono ?_
  intro z w1 hc
  rcases hc with ⟨k1, a1, s1, hr, hkk, hp, hb, hz, hR⟩ | ⟨k1, e1, t1, hr, hp, hb, hz⟩
  rotate_left
  · subst hz
    have HN := Lib.hid (show Post RExpr G p d w (WrongIs (e1 : Int) t1) w1 from .no k1 e1 t1 (by rw [← HG.out]; simp only [hr, Res.bind_no]) hp (BB.out.trans hb) rfl)
    clear hr hp hb
    unfold WrongIs
    go_wp2_with fail
    exact ⟨rfl, HN.out⟩
  replace Kr := Lib.hid ((hb.block _ (Array.getElem?_eq_some_iff.1 Kr.out).1 Nr.out).trans Kr.out)
  obtain rfl : z = .returned (.string (str a1)) := hz
  have R1 := Lib.hid hr
  replace SS := Lib.hid (And.intro hp hkk)
  replace BB := Lib.hid (BB.out.trans hb)
  clear hr hkk hp hb hR
  obtain ⟨Ae, hAe⟩ : ∃ A, w1.alloc (.cells #[.int .i64 3, .int .u64 0, .string (str a1), .slice none 0 0] 39) = A := ⟨_, rfl⟩
  have VV := Lib.hid (show w.heap.size < w1.heap.size from (Array.getElem?_eq_some_iff.1 Kr.out).1)
  have hBA : Below w1.heap.size w1 Ae := by rw [← hAe]; exact (Below.refl _ _).alloc (Nat.le_refl _) _
  replace Kr := Lib.hid ((hBA.block _ (Array.getElem?_eq_some_iff.1 Kr.out).1).trans Kr.out)
  have Ke := Lib.hid (show Ae.heap[w1.heap.size]? = some (.cells #[.int .i64 3, .int .u64 0, .string (str a1), .slice none 0 0] 39 (0, 0)) by rw [← hAe]; exact heap_alloc_new w1 _)
  have Ne := Lib.hid (Nat.ne_of_gt SS.out.1.lt_pb)
  have Te := Lib.hid (Nat.ne_of_gt SS.out.1.lt)
  have Me := Lib.hid (show w.heap.size ≤ w1.heap.size from BB.out.size)
  have Ve := Lib.hid (show w.heap.size < w1.heap.size from VV.out)
  replace SS := Lib.hid (And.intro (SS.out.1.later hBA) SS.out.2)
  replace BB := Lib.hid (BB.out.trans (But.of_below hBA))
  clear hBA
  have HAe := Lib.hid hAe
  clear hAe
  go_wp2_with fail
  try rw [HAe.out]
  clear HAe
  have Va2 := Lib.hid (show w.heap.size < Ae.heap.size from (Array.getElem?_eq_some_iff.1 Kr.out).1)
  have Uea2 := Lib.hid (show w1.heap.size < Ae.heap.size from (Array.getElem?_eq_some_iff.1 Ke.out).1)
  refine (C2.out k1 Ae SS.out.1 SS.out.2).mono ?_
  intro z w2 hc
  rcases hc with ⟨k2, a2, s2, hr, hkk, hp, hb, hz, hR⟩ | ⟨k2, e2, t2, hr, hp, hb, hz⟩
  rotate_left
  · subst hz
    have HN := Lib.hid (show Post RExpr G p d w (WrongIs (e2 : Int) t2) w2 from .no k2 e2 t2 (by rw [← HG.out]; simp only [R1.out, hr, Res.bind_ok, Res.bind_no]) hp (BB.out.trans hb) rfl)
    clear hr hp hb
    unfold WrongIs
    go_wp2_with fail
    exact ⟨rfl, HN.out⟩
  replace Kr := Lib.hid ((hb.block _ (Array.getElem?_eq_some_iff.1 Kr.out).1 Nr.out).trans Kr.out)
  replace Ke := Lib.hid ((hb.block _ (Array.getElem?_eq_some_iff.1 Ke.out).1 Ne.out).trans Ke.out)
  obtain ⟨qa2, ca2⟩ := s2
  obtain rfl : z = .returned (.agg #[.int .i64 a2.op, .int .u64 (a2.word : Int), .string (str a2.name), .slice qa2 a2.args.len ca2]) := hz
  have Fa2 := Lib.hid (show Fresh Ae.heap.size w2.heap.size w2 (fun W N => a2.Ok W N qa2) from hR)
  have Ga2 := Lib.hid SS.out.1.lt_pb
  have Za2 := Lib.hid (Nat.le_refl w2.heap.size)
  have Ya2 := Lib.hid (show w.heap.size ≤ Ae.heap.size from BB.out.size)
  have R2 := Lib.hid hr
  replace SS := Lib.hid (And.intro hp hkk)
  replace BB := Lib.hid (BB.out.trans hb)
  clear hr hkk hp hb hR
  obtain ⟨Ag, hAg⟩ : ∃ A, w2.alloc (.cells #[.int .i64 a2.op, .int .u64 (a2.word : Int), .string (str a2.name), .slice qa2 a2.args.len ca2] 39) = A := ⟨_, rfl⟩
  have VV := Lib.hid (show w.heap.size < w2.heap.size from (Array.getElem?_eq_some_iff.1 Kr.out).1)
  have Xa2 := Lib.hid Za2.out
  have Xe := Lib.hid (Array.getElem?_eq_some_iff.1 Ke.out).1
  have hBA : Below w2.heap.size w2 Ag := by rw [← hAg]; exact (Below.refl _ _).alloc (Nat.le_refl _) _
  replace Kr := Lib.hid ((hBA.block _ (Array.getElem?_eq_some_iff.1 Kr.out).1).trans Kr.out)
  replace Ke := Lib.hid ((hBA.block _ (Array.getElem?_eq_some_iff.1 Ke.out).1).trans Ke.out)
  replace Fa2 := Lib.hid (Fa2.out.bel hBA Za2.out)
  replace Za2 := Lib.hid (Nat.le_trans Za2.out hBA.size)
  replace Ya2 := Lib.hid Ya2.out
  have Kg := Lib.hid (show Ag.heap[w2.heap.size]? = some (.cells #[.int .i64 a2.op, .int .u64 (a2.word : Int), .string (str a2.name), .slice qa2 a2.args.len ca2] 39 (0, 0)) by rw [← hAg]; exact heap_alloc_new w2 _)
  have Ng := Lib.hid (Nat.ne_of_gt SS.out.1.lt_pb)
  have Tg := Lib.hid (Nat.ne_of_gt SS.out.1.lt)
  have Uga2 := Lib.hid (show _ ≤ w2.heap.size from Xa2.out)
  have Leg := Lib.hid (show w1.heap.size < w2.heap.size from Xe.out)
  have Mg := Lib.hid (show w.heap.size ≤ w2.heap.size from BB.out.size)
  have Vg := Lib.hid (show w.heap.size < w2.heap.size from VV.out)
  replace SS := Lib.hid (And.intro (SS.out.1.later hBA) SS.out.2)
  replace BB := Lib.hid (BB.out.trans (But.of_below hBA))
  clear hBA
  have u3 := cell_blk Ke.out (j := 3) rfl
  have v3 : Ag.frozen? ⟨w1.heap.size, 3, none⟩ = false := by simp [World.frozen?, Ke.out]
  obtain ⟨E3, hE3⟩ : ∃ E, Ag.setCell ⟨w1.heap.size, 3, none⟩ (.slice (some ⟨w2.heap.size, 0, none⟩) 1 1) = E := ⟨_, rfl⟩
  have hEo : ∀ j, j ≠ w1.heap.size → E3.heap[j]? = Ag.heap[j]? := fun j hj => by rw [← hE3]; exact Below.heap_setCell Ag _ _ _ hj
  have hEz : E3.heap.size = Ag.heap.size := by rw [← hE3]; simp [World.setCell]
  have hEk : E3.heap[w1.heap.size]? = some (.cells #[.int .i64 3, .int .u64 0, .string (str a1), .slice (some ⟨w2.heap.size, 0, none⟩) 1 1] 39 (0, 0)) := by rw [← hE3, setCell_eq_setRow _ _ _ _ 39 (0, 0) _ Ke.out]; exact setRow_heap _ _ _ _ 39 (0, 0) Ke.out
  replace Kr := Lib.hid ((hEo _ (Nat.ne_of_lt Ve.out)).trans Kr.out)
  replace Kg := Lib.hid ((hEo _ (Nat.ne_of_gt Leg.out)).trans Kg.out)
  replace Ke := Lib.hid hEk
  replace Fa2 := Lib.hid (Fa2.out.to (Agr.at hEz hEo (by first | exact Or.inl Uea2.out | exact Or.inr Uea2.out) Za2.out))
  replace Za2 := Lib.hid (Nat.le_trans Za2.out (Nat.le_of_eq hEz.symm))
  have hSo := SS.out.1.other (p := ⟨w1.heap.size, 3, none⟩) Ne.out Te.out (.slice (some ⟨w2.heap.size, 0, none⟩) 1 1)
  have hBo := BB.out.putNew (p := ⟨w1.heap.size, 3, none⟩) Me.out (.slice (some ⟨w2.heap.size, 0, none⟩) 1 1)
  rw [hE3] at hSo hBo
  replace SS := Lib.hid (And.intro hSo SS.out.2)
  replace BB := Lib.hid hBo
  clear hEo hEz hEk hSo hBo
  go_upto_region 3 with fail
  try rw [hAg]
  clear hAg
  try rw [hE3]
  clear hE3 u3 v3
  have l0 := cell_blk Ke.out (j := 0) rfl
  have l1 := cell_blk Ke.out (j := 1) rfl
  have l2 := cell_blk Ke.out (j := 2) rfl
  have l3 := cell_blk Ke.out (j := 3) rfl
  have z0 := cell_blk Kr.out (j := 0) rfl
  have z1 := cell_blk Kr.out (j := 1) rfl
  have z2 := cell_blk Kr.out (j := 2) rfl
  have z3 := cell_blk Kr.out (j := 3) rfl
  have hf : ∀ j, E3.frozen? ⟨w.heap.size, j, none⟩ = false := fun j => by simp [World.frozen?, Kr.out]
  have f0 := hf 0
  have f1 := hf 1
  have f2 := hf 2
  have f3 := hf 3
  clear hf
  have HR := Lib.hid (set4 Kr.out (.int .i64 3) (.int .u64 0) (.string (str a1)) (.slice (some ⟨w2.heap.size, 0, none⟩) 1 1))
  go_wp2_with fail
  have hF := HR.out
  refine bodyPost_ret (v := .agg #[.int .i64 3, .int .u64 0, .string (str a1), .slice (some ⟨w2.heap.size, 0, none⟩) 1 1]) ?_ rfl ?_
  · have y0 := cell_blk hF (j := 0) rfl
    have y1 := cell_blk hF (j := 1) rfl
    have y2 := cell_blk hF (j := 2) rfl
    have y3 := cell_blk hF (j := 3) rfl
    generalize (((E3.setCell ⟨w.heap.size, 0, none⟩ (.int .i64 3)).setCell ⟨w.heap.size, 1, none⟩ (.int .u64 0)).setCell ⟨w.heap.size, 2, none⟩ (.string (str a1))).setCell ⟨w.heap.size, 3, none⟩ (.slice (some ⟨w2.heap.size, 0, none⟩) 1 1) = F at *
    simp [results, Tryz.results165, go_sem, y0, y1, y2, y3]
  · have hn1 : w.heap.size ≠ p.pb := Nr.out
    have hn2 : w.heap.size ≠ p.tb := Nr2.out
    refine .ok k2 (.mk 3 0 a1 (.cons a2 .nil)) (some ⟨w2.heap.size, 0, none⟩, 1) (by rw [← HG.out]; first | rfl | simp only [R1.out, R2.out, Res.bind_ok] | trace_state) SS.out.2 ?_ ?_ rfl ?_
    · exact (((SS.out.1.other (p := ⟨w.heap.size, 0, none⟩) hn1 hn2 _).other (p := ⟨w.heap.size, 1, none⟩) hn1 hn2 _).other (p := ⟨w.heap.size, 2, none⟩) hn1 hn2 _).other (p := ⟨w.heap.size, 3, none⟩) hn1 hn2 _
    · exact (((BB.out.putNew (p := ⟨w.heap.size, 0, none⟩) (Nat.le_refl _) _).putNew (p := ⟨w.heap.size, 1, none⟩) (Nat.le_refl _) _).putNew (p := ⟨w.heap.size, 2, none⟩) (Nat.le_refl _) _).putNew (p := ⟨w.heap.size, 3, none⟩) (Nat.le_refl _) _
    · rw [size4]
      intro W hW
      have hgz : w2.heap.size < E3.heap.size := (Array.getElem?_eq_some_iff.1 Kg.out).1
      have hgr : w2.heap.size ≠ w.heap.size := Nat.ne_of_gt Vg.out
      have hgW := (hW.2 _ Mg.out hgz).trans ((heap_set4 _ _ _ hgr _ _ _ _).trans Kg.out)
      have oa2 : a2.Ok W E3.heap.size qa2 := ((Fa2.out.set4 Va2.out Za2.out _ _ _ _).fin Ya2.out Za2.out (fun W h => Ex.Ok.up h Za2.out)) W hW
      exact ⟨⟨by simp [Ex.args, Exs.len], .inr ⟨_, 0, rfl, hgz, Ex.At.of (cell_blk hgW (j := 0) rfl) (cell_blk hgW (j := 1) rfl) (cell_blk hgW (j := 2) rfl) (cell_blk hgW (j := 3) rfl) oa2, trivial⟩⟩, show (0 : Nat) < 18446744073709551616 by decide⟩

set_option maxRecDepth 100000 in
set_option maxHeartbeats 3200000 in
theorem two_p (n : Nat) (p : Pp) (k d : Nat) (w : World) (h : Ps w p.pb p.tb p.tf p.tc p.ts k d) (hk : k < p.ts.length) (hE : Ends p.ts) (HX : ExprC p n d) :
    Calls Tryz.prog 167 #[.pointer (some ⟨p.pb, 0, none⟩)] w (Post RExpr (twoP n (p.ts.drop k)) p d w) := by
  have hpb := h.lt_pb
  have C1 := Lib.hid (HX)
  have C2 := Lib.hid (fun (k : Nat) (w : World) (h : Ps w p.pb p.tb p.tf p.tc p.ts k d) (hk : k < p.ts.length) => sign_p p k d w h hk hE)
  have C3 := Lib.hid (fun (k : Nat) (w : World) (h : Ps w p.pb p.tb p.tf p.tc p.ts k d) (hk : k < p.ts.length) => want_p [41] p k d w h hk hE (by decide))
  obtain ⟨W0, hW0⟩ : ∃ W0, w.alloc (.cells #[.int .i64 0, .int .u64 0, .string ⟨#[]⟩, .slice none 0 0] 39) = W0 := ⟨_, rfl⟩
  have hB0 : Below w.heap.size w W0 := by rw [← hW0]; exact (Below.refl _ _).alloc (Nat.le_refl _) _
  have Kr := Lib.hid (show W0.heap[w.heap.size]? = some (.cells #[.int .i64 0, .int .u64 0, .string ⟨#[]⟩, .slice none 0 0] 39 (0, 0)) by rw [← hW0]; exact heap_alloc_new w _)
  have Nr := Lib.hid (Nat.ne_of_gt hpb)
  have Nr2 := Lib.hid (Nat.ne_of_gt h.lt)
  have BB := Lib.hid (But.of_below (g := p.pb) hB0)
  have SS := Lib.hid (And.intro (h.later hB0) hk)
  clear hB0
  have PB := Lib.hid hpb
  clear h hk hE hpb
  generalize hG : (twoP n (p.ts.drop k)) = G
  unfold twoP at hG
  have HG := Lib.hid hG
  clear hG
  go_enter Tryz.func167, Tryz.ntmps167
  go_wp2_with fail
  try rw [hW0]
  clear hW0
  have Va1 := Lib.hid (show w.heap.size < W0.heap.size from (Array.getElem?_eq_some_iff.1 Kr.out).1)
  refine (C1.out k W0 SS.out.1 SS.out.2).mono ?_
  intro z w1 hc
  rcases hc with ⟨k1, a1, s1, hr, hkk, hp, hb, hz, hR⟩ | ⟨k1, e1, t1, hr, hp, hb, hz⟩
  rotate_left
  · subst hz
    have HN := Lib.hid (show Post RExpr G p d w (WrongIs (e1 : Int) t1) w1 from .no k1 e1 t1 (by rw [← HG.out]; simp only [hr, Res.bind_no]) hp (BB.out.trans hb) rfl)
    clear hr hp hb
    unfold WrongIs
    go_wp2_with fail
    exact ⟨rfl, HN.out⟩
  replace Kr := Lib.hid ((hb.block _ (Array.getElem?_eq_some_iff.1 Kr.out).1 Nr.out).trans Kr.out)
  obtain ⟨qa1, ca1⟩ := s1
  obtain rfl : z = .returned (.agg #[.int .i64 a1.op, .int .u64 (a1.word : Int), .string (str a1.name), .slice qa1 a1.args.len ca1]) := hz
  have Fa1 := Lib.hid (show Fresh W0.heap.size w1.heap.size w1 (fun W N => a1.Ok W N qa1) from hR)
  have Ga1 := Lib.hid SS.out.1.lt_pb
  have Za1 := Lib.hid (Nat.le_refl w1.heap.size)
  have Ya1 := Lib.hid (show w.heap.size ≤ W0.heap.size from BB.out.size)
  have R1 := Lib.hid hr
  replace SS := Lib.hid (And.intro hp hkk)
  replace BB := Lib.hid (BB.out.trans hb)
  clear hr hkk hp hb hR
  obtain ⟨Ae, hAe⟩ : ∃ A, w1.alloc (.cells #[.int .i64 a1.op, .int .u64 (a1.word : Int), .string (str a1.name), .slice qa1 a1.args.len ca1] 39) = A := ⟨_, rfl⟩
  have VV := Lib.hid (show w.heap.size < w1.heap.size from (Array.getElem?_eq_some_iff.1 Kr.out).1)
  have Xa1 := Lib.hid Za1.out
  have hBA : Below w1.heap.size w1 Ae := by rw [← hAe]; exact (Below.refl _ _).alloc (Nat.le_refl _) _
  replace Kr := Lib.hid ((hBA.block _ (Array.getElem?_eq_some_iff.1 Kr.out).1).trans Kr.out)
  replace Fa1 := Lib.hid (Fa1.out.bel hBA Za1.out)
  replace Za1 := Lib.hid (Nat.le_trans Za1.out hBA.size)
  replace Ya1 := Lib.hid Ya1.out
  have Ke := Lib.hid (show Ae.heap[w1.heap.size]? = some (.cells #[.int .i64 a1.op, .int .u64 (a1.word : Int), .string (str a1.name), .slice qa1 a1.args.len ca1] 39 (0, 0)) by rw [← hAe]; exact heap_alloc_new w1 _)
  have Ne := Lib.hid (Nat.ne_of_gt SS.out.1.lt_pb)
  have Te := Lib.hid (Nat.ne_of_gt SS.out.1.lt)
  have Uea1 := Lib.hid (show _ ≤ w1.heap.size from Xa1.out)
  have Me := Lib.hid (show w.heap.size ≤ w1.heap.size from BB.out.size)
  have Ve := Lib.hid (show w.heap.size < w1.heap.size from VV.out)
  replace SS := Lib.hid (And.intro (SS.out.1.later hBA) SS.out.2)
  replace BB := Lib.hid (BB.out.trans (But.of_below hBA))
  clear hBA
  have HAe := Lib.hid hAe
  clear hAe
  go_wp2_with fail
  try rw [HAe.out]
  clear HAe
  have Va2 := Lib.hid (show w.heap.size < Ae.heap.size from (Array.getElem?_eq_some_iff.1 Kr.out).1)
  have Uea2 := Lib.hid (show w1.heap.size < Ae.heap.size from (Array.getElem?_eq_some_iff.1 Ke.out).1)
  refine (C2.out k1 Ae SS.out.1 SS.out.2).mono ?_
  intro z w2 hc
  rcases hc with ⟨k2, a2, s2, hr, hkk, hp, hb, hz, hR⟩ | ⟨k2, e2, t2, hr, hp, hb, hz⟩
  rotate_left
  · subst hz
    have HN := Lib.hid (show Post RExpr G p d w (WrongIs (e2 : Int) t2) w2 from .no k2 e2 t2 (by rw [← HG.out]; simp only [R1.out, hr, Res.bind_ok, Res.bind_no]) hp (BB.out.trans hb) rfl)
    clear hr hp hb
    unfold WrongIs
    go_wp2_with fail
    exact ⟨rfl, HN.out⟩
  replace Kr := Lib.hid ((hb.block _ (Array.getElem?_eq_some_iff.1 Kr.out).1 Nr.out).trans Kr.out)
  replace Ke := Lib.hid ((hb.block _ (Array.getElem?_eq_some_iff.1 Ke.out).1 Ne.out).trans Ke.out)
  replace Fa1 := Lib.hid (Fa1.out.but hb Ga1.out Za1.out)
  replace Za1 := Lib.hid (Nat.le_trans Za1.out hb.size)
  replace Ya1 := Lib.hid Ya1.out
  obtain rfl : z = .returned (.int .i64 a2) := hz
  have R2 := Lib.hid hr
  replace SS := Lib.hid (And.intro hp hkk)
  replace BB := Lib.hid (BB.out.trans hb)
  clear hr hkk hp hb hR
  go_wp2_with fail
  have Va3 := Lib.hid (show w.heap.size < w2.heap.size from (Array.getElem?_eq_some_iff.1 Kr.out).1)
  have Uea3 := Lib.hid (show w1.heap.size < w2.heap.size from (Array.getElem?_eq_some_iff.1 Ke.out).1)
  refine (C1.out k2 w2 SS.out.1 SS.out.2).mono ?_
  intro z w3 hc
  rcases hc with ⟨k3, a3, s3, hr, hkk, hp, hb, hz, hR⟩ | ⟨k3, e3, t3, hr, hp, hb, hz⟩
  rotate_left
  · subst hz
    have HN := Lib.hid (show Post RExpr G p d w (WrongIs (e3 : Int) t3) w3 from .no k3 e3 t3 (by rw [← HG.out]; simp only [R1.out, R2.out, hr, Res.bind_ok, Res.bind_no]) hp (BB.out.trans hb) rfl)
    clear hr hp hb
    unfold WrongIs
    go_wp2_with fail
    exact ⟨rfl, HN.out⟩
  replace Kr := Lib.hid ((hb.block _ (Array.getElem?_eq_some_iff.1 Kr.out).1 Nr.out).trans Kr.out)
  replace Ke := Lib.hid ((hb.block _ (Array.getElem?_eq_some_iff.1 Ke.out).1 Ne.out).trans Ke.out)
  replace Fa1 := Lib.hid (Fa1.out.but hb Ga1.out Za1.out)
  replace Za1 := Lib.hid (Nat.le_trans Za1.out hb.size)
  replace Ya1 := Lib.hid Ya1.out
  obtain ⟨qa3, ca3⟩ := s3
  obtain rfl : z = .returned (.agg #[.int .i64 a3.op, .int .u64 (a3.word : Int), .string (str a3.name), .slice qa3 a3.args.len ca3]) := hz
  have Fa3 := Lib.hid (show Fresh w2.heap.size w3.heap.size w3 (fun W N => a3.Ok W N qa3) from hR)
  have Ga3 := Lib.hid SS.out.1.lt_pb
  have Za3 := Lib.hid (Nat.le_refl w3.heap.size)
  have Ya3 := Lib.hid (show w.heap.size ≤ w2.heap.size from BB.out.size)
  have R3 := Lib.hid hr
  replace SS := Lib.hid (And.intro hp hkk)
  replace BB := Lib.hid (BB.out.trans hb)
  clear hr hkk hp hb hR
  obtain ⟨Af, hAf⟩ : ∃ A, w3.alloc (.cells #[.int .i64 a3.op, .int .u64 (a3.word : Int), .string (str a3.name), .slice qa3 a3.args.len ca3] 39) = A := ⟨_, rfl⟩
  have VV := Lib.hid (show w.heap.size < w3.heap.size from (Array.getElem?_eq_some_iff.1 Kr.out).1)
  have Xa1 := Lib.hid Za1.out
  have Xa3 := Lib.hid Za3.out
  have Xe := Lib.hid (Array.getElem?_eq_some_iff.1 Ke.out).1
  have hBA : Below w3.heap.size w3 Af := by rw [← hAf]; exact (Below.refl _ _).alloc (Nat.le_refl _) _
  replace Kr := Lib.hid ((hBA.block _ (Array.getElem?_eq_some_iff.1 Kr.out).1).trans Kr.out)
  replace Ke := Lib.hid ((hBA.block _ (Array.getElem?_eq_some_iff.1 Ke.out).1).trans Ke.out)
  replace Fa1 := Lib.hid (Fa1.out.bel hBA Za1.out)
  replace Za1 := Lib.hid (Nat.le_trans Za1.out hBA.size)
  replace Ya1 := Lib.hid Ya1.out
  replace Fa3 := Lib.hid (Fa3.out.bel hBA Za3.out)
  replace Za3 := Lib.hid (Nat.le_trans Za3.out hBA.size)
  replace Ya3 := Lib.hid Ya3.out
  have Kf := Lib.hid (show Af.heap[w3.heap.size]? = some (.cells #[.int .i64 a3.op, .int .u64 (a3.word : Int), .string (str a3.name), .slice qa3 a3.args.len ca3] 39 (0, 0)) by rw [← hAf]; exact heap_alloc_new w3 _)
  have Nf := Lib.hid (Nat.ne_of_gt SS.out.1.lt_pb)
  have Tf := Lib.hid (Nat.ne_of_gt SS.out.1.lt)
  have Ufa1 := Lib.hid (show _ ≤ w3.heap.size from Xa1.out)
  have Ufa3 := Lib.hid (show _ ≤ w3.heap.size from Xa3.out)
  have Lef := Lib.hid (show w1.heap.size < w3.heap.size from Xe.out)
  have Mf := Lib.hid (show w.heap.size ≤ w3.heap.size from BB.out.size)
  have Vf := Lib.hid (show w.heap.size < w3.heap.size from VV.out)
  replace SS := Lib.hid (And.intro (SS.out.1.later hBA) SS.out.2)
  replace BB := Lib.hid (BB.out.trans (But.of_below hBA))
  clear hBA
  have HAf := Lib.hid hAf
  clear hAf
  go_wp2_with fail
  try rw [HAf.out]
  clear HAf
  refine (C3.out k3 Af SS.out.1 SS.out.2).mono ?_
  intro z w4 hc
  rcases hc with ⟨k4, a4, s4, hr, hkk, hp, hb, hz, hR⟩ | ⟨k4, e4, t4, hr, hp, hb, hz⟩
  rotate_left
  · subst hz
    have HN := Lib.hid (show Post RExpr G p d w (WrongIs (e4 : Int) t4) w4 from .no k4 e4 t4 (by rw [← HG.out]; simp only [R1.out, R2.out, R3.out, hr, Res.bind_ok, Res.bind_no]) hp (BB.out.trans hb) rfl)
    clear hr hp hb
    unfold WrongIs
    go_wp2_with fail
    exact ⟨rfl, HN.out⟩
  replace Kr := Lib.hid ((hb.block _ (Array.getElem?_eq_some_iff.1 Kr.out).1 Nr.out).trans Kr.out)
  replace Ke := Lib.hid ((hb.block _ (Array.getElem?_eq_some_iff.1 Ke.out).1 Ne.out).trans Ke.out)
  replace Kf := Lib.hid ((hb.block _ (Array.getElem?_eq_some_iff.1 Kf.out).1 Nf.out).trans Kf.out)
  replace Fa1 := Lib.hid (Fa1.out.but hb Ga1.out Za1.out)
  replace Za1 := Lib.hid (Nat.le_trans Za1.out hb.size)
  replace Ya1 := Lib.hid Ya1.out
  replace Fa3 := Lib.hid (Fa3.out.but hb Ga3.out Za3.out)
  replace Za3 := Lib.hid (Nat.le_trans Za3.out hb.size)
  replace Ya3 := Lib.hid Ya3.out
  obtain rfl : z = .returned (.tuple #[]) := hz
  have R4 := Lib.hid hr
  replace SS := Lib.hid (And.intro hp hkk)
  replace BB := Lib.hid (BB.out.trans hb)
  clear hr hkk hp hb hR
  have l0 := cell_blk Ke.out (j := 0) rfl
  have l1 := cell_blk Ke.out (j := 1) rfl
  have l2 := cell_blk Ke.out (j := 2) rfl
  have l3 := cell_blk Ke.out (j := 3) rfl
  have m0 := cell_blk Kf.out (j := 0) rfl
  have m1 := cell_blk Kf.out (j := 1) rfl
  have m2 := cell_blk Kf.out (j := 2) rfl
  have m3 := cell_blk Kf.out (j := 3) rfl
  obtain ⟨Ag, hAg⟩ : ∃ A, w4.alloc (.cells #[.int .i64 a1.op, .int .u64 (a1.word : Int), .string (str a1.name), .slice qa1 a1.args.len ca1, .int .i64 a3.op, .int .u64 (a3.word : Int), .string (str a3.name), .slice qa3 a3.args.len ca3] 39) = A := ⟨_, rfl⟩
  have VV := Lib.hid (show w.heap.size < w4.heap.size from (Array.getElem?_eq_some_iff.1 Kr.out).1)
  have Xa1 := Lib.hid Za1.out
  have Xa3 := Lib.hid Za3.out
  have Xe := Lib.hid (Array.getElem?_eq_some_iff.1 Ke.out).1
  have Xf := Lib.hid (Array.getElem?_eq_some_iff.1 Kf.out).1
  have hBA : Below w4.heap.size w4 Ag := by rw [← hAg]; exact (Below.refl _ _).alloc (Nat.le_refl _) _
  replace Kr := Lib.hid ((hBA.block _ (Array.getElem?_eq_some_iff.1 Kr.out).1).trans Kr.out)
  replace Ke := Lib.hid ((hBA.block _ (Array.getElem?_eq_some_iff.1 Ke.out).1).trans Ke.out)
  replace Kf := Lib.hid ((hBA.block _ (Array.getElem?_eq_some_iff.1 Kf.out).1).trans Kf.out)
  replace Fa1 := Lib.hid (Fa1.out.bel hBA Za1.out)
  replace Za1 := Lib.hid (Nat.le_trans Za1.out hBA.size)
  replace Ya1 := Lib.hid Ya1.out
  replace Fa3 := Lib.hid (Fa3.out.bel hBA Za3.out)
  replace Za3 := Lib.hid (Nat.le_trans Za3.out hBA.size)
  replace Ya3 := Lib.hid Ya3.out
  have Kg := Lib.hid (show Ag.heap[w4.heap.size]? = some (.cells #[.int .i64 a1.op, .int .u64 (a1.word : Int), .string (str a1.name), .slice qa1 a1.args.len ca1, .int .i64 a3.op, .int .u64 (a3.word : Int), .string (str a3.name), .slice qa3 a3.args.len ca3] 39 (0, 0)) by rw [← hAg]; exact heap_alloc_new w4 _)
  have Ng := Lib.hid (Nat.ne_of_gt SS.out.1.lt_pb)
  have Tg := Lib.hid (Nat.ne_of_gt SS.out.1.lt)
  have Uga1 := Lib.hid (show _ ≤ w4.heap.size from Xa1.out)
  have Uga3 := Lib.hid (show _ ≤ w4.heap.size from Xa3.out)
  have Leg := Lib.hid (show w1.heap.size < w4.heap.size from Xe.out)
  have Lfg := Lib.hid (show w3.heap.size < w4.heap.size from Xf.out)
  have Mg := Lib.hid (show w.heap.size ≤ w4.heap.size from BB.out.size)
  have Vg := Lib.hid (show w.heap.size < w4.heap.size from VV.out)
  replace SS := Lib.hid (And.intro (SS.out.1.later hBA) SS.out.2)
  replace BB := Lib.hid (BB.out.trans (But.of_below hBA))
  clear hBA
  have HAg := Lib.hid hAg
  clear hAg
  go_wp2_with fail
  try rw [HAg.out]
  clear HAg
  refine (exprOf_any a2 (some ⟨w4.heap.size, 0, none⟩) 2 2 Ag).mono ?_
  rintro z w5 ⟨rfl, hBX⟩
  replace Kr := Lib.hid ((hBX.block _ (Array.getElem?_eq_some_iff.1 Kr.out).1).trans Kr.out)
  replace Ke := Lib.hid ((hBX.block _ (Array.getElem?_eq_some_iff.1 Ke.out).1).trans Ke.out)
  replace Kf := Lib.hid ((hBX.block _ (Array.getElem?_eq_some_iff.1 Kf.out).1).trans Kf.out)
  replace Kg := Lib.hid ((hBX.block _ (Array.getElem?_eq_some_iff.1 Kg.out).1).trans Kg.out)
  replace Fa1 := Lib.hid (Fa1.out.bel hBX Za1.out)
  replace Za1 := Lib.hid (Nat.le_trans Za1.out hBX.size)
  replace Ya1 := Lib.hid Ya1.out
  replace Fa3 := Lib.hid (Fa3.out.bel hBX Za3.out)
  replace Za3 := Lib.hid (Nat.le_trans Za3.out hBX.size)
  replace Ya3 := Lib.hid Ya3.out
  replace SS := Lib.hid (And.intro (SS.out.1.later hBX) SS.out.2)
  replace BB := Lib.hid (BB.out.trans (But.of_below hBX))
  clear hBX
  have z0 := cell_blk Kr.out (j := 0) rfl
  have z1 := cell_blk Kr.out (j := 1) rfl
  have z2 := cell_blk Kr.out (j := 2) rfl
  have z3 := cell_blk Kr.out (j := 3) rfl
  have hf : ∀ j, w5.frozen? ⟨w.heap.size, j, none⟩ = false := fun j => by simp [World.frozen?, Kr.out]
  have f0 := hf 0
  have f1 := hf 1
  have f2 := hf 2
  have f3 := hf 3
  clear hf
  have HR := Lib.hid (set4 Kr.out (.int .i64 a2) (.int .u64 0) (.string ⟨#[]⟩) (.slice (some ⟨w4.heap.size, 0, none⟩) 2 2))
  go_wp2_with fail
  have hF := HR.out
  refine bodyPost_ret (v := .agg #[.int .i64 a2, .int .u64 0, .string ⟨#[]⟩, .slice (some ⟨w4.heap.size, 0, none⟩) 2 2]) ?_ rfl ?_
  · have y0 := cell_blk hF (j := 0) rfl
    have y1 := cell_blk hF (j := 1) rfl
    have y2 := cell_blk hF (j := 2) rfl
    have y3 := cell_blk hF (j := 3) rfl
    generalize (((w5.setCell ⟨w.heap.size, 0, none⟩ (.int .i64 a2)).setCell ⟨w.heap.size, 1, none⟩ (.int .u64 0)).setCell ⟨w.heap.size, 2, none⟩ (.string ⟨#[]⟩)).setCell ⟨w.heap.size, 3, none⟩ (.slice (some ⟨w4.heap.size, 0, none⟩) 2 2) = F at *
    simp [results, Tryz.results167, go_sem, y0, y1, y2, y3]
  · have hn1 : w.heap.size ≠ p.pb := Nr.out
    have hn2 : w.heap.size ≠ p.tb := Nr2.out
    refine .ok k4 (.mk a2 0 [] (.cons a1 (.cons a3 .nil))) (some ⟨w4.heap.size, 0, none⟩, 2) (by rw [← HG.out]; first | rfl | simp only [R1.out, R2.out, R3.out, R4.out, Res.bind_ok] | trace_state) SS.out.2 ?_ ?_ rfl ?_
    · exact (((SS.out.1.other (p := ⟨w.heap.size, 0, none⟩) hn1 hn2 _).other (p := ⟨w.heap.size, 1, none⟩) hn1 hn2 _).other (p := ⟨w.heap.size, 2, none⟩) hn1 hn2 _).other (p := ⟨w.heap.size, 3, none⟩) hn1 hn2 _
    · exact (((BB.out.putNew (p := ⟨w.heap.size, 0, none⟩) (Nat.le_refl _) _).putNew (p := ⟨w.heap.size, 1, none⟩) (Nat.le_refl _) _).putNew (p := ⟨w.heap.size, 2, none⟩) (Nat.le_refl _) _).putNew (p := ⟨w.heap.size, 3, none⟩) (Nat.le_refl _) _
    · rw [size4]
      intro W hW
      have hgz : w4.heap.size < w5.heap.size := (Array.getElem?_eq_some_iff.1 Kg.out).1
      have hgr : w4.heap.size ≠ w.heap.size := Nat.ne_of_gt Vg.out
      have hgW := (hW.2 _ Mg.out hgz).trans ((heap_set4 _ _ _ hgr _ _ _ _).trans Kg.out)
      have oa1 : a1.Ok W w5.heap.size qa1 := ((Fa1.out.set4 Va1.out Za1.out _ _ _ _).fin Ya1.out Za1.out (fun W h => Ex.Ok.up h Za1.out)) W hW
      have oa3 : a3.Ok W w5.heap.size qa3 := ((Fa3.out.set4 Va3.out Za3.out _ _ _ _).fin Ya3.out Za3.out (fun W h => Ex.Ok.up h Za3.out)) W hW
      exact ⟨⟨by simp [Ex.args, Exs.len], .inr ⟨_, 0, rfl, hgz, Ex.At.of (cell_blk hgW (j := 0) rfl) (cell_blk hgW (j := 1) rfl) (cell_blk hgW (j := 2) rfl) (cell_blk hgW (j := 3) rfl) oa1, Ex.At.of (cell_blk hgW (j := 4) rfl) (cell_blk hgW (j := 5) rfl) (cell_blk hgW (j := 6) rfl) (cell_blk hgW (j := 7) rfl) oa3, trivial⟩⟩, show (0 : Nat) < 18446744073709551616 by decide⟩

set_option maxRecDepth 100000 in
set_option maxHeartbeats 3200000 in
theorem pick_p (n : Nat) (p : Pp) (k d : Nat) (w : World) (h : Ps w p.pb p.tb p.tf p.tc p.ts k d) (hk : k < p.ts.length) (hE : Ends p.ts) (HX : ExprC p n d) :
    Calls Tryz.prog 168 #[.pointer (some ⟨p.pb, 0, none⟩)] w (Post RExpr (pickP n (p.ts.drop k)) p d w) := by
  have hpb := h.lt_pb
  have C0 := Lib.hid (fun (k : Nat) (w : World) (h : Ps w p.pb p.tb p.tf p.tc p.ts k d) (hk : k < p.ts.length) => want_p [40] p k d w h hk hE (by decide))
  have C1 := Lib.hid (HX)
  have C2 := Lib.hid (fun (k : Nat) (w : World) (h : Ps w p.pb p.tb p.tf p.tc p.ts k d) (hk : k < p.ts.length) => want_p [44] p k d w h hk hE (by decide))
  have C3 := Lib.hid (fun (k : Nat) (w : World) (h : Ps w p.pb p.tb p.tf p.tc p.ts k d) (hk : k < p.ts.length) => want_p [41] p k d w h hk hE (by decide))
  obtain ⟨W0, hW0⟩ : ∃ W0, w.alloc (.cells #[.int .i64 0, .int .u64 0, .string ⟨#[]⟩, .slice none 0 0] 39) = W0 := ⟨_, rfl⟩
  have hB0 : Below w.heap.size w W0 := by rw [← hW0]; exact (Below.refl _ _).alloc (Nat.le_refl _) _
  have Kr := Lib.hid (show W0.heap[w.heap.size]? = some (.cells #[.int .i64 0, .int .u64 0, .string ⟨#[]⟩, .slice none 0 0] 39 (0, 0)) by rw [← hW0]; exact heap_alloc_new w _)
  have Nr := Lib.hid (Nat.ne_of_gt hpb)
  have Nr2 := Lib.hid (Nat.ne_of_gt h.lt)
  have BB := Lib.hid (But.of_below (g := p.pb) hB0)
  have SS := Lib.hid (And.intro (h.later hB0) hk)
  clear hB0
  have PB := Lib.hid hpb
  clear h hk hE hpb
  generalize hG : (pickP n (p.ts.drop k)) = G
  unfold pickP at hG
  have HG := Lib.hid hG
  clear hG
  go_enter Tryz.func168, Tryz.ntmps168
  go_wp2_with fail
  try rw [hW0]
  clear hW0
  refine (C0.out k W0 SS.out.1 SS.out.2).mono ?_
  intro z w1 hc
  rcases hc with ⟨k1, a1, s1, hr, hkk, hp, hb, hz, hR⟩ | ⟨k1, e1, t1, hr, hp, hb, hz⟩
  rotate_left
  · subst hz
    have HN := Lib.hid (show Post RExpr G p d w (WrongIs (e1 : Int) t1) w1 from .no k1 e1 t1 (by rw [← HG.out]; simp only [hr, Res.bind_no]) hp (BB.out.trans hb) rfl)
    clear hr hp hb
    unfold WrongIs
    go_wp2_with fail
    exact ⟨rfl, HN.out⟩
  replace Kr := Lib.hid ((hb.block _ (Array.getElem?_eq_some_iff.1 Kr.out).1 Nr.out).trans Kr.out)
  obtain rfl : z = .returned (.tuple #[]) := hz
  have R1 := Lib.hid hr
  replace SS := Lib.hid (And.intro hp hkk)
  replace BB := Lib.hid (BB.out.trans hb)
  clear hr hkk hp hb hR
  go_wp2_with fail
  have Va2 := Lib.hid (show w.heap.size < w1.heap.size from (Array.getElem?_eq_some_iff.1 Kr.out).1)
  refine (C1.out k1 w1 SS.out.1 SS.out.2).mono ?_
  intro z w2 hc
  rcases hc with ⟨k2, a2, s2, hr, hkk, hp, hb, hz, hR⟩ | ⟨k2, e2, t2, hr, hp, hb, hz⟩
  rotate_left
  · subst hz
    have HN := Lib.hid (show Post RExpr G p d w (WrongIs (e2 : Int) t2) w2 from .no k2 e2 t2 (by rw [← HG.out]; simp only [R1.out, hr, Res.bind_ok, Res.bind_no]) hp (BB.out.trans hb) rfl)
    clear hr hp hb
    unfold WrongIs
    go_wp2_with fail
    exact ⟨rfl, HN.out⟩
  replace Kr := Lib.hid ((hb.block _ (Array.getElem?_eq_some_iff.1 Kr.out).1 Nr.out).trans Kr.out)
  obtain ⟨qa2, ca2⟩ := s2
  obtain rfl : z = .returned (.agg #[.int .i64 a2.op, .int .u64 (a2.word : Int), .string (str a2.name), .slice qa2 a2.args.len ca2]) := hz
  have Fa2 := Lib.hid (show Fresh w1.heap.size w2.heap.size w2 (fun W N => a2.Ok W N qa2) from hR)
  have Ga2 := Lib.hid SS.out.1.lt_pb
  have Za2 := Lib.hid (Nat.le_refl w2.heap.size)
  have Ya2 := Lib.hid (show w.heap.size ≤ w1.heap.size from BB.out.size)
  have R2 := Lib.hid hr
  replace SS := Lib.hid (And.intro hp hkk)
  replace BB := Lib.hid (BB.out.trans hb)
  clear hr hkk hp hb hR
  obtain ⟨Ae, hAe⟩ : ∃ A, w2.alloc (.cells #[.int .i64 a2.op, .int .u64 (a2.word : Int), .string (str a2.name), .slice qa2 a2.args.len ca2] 39) = A := ⟨_, rfl⟩
  have VV := Lib.hid (show w.heap.size < w2.heap.size from (Array.getElem?_eq_some_iff.1 Kr.out).1)
  have Xa2 := Lib.hid Za2.out
  have hBA : Below w2.heap.size w2 Ae := by rw [← hAe]; exact (Below.refl _ _).alloc (Nat.le_refl _) _
  replace Kr := Lib.hid ((hBA.block _ (Array.getElem?_eq_some_iff.1 Kr.out).1).trans Kr.out)
  replace Fa2 := Lib.hid (Fa2.out.bel hBA Za2.out)
  replace Za2 := Lib.hid (Nat.le_trans Za2.out hBA.size)
  replace Ya2 := Lib.hid Ya2.out
  have Ke := Lib.hid (show Ae.heap[w2.heap.size]? = some (.cells #[.int .i64 a2.op, .int .u64 (a2.word : Int), .string (str a2.name), .slice qa2 a2.args.len ca2] 39 (0, 0)) by rw [← hAe]; exact heap_alloc_new w2 _)
  have Ne := Lib.hid (Nat.ne_of_gt SS.out.1.lt_pb)
  have Te := Lib.hid (Nat.ne_of_gt SS.out.1.lt)
  have Uea2 := Lib.hid (show _ ≤ w2.heap.size from Xa2.out)
  have Me := Lib.hid (show w.heap.size ≤ w2.heap.size from BB.out.size)
  have Ve := Lib.hid (show w.heap.size < w2.heap.size from VV.out)
  replace SS := Lib.hid (And.intro (SS.out.1.later hBA) SS.out.2)
  replace BB := Lib.hid (BB.out.trans (But.of_below hBA))
  clear hBA
  have HAe := Lib.hid hAe
  clear hAe
  go_wp2_with fail
  try rw [HAe.out]
  clear HAe
  refine (C2.out k2 Ae SS.out.1 SS.out.2).mono ?_
  intro z w3 hc
  rcases hc with ⟨k3, a3, s3, hr, hkk, hp, hb, hz, hR⟩ | ⟨k3, e3, t3, hr, hp, hb, hz⟩
  rotate_left
  · subst hz
    have HN := Lib.hid (show Post RExpr G p d w (WrongIs (e3 : Int) t3) w3 from .no k3 e3 t3 (by rw [← HG.out]; simp only [R1.out, R2.out, hr, Res.bind_ok, Res.bind_no]) hp (BB.out.trans hb) rfl)
    clear hr hp hb
    unfold WrongIs
    go_wp2_with fail
    exact ⟨rfl, HN.out⟩
  replace Kr := Lib.hid ((hb.block _ (Array.getElem?_eq_some_iff.1 Kr.out).1 Nr.out).trans Kr.out)
  replace Ke := Lib.hid ((hb.block _ (Array.getElem?_eq_some_iff.1 Ke.out).1 Ne.out).trans Ke.out)
  replace Fa2 := Lib.hid (Fa2.out.but hb Ga2.out Za2.out)
  replace Za2 := Lib.hid (Nat.le_trans Za2.out hb.size)
  replace Ya2 := Lib.hid Ya2.out
  obtain rfl : z = .returned (.tuple #[]) := hz
  have R3 := Lib.hid hr
  replace SS := Lib.hid (And.intro hp hkk)
  replace BB := Lib.hid (BB.out.trans hb)
  clear hr hkk hp hb hR
  go_wp2_with fail
  have Va4 := Lib.hid (show w.heap.size < w3.heap.size from (Array.getElem?_eq_some_iff.1 Kr.out).1)
  have Uea4 := Lib.hid (show w2.heap.size < w3.heap.size from (Array.getElem?_eq_some_iff.1 Ke.out).1)
  refine (C1.out k3 w3 SS.out.1 SS.out.2).mono ?_
  intro z w4 hc
  rcases hc with ⟨k4, a4, s4, hr, hkk, hp, hb, hz, hR⟩ | ⟨k4, e4, t4, hr, hp, hb, hz⟩
  rotate_left
  · subst hz
    have HN := Lib.hid (show Post RExpr G p d w (WrongIs (e4 : Int) t4) w4 from .no k4 e4 t4 (by rw [← HG.out]; simp only [R1.out, R2.out, R3.out, hr, Res.bind_ok, Res.bind_no]) hp (BB.out.trans hb) rfl)
    clear hr hp hb
    unfold WrongIs
    go_wp2_with fail
    exact ⟨rfl, HN.out⟩
  replace Kr := Lib.hid ((hb.block _ (Array.getElem?_eq_some_iff.1 Kr.out).1 Nr.out).trans Kr.out)
  replace Ke := Lib.hid ((hb.block _ (Array.getElem?_eq_some_iff.1 Ke.out).1 Ne.out).trans Ke.out)
  replace Fa2 := Lib.hid (Fa2.out.but hb Ga2.out Za2.out)
  replace Za2 := Lib.hid (Nat.le_trans Za2.out hb.size)
  replace Ya2 := Lib.hid Ya2.out
  obtain ⟨qa4, ca4⟩ := s4
  obtain rfl : z = .returned (.agg #[.int .i64 a4.op, .int .u64 (a4.word : Int), .string (str a4.name), .slice qa4 a4.args.len ca4]) := hz
  have Fa4 := Lib.hid (show Fresh w3.heap.size w4.heap.size w4 (fun W N => a4.Ok W N qa4) from hR)
  have Ga4 := Lib.hid SS.out.1.lt_pb
  have Za4 := Lib.hid (Nat.le_refl w4.heap.size)
  have Ya4 := Lib.hid (show w.heap.size ≤ w3.heap.size from BB.out.size)
  have R4 := Lib.hid hr
  replace SS := Lib.hid (And.intro hp hkk)
  replace BB := Lib.hid (BB.out.trans hb)
  clear hr hkk hp hb hR
  obtain ⟨Af, hAf⟩ : ∃ A, w4.alloc (.cells #[.int .i64 a4.op, .int .u64 (a4.word : Int), .string (str a4.name), .slice qa4 a4.args.len ca4] 39) = A := ⟨_, rfl⟩
  have VV := Lib.hid (show w.heap.size < w4.heap.size from (Array.getElem?_eq_some_iff.1 Kr.out).1)
  have Xa2 := Lib.hid Za2.out
  have Xa4 := Lib.hid Za4.out
  have Xe := Lib.hid (Array.getElem?_eq_some_iff.1 Ke.out).1
  have hBA : Below w4.heap.size w4 Af := by rw [← hAf]; exact (Below.refl _ _).alloc (Nat.le_refl _) _
  replace Kr := Lib.hid ((hBA.block _ (Array.getElem?_eq_some_iff.1 Kr.out).1).trans Kr.out)
  replace Ke := Lib.hid ((hBA.block _ (Array.getElem?_eq_some_iff.1 Ke.out).1).trans Ke.out)
  replace Fa2 := Lib.hid (Fa2.out.bel hBA Za2.out)
  replace Za2 := Lib.hid (Nat.le_trans Za2.out hBA.size)
  replace Ya2 := Lib.hid Ya2.out
  replace Fa4 := Lib.hid (Fa4.out.bel hBA Za4.out)
  replace Za4 := Lib.hid (Nat.le_trans Za4.out hBA.size)
  replace Ya4 := Lib.hid Ya4.out
  have Kf := Lib.hid (show Af.heap[w4.heap.size]? = some (.cells #[.int .i64 a4.op, .int .u64 (a4.word : Int), .string (str a4.name), .slice qa4 a4.args.len ca4] 39 (0, 0)) by rw [← hAf]; exact heap_alloc_new w4 _)
  have Nf := Lib.hid (Nat.ne_of_gt SS.out.1.lt_pb)
  have Tf := Lib.hid (Nat.ne_of_gt SS.out.1.lt)
  have Ufa2 := Lib.hid (show _ ≤ w4.heap.size from Xa2.out)
  have Ufa4 := Lib.hid (show _ ≤ w4.heap.size from Xa4.out)
  have Lef := Lib.hid (show w2.heap.size < w4.heap.size from Xe.out)
  have Mf := Lib.hid (show w.heap.size ≤ w4.heap.size from BB.out.size)
  have Vf := Lib.hid (show w.heap.size < w4.heap.size from VV.out)
  replace SS := Lib.hid (And.intro (SS.out.1.later hBA) SS.out.2)
  replace BB := Lib.hid (BB.out.trans (But.of_below hBA))
  clear hBA
  have HAf := Lib.hid hAf
  clear hAf
  go_wp2_with fail
  try rw [HAf.out]
  clear HAf
  refine (C2.out k4 Af SS.out.1 SS.out.2).mono ?_
  intro z w5 hc
  rcases hc with ⟨k5, a5, s5, hr, hkk, hp, hb, hz, hR⟩ | ⟨k5, e5, t5, hr, hp, hb, hz⟩
  rotate_left
  · subst hz
    have HN := Lib.hid (show Post RExpr G p d w (WrongIs (e5 : Int) t5) w5 from .no k5 e5 t5 (by rw [← HG.out]; simp only [R1.out, R2.out, R3.out, R4.out, hr, Res.bind_ok, Res.bind_no]) hp (BB.out.trans hb) rfl)
    clear hr hp hb
    unfold WrongIs
    go_wp2_with fail
    exact ⟨rfl, HN.out⟩
  replace Kr := Lib.hid ((hb.block _ (Array.getElem?_eq_some_iff.1 Kr.out).1 Nr.out).trans Kr.out)
  replace Ke := Lib.hid ((hb.block _ (Array.getElem?_eq_some_iff.1 Ke.out).1 Ne.out).trans Ke.out)
  replace Kf := Lib.hid ((hb.block _ (Array.getElem?_eq_some_iff.1 Kf.out).1 Nf.out).trans Kf.out)
  replace Fa2 := Lib.hid (Fa2.out.but hb Ga2.out Za2.out)
  replace Za2 := Lib.hid (Nat.le_trans Za2.out hb.size)
  replace Ya2 := Lib.hid Ya2.out
  replace Fa4 := Lib.hid (Fa4.out.but hb Ga4.out Za4.out)
  replace Za4 := Lib.hid (Nat.le_trans Za4.out hb.size)
  replace Ya4 := Lib.hid Ya4.out
  obtain rfl : z = .returned (.tuple #[]) := hz
  have R5 := Lib.hid hr
  replace SS := Lib.hid (And.intro hp hkk)
  replace BB := Lib.hid (BB.out.trans hb)
  clear hr hkk hp hb hR
  go_wp2_with fail
  have Va6 := Lib.hid (show w.heap.size < w5.heap.size from (Array.getElem?_eq_some_iff.1 Kr.out).1)
  have Uea6 := Lib.hid (show w2.heap.size < w5.heap.size from (Array.getElem?_eq_some_iff.1 Ke.out).1)
  have Ufa6 := Lib.hid (show w4.heap.size < w5.heap.size from (Array.getElem?_eq_some_iff.1 Kf.out).1)
  refine (C1.out k5 w5 SS.out.1 SS.out.2).mono ?_
  intro z w6 hc
  rcases hc with ⟨k6, a6, s6, hr, hkk, hp, hb, hz, hR⟩ | ⟨k6, e6, t6, hr, hp, hb, hz⟩
  rotate_left
  · subst hz
    have HN := Lib.hid (show Post RExpr G p d w (WrongIs (e6 : Int) t6) w6 from .no k6 e6 t6 (by rw [← HG.out]; simp only [R1.out, R2.out, R3.out, R4.out, R5.out, hr, Res.bind_ok, Res.bind_no]) hp (BB.out.trans hb) rfl)
    clear hr hp hb
    unfold WrongIs
    go_wp2_with fail
    exact ⟨rfl, HN.out⟩
  replace Kr := Lib.hid ((hb.block _ (Array.getElem?_eq_some_iff.1 Kr.out).1 Nr.out).trans Kr.out)
  replace Ke := Lib.hid ((hb.block _ (Array.getElem?_eq_some_iff.1 Ke.out).1 Ne.out).trans Ke.out)
  replace Kf := Lib.hid ((hb.block _ (Array.getElem?_eq_some_iff.1 Kf.out).1 Nf.out).trans Kf.out)
  replace Fa2 := Lib.hid (Fa2.out.but hb Ga2.out Za2.out)
  replace Za2 := Lib.hid (Nat.le_trans Za2.out hb.size)
  replace Ya2 := Lib.hid Ya2.out
  replace Fa4 := Lib.hid (Fa4.out.but hb Ga4.out Za4.out)
  replace Za4 := Lib.hid (Nat.le_trans Za4.out hb.size)
  replace Ya4 := Lib.hid Ya4.out
  obtain ⟨qa6, ca6⟩ := s6
  obtain rfl : z = .returned (.agg #[.int .i64 a6.op, .int .u64 (a6.word : Int), .string (str a6.name), .slice qa6 a6.args.len ca6]) := hz
  have Fa6 := Lib.hid (show Fresh w5.heap.size w6.heap.size w6 (fun W N => a6.Ok W N qa6) from hR)
  have Ga6 := Lib.hid SS.out.1.lt_pb
  have Za6 := Lib.hid (Nat.le_refl w6.heap.size)
  have Ya6 := Lib.hid (show w.heap.size ≤ w5.heap.size from BB.out.size)
  have R6 := Lib.hid hr
  replace SS := Lib.hid (And.intro hp hkk)
  replace BB := Lib.hid (BB.out.trans hb)
  clear hr hkk hp hb hR
  obtain ⟨Ah, hAh⟩ : ∃ A, w6.alloc (.cells #[.int .i64 a6.op, .int .u64 (a6.word : Int), .string (str a6.name), .slice qa6 a6.args.len ca6] 39) = A := ⟨_, rfl⟩
  have VV := Lib.hid (show w.heap.size < w6.heap.size from (Array.getElem?_eq_some_iff.1 Kr.out).1)
  have Xa2 := Lib.hid Za2.out
  have Xa4 := Lib.hid Za4.out
  have Xa6 := Lib.hid Za6.out
  have Xe := Lib.hid (Array.getElem?_eq_some_iff.1 Ke.out).1
  have Xf := Lib.hid (Array.getElem?_eq_some_iff.1 Kf.out).1
  have hBA : Below w6.heap.size w6 Ah := by rw [← hAh]; exact (Below.refl _ _).alloc (Nat.le_refl _) _
  replace Kr := Lib.hid ((hBA.block _ (Array.getElem?_eq_some_iff.1 Kr.out).1).trans Kr.out)
  replace Ke := Lib.hid ((hBA.block _ (Array.getElem?_eq_some_iff.1 Ke.out).1).trans Ke.out)
  replace Kf := Lib.hid ((hBA.block _ (Array.getElem?_eq_some_iff.1 Kf.out).1).trans Kf.out)
  replace Fa2 := Lib.hid (Fa2.out.bel hBA Za2.out)
  replace Za2 := Lib.hid (Nat.le_trans Za2.out hBA.size)
  replace Ya2 := Lib.hid Ya2.out
  replace Fa4 := Lib.hid (Fa4.out.bel hBA Za4.out)
  replace Za4 := Lib.hid (Nat.le_trans Za4.out hBA.size)
  replace Ya4 := Lib.hid Ya4.out
  replace Fa6 := Lib.hid (Fa6.out.bel hBA Za6.out)
  replace Za6 := Lib.hid (Nat.le_trans Za6.out hBA.size)
  replace Ya6 := Lib.hid Ya6.out
  have Kh := Lib.hid (show Ah.heap[w6.heap.size]? = some (.cells #[.int .i64 a6.op, .int .u64 (a6.word : Int), .string (str a6.name), .slice qa6 a6.args.len ca6] 39 (0, 0)) by rw [← hAh]; exact heap_alloc_new w6 _)
  have Nh := Lib.hid (Nat.ne_of_gt SS.out.1.lt_pb)
  have Th := Lib.hid (Nat.ne_of_gt SS.out.1.lt)
  have Uha2 := Lib.hid (show _ ≤ w6.heap.size from Xa2.out)
  have Uha4 := Lib.hid (show _ ≤ w6.heap.size from Xa4.out)
  have Uha6 := Lib.hid (show _ ≤ w6.heap.size from Xa6.out)
  have Leh := Lib.hid (show w2.heap.size < w6.heap.size from Xe.out)
  have Lfh := Lib.hid (show w4.heap.size < w6.heap.size from Xf.out)
  have Mh := Lib.hid (show w.heap.size ≤ w6.heap.size from BB.out.size)
  have Vh := Lib.hid (show w.heap.size < w6.heap.size from VV.out)
  replace SS := Lib.hid (And.intro (SS.out.1.later hBA) SS.out.2)
  replace BB := Lib.hid (BB.out.trans (But.of_below hBA))
  clear hBA
  have HAh := Lib.hid hAh
  clear hAh
  go_wp2_with fail
  try rw [HAh.out]
  clear HAh
  refine (C3.out k6 Ah SS.out.1 SS.out.2).mono ?_
  intro z w7 hc
  rcases hc with ⟨k7, a7, s7, hr, hkk, hp, hb, hz, hR⟩ | ⟨k7, e7, t7, hr, hp, hb, hz⟩
  rotate_left
  · subst hz
    have HN := Lib.hid (show Post RExpr G p d w (WrongIs (e7 : Int) t7) w7 from .no k7 e7 t7 (by rw [← HG.out]; simp only [R1.out, R2.out, R3.out, R4.out, R5.out, R6.out, hr, Res.bind_ok, Res.bind_no]) hp (BB.out.trans hb) rfl)
    clear hr hp hb
    unfold WrongIs
    go_wp2_with fail
    exact ⟨rfl, HN.out⟩
  replace Kr := Lib.hid ((hb.block _ (Array.getElem?_eq_some_iff.1 Kr.out).1 Nr.out).trans Kr.out)
  replace Ke := Lib.hid ((hb.block _ (Array.getElem?_eq_some_iff.1 Ke.out).1 Ne.out).trans Ke.out)
  replace Kf := Lib.hid ((hb.block _ (Array.getElem?_eq_some_iff.1 Kf.out).1 Nf.out).trans Kf.out)
  replace Kh := Lib.hid ((hb.block _ (Array.getElem?_eq_some_iff.1 Kh.out).1 Nh.out).trans Kh.out)
  replace Fa2 := Lib.hid (Fa2.out.but hb Ga2.out Za2.out)
  replace Za2 := Lib.hid (Nat.le_trans Za2.out hb.size)
  replace Ya2 := Lib.hid Ya2.out
  replace Fa4 := Lib.hid (Fa4.out.but hb Ga4.out Za4.out)
  replace Za4 := Lib.hid (Nat.le_trans Za4.out hb.size)
  replace Ya4 := Lib.hid Ya4.out
  replace Fa6 := Lib.hid (Fa6.out.but hb Ga6.out Za6.out)
  replace Za6 := Lib.hid (Nat.le_trans Za6.out hb.size)
  replace Ya6 := Lib.hid Ya6.out
  obtain rfl : z = .returned (.tuple #[]) := hz
  have R7 := Lib.hid hr
  replace SS := Lib.hid (And.intro hp hkk)
  replace BB := Lib.hid (BB.out.trans hb)
  clear hr hkk hp hb hR
  have l0 := cell_blk Ke.out (j := 0) rfl
  have l1 := cell_blk Ke.out (j := 1) rfl
  have l2 := cell_blk Ke.out (j := 2) rfl
  have l3 := cell_blk Ke.out (j := 3) rfl
  have m0 := cell_blk Kf.out (j := 0) rfl
  have m1 := cell_blk Kf.out (j := 1) rfl
  have m2 := cell_blk Kf.out (j := 2) rfl
  have m3 := cell_blk Kf.out (j := 3) rfl
  have n0 := cell_blk Kh.out (j := 0) rfl
  have n1 := cell_blk Kh.out (j := 1) rfl
  have n2 := cell_blk Kh.out (j := 2) rfl
  have n3 := cell_blk Kh.out (j := 3) rfl
  obtain ⟨Ag, hAg⟩ : ∃ A, w7.alloc (.cells #[.int .i64 a2.op, .int .u64 (a2.word : Int), .string (str a2.name), .slice qa2 a2.args.len ca2, .int .i64 a4.op, .int .u64 (a4.word : Int), .string (str a4.name), .slice qa4 a4.args.len ca4, .int .i64 a6.op, .int .u64 (a6.word : Int), .string (str a6.name), .slice qa6 a6.args.len ca6] 39) = A := ⟨_, rfl⟩
  have VV := Lib.hid (show w.heap.size < w7.heap.size from (Array.getElem?_eq_some_iff.1 Kr.out).1)
  have Xa2 := Lib.hid Za2.out
  have Xa4 := Lib.hid Za4.out
  have Xa6 := Lib.hid Za6.out
  have Xe := Lib.hid (Array.getElem?_eq_some_iff.1 Ke.out).1
  have Xf := Lib.hid (Array.getElem?_eq_some_iff.1 Kf.out).1
  have Xh := Lib.hid (Array.getElem?_eq_some_iff.1 Kh.out).1
  have hBA : Below w7.heap.size w7 Ag := by rw [← hAg]; exact (Below.refl _ _).alloc (Nat.le_refl _) _
  replace Kr := Lib.hid ((hBA.block _ (Array.getElem?_eq_some_iff.1 Kr.out).1).trans Kr.out)
  replace Ke := Lib.hid ((hBA.block _ (Array.getElem?_eq_some_iff.1 Ke.out).1).trans Ke.out)
  replace Kf := Lib.hid ((hBA.block _ (Array.getElem?_eq_some_iff.1 Kf.out).1).trans Kf.out)
  replace Kh := Lib.hid ((hBA.block _ (Array.getElem?_eq_some_iff.1 Kh.out).1).trans Kh.out)
  replace Fa2 := Lib.hid (Fa2.out.bel hBA Za2.out)
  replace Za2 := Lib.hid (Nat.le_trans Za2.out hBA.size)
  replace Ya2 := Lib.hid Ya2.out
  replace Fa4 := Lib.hid (Fa4.out.bel hBA Za4.out)
  replace Za4 := Lib.hid (Nat.le_trans Za4.out hBA.size)
  replace Ya4 := Lib.hid Ya4.out
  replace Fa6 := Lib.hid (Fa6.out.bel hBA Za6.out)
  replace Za6 := Lib.hid (Nat.le_trans Za6.out hBA.size)
  replace Ya6 := Lib.hid Ya6.out
  have Kg := Lib.hid (show Ag.heap[w7.heap.size]? = some (.cells #[.int .i64 a2.op, .int .u64 (a2.word : Int), .string (str a2.name), .slice qa2 a2.args.len ca2, .int .i64 a4.op, .int .u64 (a4.word : Int), .string (str a4.name), .slice qa4 a4.args.len ca4, .int .i64 a6.op, .int .u64 (a6.word : Int), .string (str a6.name), .slice qa6 a6.args.len ca6] 39 (0, 0)) by rw [← hAg]; exact heap_alloc_new w7 _)
  have Ng := Lib.hid (Nat.ne_of_gt SS.out.1.lt_pb)
  have Tg := Lib.hid (Nat.ne_of_gt SS.out.1.lt)
  have Uga2 := Lib.hid (show _ ≤ w7.heap.size from Xa2.out)
  have Uga4 := Lib.hid (show _ ≤ w7.heap.size from Xa4.out)
  have Uga6 := Lib.hid (show _ ≤ w7.heap.size from Xa6.out)
  have Leg := Lib.hid (show w2.heap.size < w7.heap.size from Xe.out)
  have Lfg := Lib.hid (show w4.heap.size < w7.heap.size from Xf.out)
  have Lhg := Lib.hid (show w6.heap.size < w7.heap.size from Xh.out)
  have Mg := Lib.hid (show w.heap.size ≤ w7.heap.size from BB.out.size)
  have Vg := Lib.hid (show w.heap.size < w7.heap.size from VV.out)
  replace SS := Lib.hid (And.intro (SS.out.1.later hBA) SS.out.2)
  replace BB := Lib.hid (BB.out.trans (But.of_below hBA))
  clear hBA
  have HAg := Lib.hid hAg
  clear hAg
  go_wp2_with fail
  try rw [HAg.out]
  clear HAg
  refine (exprOf_any 21 (some ⟨w7.heap.size, 0, none⟩) 3 3 Ag).mono ?_
  rintro z w8 ⟨rfl, hBX⟩
  replace Kr := Lib.hid ((hBX.block _ (Array.getElem?_eq_some_iff.1 Kr.out).1).trans Kr.out)
  replace Ke := Lib.hid ((hBX.block _ (Array.getElem?_eq_some_iff.1 Ke.out).1).trans Ke.out)
  replace Kf := Lib.hid ((hBX.block _ (Array.getElem?_eq_some_iff.1 Kf.out).1).trans Kf.out)
  replace Kh := Lib.hid ((hBX.block _ (Array.getElem?_eq_some_iff.1 Kh.out).1).trans Kh.out)
  replace Kg := Lib.hid ((hBX.block _ (Array.getElem?_eq_some_iff.1 Kg.out).1).trans Kg.out)
  replace Fa2 := Lib.hid (Fa2.out.bel hBX Za2.out)
  replace Za2 := Lib.hid (Nat.le_trans Za2.out hBX.size)
  replace Ya2 := Lib.hid Ya2.out
  replace Fa4 := Lib.hid (Fa4.out.bel hBX Za4.out)
  replace Za4 := Lib.hid (Nat.le_trans Za4.out hBX.size)
  replace Ya4 := Lib.hid Ya4.out
  replace Fa6 := Lib.hid (Fa6.out.bel hBX Za6.out)
  replace Za6 := Lib.hid (Nat.le_trans Za6.out hBX.size)
  replace Ya6 := Lib.hid Ya6.out
  replace SS := Lib.hid (And.intro (SS.out.1.later hBX) SS.out.2)
  replace BB := Lib.hid (BB.out.trans (But.of_below hBX))
  clear hBX
  have z0 := cell_blk Kr.out (j := 0) rfl
  have z1 := cell_blk Kr.out (j := 1) rfl
  have z2 := cell_blk Kr.out (j := 2) rfl
  have z3 := cell_blk Kr.out (j := 3) rfl
  have hf : ∀ j, w8.frozen? ⟨w.heap.size, j, none⟩ = false := fun j => by simp [World.frozen?, Kr.out]
  have f0 := hf 0
  have f1 := hf 1
  have f2 := hf 2
  have f3 := hf 3
  clear hf
  have HR := Lib.hid (set4 Kr.out (.int .i64 21) (.int .u64 0) (.string ⟨#[]⟩) (.slice (some ⟨w7.heap.size, 0, none⟩) 3 3))
  go_wp2_with fail
  have hF := HR.out
  refine bodyPost_ret (v := .agg #[.int .i64 21, .int .u64 0, .string ⟨#[]⟩, .slice (some ⟨w7.heap.size, 0, none⟩) 3 3]) ?_ rfl ?_
  · have y0 := cell_blk hF (j := 0) rfl
    have y1 := cell_blk hF (j := 1) rfl
    have y2 := cell_blk hF (j := 2) rfl
    have y3 := cell_blk hF (j := 3) rfl
    generalize (((w8.setCell ⟨w.heap.size, 0, none⟩ (.int .i64 21)).setCell ⟨w.heap.size, 1, none⟩ (.int .u64 0)).setCell ⟨w.heap.size, 2, none⟩ (.string ⟨#[]⟩)).setCell ⟨w.heap.size, 3, none⟩ (.slice (some ⟨w7.heap.size, 0, none⟩) 3 3) = F at *
    simp [results, Tryz.results168, go_sem, y0, y1, y2, y3]
  · have hn1 : w.heap.size ≠ p.pb := Nr.out
    have hn2 : w.heap.size ≠ p.tb := Nr2.out
    refine .ok k7 (.mk 21 0 [] (.cons a2 (.cons a4 (.cons a6 .nil)))) (some ⟨w7.heap.size, 0, none⟩, 3) (by rw [← HG.out]; first | rfl | simp only [R1.out, R2.out, R3.out, R4.out, R5.out, R6.out, R7.out, Res.bind_ok] | trace_state) SS.out.2 ?_ ?_ rfl ?_
    · exact (((SS.out.1.other (p := ⟨w.heap.size, 0, none⟩) hn1 hn2 _).other (p := ⟨w.heap.size, 1, none⟩) hn1 hn2 _).other (p := ⟨w.heap.size, 2, none⟩) hn1 hn2 _).other (p := ⟨w.heap.size, 3, none⟩) hn1 hn2 _
    · exact (((BB.out.putNew (p := ⟨w.heap.size, 0, none⟩) (Nat.le_refl _) _).putNew (p := ⟨w.heap.size, 1, none⟩) (Nat.le_refl _) _).putNew (p := ⟨w.heap.size, 2, none⟩) (Nat.le_refl _) _).putNew (p := ⟨w.heap.size, 3, none⟩) (Nat.le_refl _) _
    · rw [size4]
      intro W hW
      have hgz : w7.heap.size < w8.heap.size := (Array.getElem?_eq_some_iff.1 Kg.out).1
      have hgr : w7.heap.size ≠ w.heap.size := Nat.ne_of_gt Vg.out
      have hgW := (hW.2 _ Mg.out hgz).trans ((heap_set4 _ _ _ hgr _ _ _ _).trans Kg.out)
      have oa2 : a2.Ok W w8.heap.size qa2 := ((Fa2.out.set4 Va2.out Za2.out _ _ _ _).fin Ya2.out Za2.out (fun W h => Ex.Ok.up h Za2.out)) W hW
      have oa4 : a4.Ok W w8.heap.size qa4 := ((Fa4.out.set4 Va4.out Za4.out _ _ _ _).fin Ya4.out Za4.out (fun W h => Ex.Ok.up h Za4.out)) W hW
      have oa6 : a6.Ok W w8.heap.size qa6 := ((Fa6.out.set4 Va6.out Za6.out _ _ _ _).fin Ya6.out Za6.out (fun W h => Ex.Ok.up h Za6.out)) W hW
      exact ⟨⟨by simp [Ex.args, Exs.len], .inr ⟨_, 0, rfl, hgz, Ex.At.of (cell_blk hgW (j := 0) rfl) (cell_blk hgW (j := 1) rfl) (cell_blk hgW (j := 2) rfl) (cell_blk hgW (j := 3) rfl) oa2, Ex.At.of (cell_blk hgW (j := 4) rfl) (cell_blk hgW (j := 5) rfl) (cell_blk hgW (j := 6) rfl) (cell_blk hgW (j := 7) rfl) oa4, Ex.At.of (cell_blk hgW (j := 8) rfl) (cell_blk hgW (j := 9) rfl) (cell_blk hgW (j := 10) rfl) (cell_blk hgW (j := 11) rfl) oa6, trivial⟩⟩, show (0 : Nat) < 18446744073709551616 by decide⟩
end Go.Proofs.YtchbnkepmeelkaaGreatDoor
