/- An expression, statements, alone. -/
import Derived.Test.YtchbnkepmeelkaaGreatDoorPS2
namespace Go.Proofs.YtchbnkepmeelkaaGreatDoor
open Go.RowKit

theorem wantEnd_p (p : Pp) (k d : Nat) (w : World) (h : Ps w p.pb p.tb p.tf p.tc p.ts k d) (hk : k < p.ts.length) :
    ((hdT (p.ts.drop k)).text = [] → Calls Tryz.prog 101 #[.pointer (some ⟨p.pb, 0, none⟩)] w fun e w' => e = .returned (.tuple #[]) ∧ Below w.heap.size w w') ∧
    ((hdT (p.ts.drop k)).text ≠ [] → Calls Tryz.prog 101 #[.pointer (some ⟨p.pb, 0, none⟩)] w fun e w' => e = WrongIs 15 (hdT (p.ts.drop k)) ∧ Below w.heap.size w w') := by
  obtain ⟨t, ht⟩ := tok_at hk
  rw [drop_hd ht]
  exact ⟨wantEnd_yes p.pb p.tb p.tf p.tc k d p.ts t w h ht, wantEnd_no p.pb p.tb p.tf p.tc k d p.ts t w h ht⟩
set_option maxRecDepth 100000 in
set_option maxHeartbeats 3200000 in
theorem onlyExpr_p (p : Pp) (k d : Nat) (w : World) (h : Ps w p.pb p.tb p.tf p.tc p.ts k d) (hk : k < p.ts.length) (hE : Ends p.ts) (hW : Words p.ts) (h0 : d = 0) :
    Calls Tryz.prog 48 #[.pointer (some ⟨p.pb, 0, none⟩)] w (Post RExpr (onlyExprP (p.ts.drop k)) p d w) := by
  subst h0
  have hpb := h.lt_pb
  have C2 := Lib.hid (expr_all p hE hW 64 0 rfl)
  have C3 := Lib.hid (fun (k : Nat) (w : World) (h : Ps w p.pb p.tb p.tf p.tc p.ts k 0) (hk : k < p.ts.length) => wantEnd_p p k 0 w h hk)
  obtain ⟨W0, hW0⟩ : ∃ W0, w.alloc (.cells #[.int .i64 0, .int .u64 0, .string ⟨#[]⟩, .slice none 0 0] 39) = W0 := ⟨_, rfl⟩
  have hB0 : Below w.heap.size w W0 := by rw [← hW0]; exact (Below.refl _ _).alloc (Nat.le_refl _) _
  have Kr := Lib.hid (show W0.heap[w.heap.size]? = some (.cells #[.int .i64 0, .int .u64 0, .string ⟨#[]⟩, .slice none 0 0] 39 (0, 0)) by rw [← hW0]; exact heap_alloc_new w _)
  have Nr := Lib.hid (Nat.ne_of_gt hpb)
  have Nr2 := Lib.hid (Nat.ne_of_gt h.lt)
  have BB := Lib.hid (But.of_below (g := p.pb) hB0)
  have SS := Lib.hid (And.intro (h.later hB0) hk)
  clear hB0
  have PB := Lib.hid hpb
  clear h hk hE hpb hW
  generalize hG : (onlyExprP (p.ts.drop k)) = G
  unfold onlyExprP at hG
  have HG := Lib.hid hG
  clear hG
  go_enter Tryz.func48, Tryz.ntmps48
  go_wp2_with fail
  try rw [hW0]
  clear hW0
  have Va1 := Lib.hid (show w.heap.size < W0.heap.size from (Array.getElem?_eq_some_iff.1 Kr.out).1)
  refine (C2.out k W0 SS.out.1 SS.out.2).mono ?_
  intro z w1 hc
  rcases hc with ⟨k1, a1, s1, hr, hkk, hp, hb, hz, hR⟩ | ⟨k1, e1, t1, hr, hp, hb, hz⟩
  rotate_left
  · subst hz
    have HN := Lib.hid (show Post RExpr G p 0 w (WrongIs (e1 : Int) t1) w1 from .no k1 e1 t1 (by rw [← HG.out]; simp only [hr, Res.bind_no]) hp (BB.out.trans hb) rfl)
    clear hr hp hb
    unfold WrongIs
    go_wp2_with fail
    exact ⟨rfl, HN.out⟩
  replace Kr := Lib.hid ((hb.block _ (Array.getElem?_eq_some_iff.1 Kr.out).1 Nr.out).trans Kr.out)
  obtain ⟨qa1, ca1⟩ := s1
  obtain rfl : z = .returned (.agg #[.int .i64 a1.op, .int .u64 (a1.word : Int), .string (str a1.name), .slice qa1 a1.args.len ca1]) := hz
  have Fa1 := Lib.hid (show Fresh W0.heap.size w1.heap.size w1 (fun W N => a1.Ok W N qa1) from hR)
  have Ga1 := Lib.hid SS.out.1.lt_pb
  have Za1 := Lib.hid (Nat.le_refl w1.heap.size)
  have Ya1 := Lib.hid (show w.heap.size ≤ W0.heap.size from BB.out.size)
  have R1 := Lib.hid hr
  replace SS := Lib.hid (And.intro hp hkk)
  replace BB := Lib.hid (BB.out.trans hb)
  clear hr hkk hp hb hR
  obtain ⟨Ae, hAe⟩ : ∃ A, w1.alloc (.cells #[.int .i64 a1.op, .int .u64 (a1.word : Int), .string (str a1.name), .slice qa1 a1.args.len ca1] 39) = A := ⟨_, rfl⟩
  have VV := Lib.hid (show w.heap.size < w1.heap.size from (Array.getElem?_eq_some_iff.1 Kr.out).1)
  have Xa1 := Lib.hid Za1.out
  have hBA : Below w1.heap.size w1 Ae := by rw [← hAe]; exact (Below.refl _ _).alloc (Nat.le_refl _) _
  replace Kr := Lib.hid ((hBA.block _ (Array.getElem?_eq_some_iff.1 Kr.out).1).trans Kr.out)
  replace Fa1 := Lib.hid (Fa1.out.bel hBA Za1.out)
  replace Za1 := Lib.hid (Nat.le_trans Za1.out hBA.size)
  replace Ya1 := Lib.hid Ya1.out
  have Ke := Lib.hid (show Ae.heap[w1.heap.size]? = some (.cells #[.int .i64 a1.op, .int .u64 (a1.word : Int), .string (str a1.name), .slice qa1 a1.args.len ca1] 39 (0, 0)) by rw [← hAe]; exact heap_alloc_new w1 _)
  have Ne := Lib.hid (Nat.ne_of_gt SS.out.1.lt_pb)
  have Te := Lib.hid (Nat.ne_of_gt SS.out.1.lt)
  have Uea1 := Lib.hid (show _ ≤ w1.heap.size from Xa1.out)
  have Me := Lib.hid (show w.heap.size ≤ w1.heap.size from BB.out.size)
  have Ve := Lib.hid (show w.heap.size < w1.heap.size from VV.out)
  replace SS := Lib.hid (And.intro (SS.out.1.later hBA) SS.out.2)
  replace BB := Lib.hid (BB.out.trans (But.of_below hBA))
  clear hBA
  have HAe := Lib.hid hAe
  clear hAe
  rcases Classical.em ((hdT (p.ts.drop k1)).text = []) with ht | ht
  · have HY := Lib.hid ((C3.out k1 Ae SS.out.1 SS.out.2).1 ht)
    have Hht := Lib.hid ht
    clear ht
    go_wp2_with fail
    try rw [HAe.out]
    clear HAe
    refine (HY.out).mono ?_
    rintro z w2 ⟨rfl, hBX⟩
    replace Kr := Lib.hid ((hBX.block _ (Array.getElem?_eq_some_iff.1 Kr.out).1).trans Kr.out)
    replace Ke := Lib.hid ((hBX.block _ (Array.getElem?_eq_some_iff.1 Ke.out).1).trans Ke.out)
    replace Fa1 := Lib.hid (Fa1.out.bel hBX Za1.out)
    replace Za1 := Lib.hid (Nat.le_trans Za1.out hBX.size)
    replace Ya1 := Lib.hid Ya1.out
    replace SS := Lib.hid (And.intro (SS.out.1.later hBX) SS.out.2)
    replace BB := Lib.hid (BB.out.trans (But.of_below hBX))
    clear hBX
    have l0 := cell_blk Ke.out (j := 0) rfl
    have l1 := cell_blk Ke.out (j := 1) rfl
    have l2 := cell_blk Ke.out (j := 2) rfl
    have l3 := cell_blk Ke.out (j := 3) rfl
    have z0 := cell_blk Kr.out (j := 0) rfl
    have z1 := cell_blk Kr.out (j := 1) rfl
    have z2 := cell_blk Kr.out (j := 2) rfl
    have z3 := cell_blk Kr.out (j := 3) rfl
    have hf : ∀ j, w2.frozen? ⟨w.heap.size, j, none⟩ = false := fun j => by simp [World.frozen?, Kr.out]
    have f0 := hf 0
    have f1 := hf 1
    have f2 := hf 2
    have f3 := hf 3
    clear hf
    have HR := Lib.hid (set4 Kr.out (.int .i64 a1.op) (.int .u64 (a1.word : Int)) (.string (str a1.name)) (.slice qa1 a1.args.len ca1))
    go_wp2_with fail
    have hF := HR.out
    refine bodyPost_ret (v := .agg #[.int .i64 a1.op, .int .u64 (a1.word : Int), .string (str a1.name), .slice qa1 a1.args.len ca1]) ?_ rfl ?_
    · have y0 := cell_blk hF (j := 0) rfl
      have y1 := cell_blk hF (j := 1) rfl
      have y2 := cell_blk hF (j := 2) rfl
      have y3 := cell_blk hF (j := 3) rfl
      generalize (((w2.setCell ⟨w.heap.size, 0, none⟩ (.int .i64 a1.op)).setCell ⟨w.heap.size, 1, none⟩ (.int .u64 (a1.word : Int))).setCell ⟨w.heap.size, 2, none⟩ (.string (str a1.name))).setCell ⟨w.heap.size, 3, none⟩ (.slice qa1 a1.args.len ca1) = F at *
      simp [results, Tryz.results48, go_sem, y0, y1, y2, y3]
    · have hn1 : w.heap.size ≠ p.pb := Nr.out
      have hn2 : w.heap.size ≠ p.tb := Nr2.out
      refine .ok k1 a1 (qa1, ca1) (by rw [← HG.out]; first | rfl | simp only [R1.out, wantP, if_pos Hht.out, Res.bind_ok] | trace_state) SS.out.2 ?_ ?_ rfl ?_
      · exact (((SS.out.1.other (p := ⟨w.heap.size, 0, none⟩) hn1 hn2 _).other (p := ⟨w.heap.size, 1, none⟩) hn1 hn2 _).other (p := ⟨w.heap.size, 2, none⟩) hn1 hn2 _).other (p := ⟨w.heap.size, 3, none⟩) hn1 hn2 _
      · exact (((BB.out.putNew (p := ⟨w.heap.size, 0, none⟩) (Nat.le_refl _) _).putNew (p := ⟨w.heap.size, 1, none⟩) (Nat.le_refl _) _).putNew (p := ⟨w.heap.size, 2, none⟩) (Nat.le_refl _) _).putNew (p := ⟨w.heap.size, 3, none⟩) (Nat.le_refl _) _
      · rw [size4]
        exact (Fa1.out.set4 Va1.out Za1.out _ _ _ _).fin Ya1.out Za1.out (fun W h => Ex.Ok.up h Za1.out)
  · have HY := Lib.hid ((C3.out k1 Ae SS.out.1 SS.out.2).2 ht)
    have Hht := Lib.hid ht
    clear ht
    go_wp2_with fail
    try rw [HAe.out]
    clear HAe
    refine HY.out.mono ?_
    rintro z w9 ⟨rfl, hB⟩
    have HN := Lib.hid (show Post RExpr G p 0 w (WrongIs 15 (hdT (p.ts.drop k1))) w9 from .no k1 15 _ (by rw [← HG.out]; simp only [R1.out, Res.bind_ok, wantP, if_neg Hht.out, Res.bind_no]) (SS.out.1.later hB) (BB.out.trans (But.of_below hB)) rfl)
    clear hB
    unfold WrongIs
    go_wp2_with fail
    exact ⟨rfl, HN.out⟩
set_option maxRecDepth 100000 in
set_option maxHeartbeats 3200000 in
theorem onlyStmts_p (p : Pp) (k d : Nat) (w : World) (h : Ps w p.pb p.tb p.tf p.tc p.ts k d) (hk : k < p.ts.length) (hE : Ends p.ts) (hsm : p.ts.length ≤ 100000) (hW : Words p.ts) (h0 : d = 0) :
    Calls Tryz.prog 52 #[.pointer (some ⟨p.pb, 0, none⟩)] w (Post RBody (onlyStmtsP (p.ts.drop k)) p d w) := by
  subst h0
  have hpb := h.lt_pb
  have CL := Lib.hid (fun (k : Nat) (w : World) (h : Ps w p.pb p.tb p.tf p.tc p.ts k 0) (hk : k < p.ts.length) => ahead_stmts 64 [] p k 0 w h hk hE hsm (stmt_all p hE hW hsm 64 0 rfl) (stmtP_shs 64))
  have BB := Lib.hid (But.refl p.pb w)
  have SS := Lib.hid (And.intro h hk)
  have PB := Lib.hid hpb
  clear h hk hE hpb hW hsm
  generalize hG : (onlyStmtsP (p.ts.drop k)) = G
  unfold onlyStmtsP at hG
  have HG := Lib.hid hG
  clear hG
  go_enter Tryz.func52, Tryz.ntmps52
  go_wp2_with fail
  refine (CL.out k w SS.out.1 SS.out.2).mono ?_
  intro z w1 hc
  rcases hc with ⟨k1, a1, s1, hr, hkk, hp, hb, hz, hR⟩ | ⟨k1, e1, t1, hr, hp, hb, hz⟩
  rotate_left
  · subst hz
    have HN := Lib.hid (show Post RBody G p 0 w (WrongIs (e1 : Int) t1) w1 from .no k1 e1 t1 (by rw [← HG.out]; simp only [hr, Res.bind_no]) hp (BB.out.trans hb) rfl)
    clear hr hp hb
    unfold WrongIs
    go_wp2_with fail
    exact ⟨rfl, HN.out⟩
  obtain ⟨qa1, ca1⟩ := s1
  obtain rfl : z = .returned (.slice qa1 (stsOf a1).len ca1) := by rw [stsOf_len]; exact hz
  replace hR := Fresh.imp (Q := fun W N => (stsOf a1).In W N qa1) hR (fun W h => sts_in h.2)
  have Fa1 := Lib.hid (show Fresh w.heap.size w1.heap.size w1 (fun W N => (stsOf a1).In W N qa1) from hR)
  have Ga1 := Lib.hid SS.out.1.lt_pb
  have Za1 := Lib.hid (Nat.le_refl w1.heap.size)
  have Ya1 := Lib.hid (show w.heap.size ≤ w.heap.size from BB.out.size)
  have R1 := Lib.hid hr
  replace SS := Lib.hid (And.intro hp hkk)
  replace BB := Lib.hid (BB.out.trans hb)
  clear hr hkk hp hb hR
  go_wp2_with fail
  go_ret
  exact .ok k1 (stsOf a1) (qa1, ca1) (by rw [← HG.out]; simp only [R1.out, Res.bind_ok]) SS.out.2 SS.out.1 BB.out rfl (Fa1.out.fin Ya1.out Za1.out (fun W h => Sts.In.up h Za1.out))
end Go.Proofs.YtchbnkepmeelkaaGreatDoor
