/- KP5, KP6 as one. -/
import Derived.Test.YtchbnkepmeelkaaGreatDoorPO
/- A statement, case by case. -/
namespace Go.Proofs.YtchbnkepmeelkaaGreatDoor
open Go.RowKit
set_option maxRecDepth 100000 in
set_option maxHeartbeats 3200000 in
theorem stmt_call (n : Nat) (p : Pp) (k d : Nat) (w : World) (h : Ps w p.pb p.tb p.tf p.tc p.ts k d) (hk : k < p.ts.length) (hE : Ends p.ts) (hsm : p.ts.length ≤ 100000) (_hW : Words p.ts) (hd : d < 64) (HX : ExprC p n (d + 1)) (_HB : BlockC p n (d + 1)) (hsh : Shr (exprP n)) (_hS1 : Shr nameP) (hb : beginsS (hdT (p.ts.drop k)) = true) (gif : (hdT (p.ts.drop k)).text ≠ wIf) (gwhile : (hdT (p.ts.drop k)).text ≠ wWhile) (gfor : (hdT (p.ts.drop k)).text ≠ wFor) (gI : ¬ ((hdT (p.ts.drop k)).kind = 1 ∧ (hdT (p.ts.drop (k + 1))).text = [91])) (gP : ((hdT (p.ts.drop k)).kind = 1 ∧ (hdT (p.ts.drop (k + 1))).text = [40])) :
    Calls Tryz.prog 105 #[.pointer (some ⟨p.pb, 0, none⟩)] w (Post RStmt (callP n [] (p.ts.drop k)) p d w) := by
  have hpb := h.lt_pb
  obtain ⟨t, ht⟩ := tok_at hk
  have hh := drop_hd ht
  rw [hh] at hb
  have CE := Lib.hid (fun (w : World) (h : Ps w p.pb p.tb p.tf p.tc p.ts k d) => isStmt_any p.pb p.tb p.tf p.tc k d p.ts t w h ht)
  have CB0 := Lib.hid (fun (w : World) (h : Ps w p.pb p.tb p.tf p.tc p.ts k d) => begin_yes p.pb p.tb p.tf p.tc k d p.ts w h hd)
  have HD := Lib.hid (hd)
  have Tif := Lib.hid (fun (w : World) (h : Ps w p.pb p.tb p.tf p.tc p.ts k (d + 1)) => take_no wIf p k (d + 1) w h hk gif)
  have Twhile := Lib.hid (fun (w : World) (h : Ps w p.pb p.tb p.tf p.tc p.ts k (d + 1)) => take_no wWhile p k (d + 1) w h hk gwhile)
  have Tfor := Lib.hid (fun (w : World) (h : Ps w p.pb p.tb p.tf p.tc p.ts k (d + 1)) => take_no wFor p k (d + 1) w h hk gfor)
  have AI := Lib.hid (fun (w : World) (h : Ps w p.pb p.tb p.tf p.tc p.ts k (d + 1)) => ahead_p [91] p k (d + 1) w h hk hE)
  have AP := Lib.hid (fun (w : World) (h : Ps w p.pb p.tb p.tf p.tc p.ts k (d + 1)) => ahead_p [40] p k (d + 1) w h hk hE)
  have CX := Lib.hid (fun (k : Nat) (w : World) (h : Ps w p.pb p.tb p.tf p.tc p.ts k (d + 1)) (hk : k < p.ts.length) => call_p n w.heap.size [] none 0 p k (d + 1) w h hk hE hsm HX hsh (Nat.le_refl _) h.lt_pb (fun W _ => names_nil W _ _))
  obtain ⟨W0, hW0⟩ : ∃ W0, w.alloc (.cells #[.int .i64 0, .string ⟨#[]⟩, .slice none 0 0, .int .i64 0, .int .u64 0, .string ⟨#[]⟩, .slice none 0 0, .int .i64 0, .int .u64 0, .string ⟨#[]⟩, .slice none 0 0, .slice none 0 0, .int .u64 0, .int .u64 0, .slice none 0 0, .slice none 0 0] 69) = W0 := ⟨_, rfl⟩
  have hB0 : Below w.heap.size w W0 := by rw [← hW0]; exact (Below.refl _ _).alloc (Nat.le_refl _) _
  have Kr := Lib.hid (show W0.heap[w.heap.size]? = some (.cells #[.int .i64 0, .string ⟨#[]⟩, .slice none 0 0, .int .i64 0, .int .u64 0, .string ⟨#[]⟩, .slice none 0 0, .int .i64 0, .int .u64 0, .string ⟨#[]⟩, .slice none 0 0, .slice none 0 0, .int .u64 0, .int .u64 0, .slice none 0 0, .slice none 0 0] 69 (0, 0)) by rw [← hW0]; exact heap_alloc_new w _)
  have Nr := Lib.hid (Nat.ne_of_gt hpb)
  have Nr2 := Lib.hid (Nat.ne_of_gt h.lt)
  have BB := Lib.hid (But.of_below (g := p.pb) hB0)
  have SS := Lib.hid (And.intro (h.later hB0) hk)
  clear hB0
  have PB := Lib.hid hpb
  rw [hb] at CE
  rw [decide_eq_true gP] at AP
  rw [decide_eq_false gI] at AI
  clear h hk hE hpb hh ht hb _hW hd HX _HB hsh _hS1 gif gwhile gfor gI gP
  generalize hG : (callP n [] (p.ts.drop k)) = G
  have HG := Lib.hid hG
  clear hG
  go_enter_defers Tryz.func105, Tryz.ntmps105
  go_wp2_with fail
  try rw [hW0]
  clear hW0
  refine (CE.out W0 SS.out.1).mono ?_
  rintro z w1 ⟨rfl, hBX⟩
  replace Kr := Lib.hid ((hBX.block _ (Array.getElem?_eq_some_iff.1 Kr.out).1).trans Kr.out)
  replace SS := Lib.hid (And.intro (SS.out.1.later hBX) SS.out.2)
  replace BB := Lib.hid (BB.out.trans (But.of_below hBX))
  clear hBX
  go_wp2_with fail
  refine (CB0.out w1 SS.out.1).mono ?_
  rintro z w2 ⟨rfl, hp, hb⟩
  replace Kr := Lib.hid ((hb.block _ (Array.getElem?_eq_some_iff.1 Kr.out).1 Nr.out).trans Kr.out)
  replace SS := Lib.hid (And.intro hp SS.out.2)
  replace BB := Lib.hid (BB.out.trans hb)
  clear hp hb
  go_wp2_with fail
  refine (Tif.out w2 SS.out.1).mono ?_
  rintro z w3 ⟨rfl, hp, hb⟩
  replace Kr := Lib.hid ((hb.block _ (Array.getElem?_eq_some_iff.1 Kr.out).1 Nr.out).trans Kr.out)
  replace SS := Lib.hid (And.intro hp SS.out.2)
  replace BB := Lib.hid (BB.out.trans hb)
  clear hp hb
  go_wp2_with fail
  refine (Twhile.out w3 SS.out.1).mono ?_
  rintro z w4 ⟨rfl, hp, hb⟩
  replace Kr := Lib.hid ((hb.block _ (Array.getElem?_eq_some_iff.1 Kr.out).1 Nr.out).trans Kr.out)
  replace SS := Lib.hid (And.intro hp SS.out.2)
  replace BB := Lib.hid (BB.out.trans hb)
  clear hp hb
  go_wp2_with fail
  refine (Tfor.out w4 SS.out.1).mono ?_
  rintro z w5 ⟨rfl, hp, hb⟩
  replace Kr := Lib.hid ((hb.block _ (Array.getElem?_eq_some_iff.1 Kr.out).1 Nr.out).trans Kr.out)
  replace SS := Lib.hid (And.intro hp SS.out.2)
  replace BB := Lib.hid (BB.out.trans hb)
  clear hp hb
  go_wp2_with fail
  refine (AI.out w5 SS.out.1).mono ?_
  rintro z w6 ⟨rfl, hBX⟩
  replace Kr := Lib.hid ((hBX.block _ (Array.getElem?_eq_some_iff.1 Kr.out).1).trans Kr.out)
  replace SS := Lib.hid (And.intro (SS.out.1.later hBX) SS.out.2)
  replace BB := Lib.hid (BB.out.trans (But.of_below hBX))
  clear hBX
  go_wp2_with fail
  refine (AP.out w6 SS.out.1).mono ?_
  rintro z w7 ⟨rfl, hBX⟩
  replace Kr := Lib.hid ((hBX.block _ (Array.getElem?_eq_some_iff.1 Kr.out).1).trans Kr.out)
  replace SS := Lib.hid (And.intro (SS.out.1.later hBX) SS.out.2)
  replace BB := Lib.hid (BB.out.trans (But.of_below hBX))
  clear hBX
  go_wp2_with fail
  have Va8 := Lib.hid (show w.heap.size < w7.heap.size from (Array.getElem?_eq_some_iff.1 Kr.out).1)
  refine (CX.out k w7 SS.out.1 SS.out.2).mono ?_
  intro z w8 hc
  rcases hc with ⟨k8, a8, s8, hr, hkk, hp, hb, hz, hR⟩ | ⟨k8, e8, t8, hr, hp, hb, hz⟩
  rotate_left
  · subst hz
    have HN := Lib.hid (And.intro hp (And.intro (BB.out.trans hb) (show G = .no e8 t8 by rw [← HG.out]; simp only [hr])))
    clear hr hp hb
    unfold WrongIs
    go_wp2_with fail
    refine leaves_cons (f := 162) (args := #[.pointer (some ⟨p.pb, 0, none⟩)]) (by simp) (by simp [go_sem]) ?_
    refine (done_any p.pb p.tb p.tf p.tc k8 d p.ts _ _ HN.out.1 (by have := HD.out; omega)).mono ?_
    rintro e u w9 ⟨rfl, rfl, hP, hB⟩
    exact .no k8 e8 t8 HN.out.2.2 hP (HN.out.2.1.trans hB) rfl
  replace Kr := Lib.hid ((hb.block _ (Array.getElem?_eq_some_iff.1 Kr.out).1 Nr.out).trans Kr.out)
  obtain ⟨pnz, pez, paz, pgz, pbz, plz, cnz, cez, caz, cgz, cbz, clz⟩ := s8
  obtain rfl : z = .returned (.agg #[.int .i64 a8.kind, .string (str a8.name), .slice pnz a8.names.length cnz, .int .i64 a8.e.op, .int .u64 (a8.e.word : Int), .string (str a8.e.name), .slice pez a8.e.args.len cez, .int .i64 a8.a.op, .int .u64 (a8.a.word : Int), .string (str a8.a.name), .slice paz a8.a.args.len caz, .slice pgz a8.args.len cgz, .int .u64 (a8.low : Int), .int .u64 (a8.high : Int), .slice pbz a8.body.len cbz, .slice plz a8.els.len clz]) := hz
  have Fa8 := Lib.hid (show Fresh w7.heap.size w8.heap.size w8 (fun W N => a8.Ok W N (⟨pnz, pez, paz, pgz, pbz, plz, cnz, cez, caz, cgz, cbz, clz⟩ : StP)) from hR)
  have Ga8 := Lib.hid SS.out.1.lt_pb
  have Za8 := Lib.hid (Nat.le_refl w8.heap.size)
  have Ya8 := Lib.hid (show w.heap.size ≤ w7.heap.size from BB.out.size)
  have R8 := Lib.hid hr
  replace SS := Lib.hid (And.intro hp hkk)
  replace BB := Lib.hid (BB.out.trans hb)
  clear hr hkk hp hb hR
  go_wp2_with (refine wpl_put rfl _ _ _ rfl rfl w.heap.size 0 (.agg #[.int .i64 a8.kind, .string (str a8.name), .slice pnz a8.names.length cnz, .int .i64 a8.e.op, .int .u64 (a8.e.word : Int), .string (str a8.e.name), .slice pez a8.e.args.len cez, .int .i64 a8.a.op, .int .u64 (a8.a.word : Int), .string (str a8.a.name), .slice paz a8.a.args.len caz, .slice pgz a8.args.len cgz, .int .u64 (a8.low : Int), .int .u64 (a8.high : Int), .slice pbz a8.body.len cbz, .slice plz a8.els.len clz]) rfl rfl _ _ Kr.out (by exact Nat.le_of_ble_eq_true rfl) infoSt rfl ?_; intro wF hF hbF hzF)
  have hG : wF.heap[w.heap.size]? = some (.cells #[.int .i64 a8.kind, .string (str a8.name), .slice pnz a8.names.length cnz, .int .i64 a8.e.op, .int .u64 (a8.e.word : Int), .string (str a8.e.name), .slice pez a8.e.args.len cez, .int .i64 a8.a.op, .int .u64 (a8.a.word : Int), .string (str a8.a.name), .slice paz a8.a.args.len caz, .slice pgz a8.args.len cgz, .int .u64 (a8.low : Int), .int .u64 (a8.high : Int), .slice pbz a8.body.len cbz, .slice plz a8.els.len clz] 69 (0, 0)) := hF.trans (congrArg (fun a => some (Obj.cells a 69 (0, 0))) (putA_all (cur := #[.int .i64 0, .string ⟨#[]⟩, .slice none 0 0, .int .i64 0, .int .u64 0, .string ⟨#[]⟩, .slice none 0 0, .int .i64 0, .int .u64 0, .string ⟨#[]⟩, .slice none 0 0, .slice none 0 0, .int .u64 0, .int .u64 0, .slice none 0 0, .slice none 0 0]) (vs := #[.int .i64 a8.kind, .string (str a8.name), .slice pnz a8.names.length cnz, .int .i64 a8.e.op, .int .u64 (a8.e.word : Int), .string (str a8.e.name), .slice pez a8.e.args.len cez, .int .i64 a8.a.op, .int .u64 (a8.a.word : Int), .string (str a8.a.name), .slice paz a8.a.args.len caz, .slice pgz a8.args.len cgz, .int .u64 (a8.low : Int), .int .u64 (a8.high : Int), .slice pbz a8.body.len cbz, .slice plz a8.els.len clz]) rfl))
  clear hF
  refine leaves_cons (f := 162) (args := #[.pointer (some ⟨p.pb, 0, none⟩)]) (by simp) (by simp [go_sem]) ?_
  refine (done_any p.pb p.tb p.tf p.tc k8 d p.ts _ _ (SS.out.1.aside hbF Nr.out Nr2.out) (by have := HD.out; omega)).mono ?_
  rintro e u w9 ⟨rfl, rfl, hP, hB⟩
  have hF := (hB.block _ (Array.getElem?_eq_some_iff.1 hG).1 Nr.out).trans hG
  have y0 := cell_blk hF (j := 0) rfl
  have y1 := cell_blk hF (j := 1) rfl
  have y2 := cell_blk hF (j := 2) rfl
  have y3 := cell_blk hF (j := 3) rfl
  have y4 := cell_blk hF (j := 4) rfl
  have y5 := cell_blk hF (j := 5) rfl
  have y6 := cell_blk hF (j := 6) rfl
  have y7 := cell_blk hF (j := 7) rfl
  have y8 := cell_blk hF (j := 8) rfl
  have y9 := cell_blk hF (j := 9) rfl
  have y10 := cell_blk hF (j := 10) rfl
  have y11 := cell_blk hF (j := 11) rfl
  have y12 := cell_blk hF (j := 12) rfl
  have y13 := cell_blk hF (j := 13) rfl
  have y14 := cell_blk hF (j := 14) rfl
  have y15 := cell_blk hF (j := 15) rfl
  refine ⟨.agg #[.int .i64 a8.kind, .string (str a8.name), .slice pnz a8.names.length cnz, .int .i64 a8.e.op, .int .u64 (a8.e.word : Int), .string (str a8.e.name), .slice pez a8.e.args.len cez, .int .i64 a8.a.op, .int .u64 (a8.a.word : Int), .string (str a8.a.name), .slice paz a8.a.args.len caz, .slice pgz a8.args.len cgz, .int .u64 (a8.low : Int), .int .u64 (a8.high : Int), .slice pbz a8.body.len cbz, .slice plz a8.els.len clz], ?_, .ok k8 a8 (⟨pnz, pez, paz, pgz, pbz, plz, cnz, cez, caz, cgz, cbz, clz⟩ : StP) (by rw [← HG.out]; simp only [R8.out]) SS.out.2 hP ((BB.out.fin hbF (Nat.le_refl _)).trans hB) rfl ?_⟩
  · simp [results, Tryz.results105, go_sem, y0, y1, y2, y3, y4, y5, y6, y7, y8, y9, y10, y11, y12, y13, y14, y15]
  · exact ((Fa8.out.asd hbF (Or.inl Va8.out) Za8.out).but hB Ga8.out (Nat.le_trans Za8.out hbF.size)).fin Ya8.out (Nat.le_trans (Nat.le_trans Za8.out hbF.size) hB.size) (fun W h => St.Ok.up h (Nat.le_trans (Nat.le_trans Za8.out hbF.size) hB.size))
end Go.Proofs.YtchbnkepmeelkaaGreatDoor
/- A statement, case by case. -/
namespace Go.Proofs.YtchbnkepmeelkaaGreatDoor
open Go.RowKit
set_option maxRecDepth 100000 in
set_option maxHeartbeats 3200000 in
theorem stmt_set (n : Nat) (p : Pp) (k d : Nat) (w : World) (h : Ps w p.pb p.tb p.tf p.tc p.ts k d) (hk : k < p.ts.length) (hE : Ends p.ts) (hsm : p.ts.length ≤ 100000) (_hW : Words p.ts) (hd : d < 64) (HX : ExprC p n (d + 1)) (_HB : BlockC p n (d + 1)) (hsh : Shr (exprP n)) (hS1 : Shr nameP) (hb : beginsS (hdT (p.ts.drop k)) = true) (gif : (hdT (p.ts.drop k)).text ≠ wIf) (gwhile : (hdT (p.ts.drop k)).text ≠ wWhile) (gfor : (hdT (p.ts.drop k)).text ≠ wFor) (gI : ¬ ((hdT (p.ts.drop k)).kind = 1 ∧ (hdT (p.ts.drop (k + 1))).text = [91])) (gP : ¬ ((hdT (p.ts.drop k)).kind = 1 ∧ (hdT (p.ts.drop (k + 1))).text = [40])) :
    Calls Tryz.prog 105 #[.pointer (some ⟨p.pb, 0, none⟩)] w (Post RStmt (setP n (p.ts.drop k)) p d w) := by
  have hpb := h.lt_pb
  obtain ⟨t, ht⟩ := tok_at hk
  have hh := drop_hd ht
  rw [hh] at hb
  have CE := Lib.hid (fun (w : World) (h : Ps w p.pb p.tb p.tf p.tc p.ts k d) => isStmt_any p.pb p.tb p.tf p.tc k d p.ts t w h ht)
  have CB0 := Lib.hid (fun (w : World) (h : Ps w p.pb p.tb p.tf p.tc p.ts k d) => begin_yes p.pb p.tb p.tf p.tc k d p.ts w h hd)
  have HD := Lib.hid (hd)
  have Tif := Lib.hid (fun (w : World) (h : Ps w p.pb p.tb p.tf p.tc p.ts k (d + 1)) => take_no wIf p k (d + 1) w h hk gif)
  have Twhile := Lib.hid (fun (w : World) (h : Ps w p.pb p.tb p.tf p.tc p.ts k (d + 1)) => take_no wWhile p k (d + 1) w h hk gwhile)
  have Tfor := Lib.hid (fun (w : World) (h : Ps w p.pb p.tb p.tf p.tc p.ts k (d + 1)) => take_no wFor p k (d + 1) w h hk gfor)
  have AI := Lib.hid (fun (w : World) (h : Ps w p.pb p.tb p.tf p.tc p.ts k (d + 1)) => ahead_p [91] p k (d + 1) w h hk hE)
  have AP := Lib.hid (fun (w : World) (h : Ps w p.pb p.tb p.tf p.tc p.ts k (d + 1)) => ahead_p [40] p k (d + 1) w h hk hE)
  have CX := Lib.hid (fun (k : Nat) (w : World) (h : Ps w p.pb p.tb p.tf p.tc p.ts k (d + 1)) (hk : k < p.ts.length) => set_p n p k (d + 1) w h hk hE hsm HX hsh hS1)
  obtain ⟨W0, hW0⟩ : ∃ W0, w.alloc (.cells #[.int .i64 0, .string ⟨#[]⟩, .slice none 0 0, .int .i64 0, .int .u64 0, .string ⟨#[]⟩, .slice none 0 0, .int .i64 0, .int .u64 0, .string ⟨#[]⟩, .slice none 0 0, .slice none 0 0, .int .u64 0, .int .u64 0, .slice none 0 0, .slice none 0 0] 69) = W0 := ⟨_, rfl⟩
  have hB0 : Below w.heap.size w W0 := by rw [← hW0]; exact (Below.refl _ _).alloc (Nat.le_refl _) _
  have Kr := Lib.hid (show W0.heap[w.heap.size]? = some (.cells #[.int .i64 0, .string ⟨#[]⟩, .slice none 0 0, .int .i64 0, .int .u64 0, .string ⟨#[]⟩, .slice none 0 0, .int .i64 0, .int .u64 0, .string ⟨#[]⟩, .slice none 0 0, .slice none 0 0, .int .u64 0, .int .u64 0, .slice none 0 0, .slice none 0 0] 69 (0, 0)) by rw [← hW0]; exact heap_alloc_new w _)
  have Nr := Lib.hid (Nat.ne_of_gt hpb)
  have Nr2 := Lib.hid (Nat.ne_of_gt h.lt)
  have BB := Lib.hid (But.of_below (g := p.pb) hB0)
  have SS := Lib.hid (And.intro (h.later hB0) hk)
  clear hB0
  have PB := Lib.hid hpb
  rw [hb] at CE
  rw [decide_eq_false gP] at AP
  rw [decide_eq_false gI] at AI
  clear h hk hE hpb hh ht hb _hW hd HX _HB hsh hS1 gif gwhile gfor gI gP
  generalize hG : (setP n (p.ts.drop k)) = G
  have HG := Lib.hid hG
  clear hG
  go_enter_defers Tryz.func105, Tryz.ntmps105
  go_wp2_with fail
  try rw [hW0]
  clear hW0
  refine (CE.out W0 SS.out.1).mono ?_
  rintro z w1 ⟨rfl, hBX⟩
  replace Kr := Lib.hid ((hBX.block _ (Array.getElem?_eq_some_iff.1 Kr.out).1).trans Kr.out)
  replace SS := Lib.hid (And.intro (SS.out.1.later hBX) SS.out.2)
  replace BB := Lib.hid (BB.out.trans (But.of_below hBX))
  clear hBX
  go_wp2_with fail
  refine (CB0.out w1 SS.out.1).mono ?_
  rintro z w2 ⟨rfl, hp, hb⟩
  replace Kr := Lib.hid ((hb.block _ (Array.getElem?_eq_some_iff.1 Kr.out).1 Nr.out).trans Kr.out)
  replace SS := Lib.hid (And.intro hp SS.out.2)
  replace BB := Lib.hid (BB.out.trans hb)
  clear hp hb
  go_wp2_with fail
  refine (Tif.out w2 SS.out.1).mono ?_
  rintro z w3 ⟨rfl, hp, hb⟩
  replace Kr := Lib.hid ((hb.block _ (Array.getElem?_eq_some_iff.1 Kr.out).1 Nr.out).trans Kr.out)
  replace SS := Lib.hid (And.intro hp SS.out.2)
  replace BB := Lib.hid (BB.out.trans hb)
  clear hp hb
  go_wp2_with fail
  refine (Twhile.out w3 SS.out.1).mono ?_
  rintro z w4 ⟨rfl, hp, hb⟩
  replace Kr := Lib.hid ((hb.block _ (Array.getElem?_eq_some_iff.1 Kr.out).1 Nr.out).trans Kr.out)
  replace SS := Lib.hid (And.intro hp SS.out.2)
  replace BB := Lib.hid (BB.out.trans hb)
  clear hp hb
  go_wp2_with fail
  refine (Tfor.out w4 SS.out.1).mono ?_
  rintro z w5 ⟨rfl, hp, hb⟩
  replace Kr := Lib.hid ((hb.block _ (Array.getElem?_eq_some_iff.1 Kr.out).1 Nr.out).trans Kr.out)
  replace SS := Lib.hid (And.intro hp SS.out.2)
  replace BB := Lib.hid (BB.out.trans hb)
  clear hp hb
  go_wp2_with fail
  refine (AI.out w5 SS.out.1).mono ?_
  rintro z w6 ⟨rfl, hBX⟩
  replace Kr := Lib.hid ((hBX.block _ (Array.getElem?_eq_some_iff.1 Kr.out).1).trans Kr.out)
  replace SS := Lib.hid (And.intro (SS.out.1.later hBX) SS.out.2)
  replace BB := Lib.hid (BB.out.trans (But.of_below hBX))
  clear hBX
  go_wp2_with fail
  refine (AP.out w6 SS.out.1).mono ?_
  rintro z w7 ⟨rfl, hBX⟩
  replace Kr := Lib.hid ((hBX.block _ (Array.getElem?_eq_some_iff.1 Kr.out).1).trans Kr.out)
  replace SS := Lib.hid (And.intro (SS.out.1.later hBX) SS.out.2)
  replace BB := Lib.hid (BB.out.trans (But.of_below hBX))
  clear hBX
  go_wp2_with fail
  have Va8 := Lib.hid (show w.heap.size < w7.heap.size from (Array.getElem?_eq_some_iff.1 Kr.out).1)
  refine (CX.out k w7 SS.out.1 SS.out.2).mono ?_
  intro z w8 hc
  rcases hc with ⟨k8, a8, s8, hr, hkk, hp, hb, hz, hR⟩ | ⟨k8, e8, t8, hr, hp, hb, hz⟩
  rotate_left
  · subst hz
    have HN := Lib.hid (And.intro hp (And.intro (BB.out.trans hb) (show G = .no e8 t8 by rw [← HG.out]; simp only [hr])))
    clear hr hp hb
    unfold WrongIs
    go_wp2_with fail
    refine leaves_cons (f := 162) (args := #[.pointer (some ⟨p.pb, 0, none⟩)]) (by simp) (by simp [go_sem]) ?_
    refine (done_any p.pb p.tb p.tf p.tc k8 d p.ts _ _ HN.out.1 (by have := HD.out; omega)).mono ?_
    rintro e u w9 ⟨rfl, rfl, hP, hB⟩
    exact .no k8 e8 t8 HN.out.2.2 hP (HN.out.2.1.trans hB) rfl
  replace Kr := Lib.hid ((hb.block _ (Array.getElem?_eq_some_iff.1 Kr.out).1 Nr.out).trans Kr.out)
  obtain ⟨pnz, pez, paz, pgz, pbz, plz, cnz, cez, caz, cgz, cbz, clz⟩ := s8
  obtain rfl : z = .returned (.agg #[.int .i64 a8.kind, .string (str a8.name), .slice pnz a8.names.length cnz, .int .i64 a8.e.op, .int .u64 (a8.e.word : Int), .string (str a8.e.name), .slice pez a8.e.args.len cez, .int .i64 a8.a.op, .int .u64 (a8.a.word : Int), .string (str a8.a.name), .slice paz a8.a.args.len caz, .slice pgz a8.args.len cgz, .int .u64 (a8.low : Int), .int .u64 (a8.high : Int), .slice pbz a8.body.len cbz, .slice plz a8.els.len clz]) := hz
  have Fa8 := Lib.hid (show Fresh w7.heap.size w8.heap.size w8 (fun W N => a8.Ok W N (⟨pnz, pez, paz, pgz, pbz, plz, cnz, cez, caz, cgz, cbz, clz⟩ : StP)) from hR)
  have Ga8 := Lib.hid SS.out.1.lt_pb
  have Za8 := Lib.hid (Nat.le_refl w8.heap.size)
  have Ya8 := Lib.hid (show w.heap.size ≤ w7.heap.size from BB.out.size)
  have R8 := Lib.hid hr
  replace SS := Lib.hid (And.intro hp hkk)
  replace BB := Lib.hid (BB.out.trans hb)
  clear hr hkk hp hb hR
  go_wp2_with (refine wpl_put rfl _ _ _ rfl rfl w.heap.size 0 (.agg #[.int .i64 a8.kind, .string (str a8.name), .slice pnz a8.names.length cnz, .int .i64 a8.e.op, .int .u64 (a8.e.word : Int), .string (str a8.e.name), .slice pez a8.e.args.len cez, .int .i64 a8.a.op, .int .u64 (a8.a.word : Int), .string (str a8.a.name), .slice paz a8.a.args.len caz, .slice pgz a8.args.len cgz, .int .u64 (a8.low : Int), .int .u64 (a8.high : Int), .slice pbz a8.body.len cbz, .slice plz a8.els.len clz]) rfl rfl _ _ Kr.out (by exact Nat.le_of_ble_eq_true rfl) infoSt rfl ?_; intro wF hF hbF hzF)
  have hG : wF.heap[w.heap.size]? = some (.cells #[.int .i64 a8.kind, .string (str a8.name), .slice pnz a8.names.length cnz, .int .i64 a8.e.op, .int .u64 (a8.e.word : Int), .string (str a8.e.name), .slice pez a8.e.args.len cez, .int .i64 a8.a.op, .int .u64 (a8.a.word : Int), .string (str a8.a.name), .slice paz a8.a.args.len caz, .slice pgz a8.args.len cgz, .int .u64 (a8.low : Int), .int .u64 (a8.high : Int), .slice pbz a8.body.len cbz, .slice plz a8.els.len clz] 69 (0, 0)) := hF.trans (congrArg (fun a => some (Obj.cells a 69 (0, 0))) (putA_all (cur := #[.int .i64 0, .string ⟨#[]⟩, .slice none 0 0, .int .i64 0, .int .u64 0, .string ⟨#[]⟩, .slice none 0 0, .int .i64 0, .int .u64 0, .string ⟨#[]⟩, .slice none 0 0, .slice none 0 0, .int .u64 0, .int .u64 0, .slice none 0 0, .slice none 0 0]) (vs := #[.int .i64 a8.kind, .string (str a8.name), .slice pnz a8.names.length cnz, .int .i64 a8.e.op, .int .u64 (a8.e.word : Int), .string (str a8.e.name), .slice pez a8.e.args.len cez, .int .i64 a8.a.op, .int .u64 (a8.a.word : Int), .string (str a8.a.name), .slice paz a8.a.args.len caz, .slice pgz a8.args.len cgz, .int .u64 (a8.low : Int), .int .u64 (a8.high : Int), .slice pbz a8.body.len cbz, .slice plz a8.els.len clz]) rfl))
  clear hF
  refine leaves_cons (f := 162) (args := #[.pointer (some ⟨p.pb, 0, none⟩)]) (by simp) (by simp [go_sem]) ?_
  refine (done_any p.pb p.tb p.tf p.tc k8 d p.ts _ _ (SS.out.1.aside hbF Nr.out Nr2.out) (by have := HD.out; omega)).mono ?_
  rintro e u w9 ⟨rfl, rfl, hP, hB⟩
  have hF := (hB.block _ (Array.getElem?_eq_some_iff.1 hG).1 Nr.out).trans hG
  have y0 := cell_blk hF (j := 0) rfl
  have y1 := cell_blk hF (j := 1) rfl
  have y2 := cell_blk hF (j := 2) rfl
  have y3 := cell_blk hF (j := 3) rfl
  have y4 := cell_blk hF (j := 4) rfl
  have y5 := cell_blk hF (j := 5) rfl
  have y6 := cell_blk hF (j := 6) rfl
  have y7 := cell_blk hF (j := 7) rfl
  have y8 := cell_blk hF (j := 8) rfl
  have y9 := cell_blk hF (j := 9) rfl
  have y10 := cell_blk hF (j := 10) rfl
  have y11 := cell_blk hF (j := 11) rfl
  have y12 := cell_blk hF (j := 12) rfl
  have y13 := cell_blk hF (j := 13) rfl
  have y14 := cell_blk hF (j := 14) rfl
  have y15 := cell_blk hF (j := 15) rfl
  refine ⟨.agg #[.int .i64 a8.kind, .string (str a8.name), .slice pnz a8.names.length cnz, .int .i64 a8.e.op, .int .u64 (a8.e.word : Int), .string (str a8.e.name), .slice pez a8.e.args.len cez, .int .i64 a8.a.op, .int .u64 (a8.a.word : Int), .string (str a8.a.name), .slice paz a8.a.args.len caz, .slice pgz a8.args.len cgz, .int .u64 (a8.low : Int), .int .u64 (a8.high : Int), .slice pbz a8.body.len cbz, .slice plz a8.els.len clz], ?_, .ok k8 a8 (⟨pnz, pez, paz, pgz, pbz, plz, cnz, cez, caz, cgz, cbz, clz⟩ : StP) (by rw [← HG.out]; simp only [R8.out]) SS.out.2 hP ((BB.out.fin hbF (Nat.le_refl _)).trans hB) rfl ?_⟩
  · simp [results, Tryz.results105, go_sem, y0, y1, y2, y3, y4, y5, y6, y7, y8, y9, y10, y11, y12, y13, y14, y15]
  · exact ((Fa8.out.asd hbF (Or.inl Va8.out) Za8.out).but hB Ga8.out (Nat.le_trans Za8.out hbF.size)).fin Ya8.out (Nat.le_trans (Nat.le_trans Za8.out hbF.size) hB.size) (fun W h => St.Ok.up h (Nat.le_trans (Nat.le_trans Za8.out hbF.size) hB.size))
end Go.Proofs.YtchbnkepmeelkaaGreatDoor
