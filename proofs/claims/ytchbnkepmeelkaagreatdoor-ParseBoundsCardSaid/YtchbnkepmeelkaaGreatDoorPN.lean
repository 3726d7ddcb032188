/- A call. -/
import Derived.Test.YtchbnkepmeelkaaGreatDoorPK
import Derived.Test.YtchbnkepmeelkaaGreatDoorPL
import Derived.Test.YtchbnkepmeelkaaGreatDoorPM
namespace Go.Proofs.YtchbnkepmeelkaaGreatDoor
open Go.RowKit

/-- as Post; what is told may lie from B0 on -/
inductive PostF {α : Type} (B0 : Nat) (R : Rep α) (r : Res α) (p : Pp) (d : Nat) (w : World) (z : Ending) (w' : World) : Prop where
  | ok (k : Nat) (a : α) (s : R.σ) (hr : r = .ok a (p.ts.drop k)) (hk : k < p.ts.length) (hp : Ps w' p.pb p.tb p.tf p.tc p.ts k d) (hb : But p.pb w w') (hz : z = .returned (R.val a s)) (hR : Fresh B0 w'.heap.size w' (fun W N => R.ok W N a s))
  | no (k c : Nat) (t : Tok) (hr : r = .no c t) (hp : Ps w' p.pb p.tb p.tf p.tc p.ts k d) (hb : But p.pb w w') (hz : z = WrongIs (c : Int) t)
set_option maxRecDepth 100000 in
set_option maxHeartbeats 3200000 in
theorem call_p (n B0 : Nat) (ns : List (List UInt8)) (qn : Option Addr) (cn : Nat) (p : Pp) (k d : Nat) (w : World) (h : Ps w p.pb p.tb p.tf p.tc p.ts k d) (hk : k < p.ts.length) (hE : Ends p.ts) (hsm : p.ts.length ≤ 100000) (HX : ExprC p n d) (hsh : Shr (exprP n)) (hB0 : B0 ≤ w.heap.size) (hpb0 : p.pb < B0) (hN : Fresh B0 w.heap.size w (fun W N => ns.length ≤ cn ∧ RowIn N (StrAt W) 1 ns qn)) :
    Calls Tryz.prog 175 #[.pointer (some ⟨p.pb, 0, none⟩), .slice qn ns.length cn] w (PostF B0 RStmt (callP n ns (p.ts.drop k)) p d w) := by
  have hpb := h.lt_pb
  have CN := Lib.hid (fun (k : Nat) (w : World) (h : Ps w p.pb p.tb p.tf p.tc p.ts k d) (hk : k < p.ts.length) => name_p p k d w h hk hE)
  have CP := Lib.hid (fun (k : Nat) (w : World) (h : Ps w p.pb p.tb p.tf p.tc p.ts k d) (hk : k < p.ts.length) => paren_exprs n p k d w h hk hE hsm HX hsh)
  have CS := Lib.hid (fun (k : Nat) (w : World) (h : Ps w p.pb p.tb p.tf p.tc p.ts k d) (hk : k < p.ts.length) => want_p [59] p k d w h hk hE (by decide))
  have HBase := Lib.hid (hB0)
  have HPB0 := Lib.hid (hpb0)
  have HNm := Lib.hid (hN)
  obtain ⟨W0, hW0⟩ : ∃ W0, w.alloc (.cells #[.int .i64 0, .string ⟨#[]⟩, .slice none 0 0, .int .i64 0, .int .u64 0, .string ⟨#[]⟩, .slice none 0 0, .int .i64 0, .int .u64 0, .string ⟨#[]⟩, .slice none 0 0, .slice none 0 0, .int .u64 0, .int .u64 0, .slice none 0 0, .slice none 0 0] 69) = W0 := ⟨_, rfl⟩
  have hB0 : Below w.heap.size w W0 := by rw [← hW0]; exact (Below.refl _ _).alloc (Nat.le_refl _) _
  have Kr := Lib.hid (show W0.heap[w.heap.size]? = some (.cells #[.int .i64 0, .string ⟨#[]⟩, .slice none 0 0, .int .i64 0, .int .u64 0, .string ⟨#[]⟩, .slice none 0 0, .int .i64 0, .int .u64 0, .string ⟨#[]⟩, .slice none 0 0, .slice none 0 0, .int .u64 0, .int .u64 0, .slice none 0 0, .slice none 0 0] 69 (0, 0)) by rw [← hW0]; exact heap_alloc_new w _)
  have Nr := Lib.hid (Nat.ne_of_gt hpb)
  have Nr2 := Lib.hid (Nat.ne_of_gt h.lt)
  have BB := Lib.hid (But.of_below (g := p.pb) hB0)
  have SS := Lib.hid (And.intro (h.later hB0) hk)
  clear hB0
  have PB := Lib.hid hpb
  clear h hk hE hpb hN hsh
  generalize hG : (callP n ns (p.ts.drop k)) = G
  unfold callP at hG
  have HG := Lib.hid hG
  clear hG
  go_enter Tryz.func175, Tryz.ntmps175
  have Fns := Lib.hid (HNm.out.but BB.out HPB0.out (Nat.le_refl _))
  have Gns := Lib.hid HPB0.out
  have Zns := Lib.hid BB.out.size
  have Yns := Lib.hid (Nat.le_refl B0)
  have Vns := Lib.hid (Nat.le_refl w.heap.size)
  go_wp2_with fail
  try rw [hW0]
  clear hW0
  have Va1 := Lib.hid (show w.heap.size < W0.heap.size from (Array.getElem?_eq_some_iff.1 Kr.out).1)
  refine (CN.out k W0 SS.out.1 SS.out.2).mono ?_
  intro z w1 hc
  rcases hc with ⟨k1, a1, s1, hr, hkk, hp, hb, hz, hR⟩ | ⟨k1, e1, t1, hr, hp, hb, hz⟩
  rotate_left
  · subst hz
    have HN := Lib.hid (show PostF B0 RStmt G p d w (WrongIs (e1 : Int) t1) w1 from .no k1 e1 t1 (by rw [← HG.out]; simp only [hr, Res.bind_no]) hp (BB.out.trans hb) rfl)
    clear hr hp hb
    unfold WrongIs
    go_wp2_with fail
    exact ⟨rfl, HN.out⟩
  replace Kr := Lib.hid ((hb.block _ (Array.getElem?_eq_some_iff.1 Kr.out).1 Nr.out).trans Kr.out)
  replace Fns := Lib.hid (Fns.out.but hb Gns.out Zns.out)
  replace Zns := Lib.hid (Nat.le_trans Zns.out hb.size)
  replace Yns := Lib.hid Yns.out
  obtain rfl : z = .returned (.string (str a1)) := hz
  have R1 := Lib.hid hr
  replace SS := Lib.hid (And.intro hp hkk)
  replace BB := Lib.hid (BB.out.trans hb)
  clear hr hkk hp hb hR
  obtain ⟨Ae, hAe⟩ : ∃ A, w1.alloc (.cells #[.int .i64 6, .string (str a1), .slice qn ns.length cn, .int .i64 0, .int .u64 0, .string ⟨#[]⟩, .slice none 0 0, .int .i64 0, .int .u64 0, .string ⟨#[]⟩, .slice none 0 0, .slice none 0 0, .int .u64 0, .int .u64 0, .slice none 0 0, .slice none 0 0] 69) = A := ⟨_, rfl⟩
  have VV := Lib.hid (show w.heap.size < w1.heap.size from (Array.getElem?_eq_some_iff.1 Kr.out).1)
  have Xns := Lib.hid Zns.out
  have hBA : Below w1.heap.size w1 Ae := by rw [← hAe]; exact (Below.refl _ _).alloc (Nat.le_refl _) _
  replace Kr := Lib.hid ((hBA.block _ (Array.getElem?_eq_some_iff.1 Kr.out).1).trans Kr.out)
  replace Fns := Lib.hid (Fns.out.bel hBA Zns.out)
  replace Zns := Lib.hid (Nat.le_trans Zns.out hBA.size)
  replace Yns := Lib.hid Yns.out
  have Ke := Lib.hid (show Ae.heap[w1.heap.size]? = some (.cells #[.int .i64 6, .string (str a1), .slice qn ns.length cn, .int .i64 0, .int .u64 0, .string ⟨#[]⟩, .slice none 0 0, .int .i64 0, .int .u64 0, .string ⟨#[]⟩, .slice none 0 0, .slice none 0 0, .int .u64 0, .int .u64 0, .slice none 0 0, .slice none 0 0] 69 (0, 0)) by rw [← hAe]; exact heap_alloc_new w1 _)
  have Ne := Lib.hid (Nat.ne_of_gt SS.out.1.lt_pb)
  have Te := Lib.hid (Nat.ne_of_gt SS.out.1.lt)
  have Uens := Lib.hid (show _ ≤ w1.heap.size from Xns.out)
  have Me := Lib.hid (show w.heap.size ≤ w1.heap.size from BB.out.size)
  have Ve := Lib.hid (show w.heap.size < w1.heap.size from VV.out)
  replace SS := Lib.hid (And.intro (SS.out.1.later hBA) SS.out.2)
  replace BB := Lib.hid (BB.out.trans (But.of_below hBA))
  clear hBA
  have HAe := Lib.hid hAe
  clear hAe
  go_wp2_with (refine wpl_store_new rfl 69 _ _ rfl _ _ _ rfl rfl rfl infoSt rfl ?_)
  rw [HAe.out]
  clear HAe
  have Va2 := Lib.hid (show w.heap.size < Ae.heap.size from (Array.getElem?_eq_some_iff.1 Kr.out).1)
  have Uea2 := Lib.hid (show w1.heap.size < Ae.heap.size from (Array.getElem?_eq_some_iff.1 Ke.out).1)
  refine (CP.out k1 Ae SS.out.1 SS.out.2).mono ?_
  intro z w2 hc
  rcases hc with ⟨k2, a2, s2, hr, hkk, hp, hb, hz, hR⟩ | ⟨k2, e2, t2, hr, hp, hb, hz⟩
  rotate_left
  · subst hz
    have HN := Lib.hid (show PostF B0 RStmt G p d w (WrongIs (e2 : Int) t2) w2 from .no k2 e2 t2 (by rw [← HG.out]; simp only [R1.out, hr, Res.bind_ok, Res.bind_no]) hp (BB.out.trans hb) rfl)
    clear hr hp hb
    unfold WrongIs
    go_wp2_with fail
    exact ⟨rfl, HN.out⟩
  replace Kr := Lib.hid ((hb.block _ (Array.getElem?_eq_some_iff.1 Kr.out).1 Nr.out).trans Kr.out)
  replace Ke := Lib.hid ((hb.block _ (Array.getElem?_eq_some_iff.1 Ke.out).1 Ne.out).trans Ke.out)
  replace Fns := Lib.hid (Fns.out.but hb Gns.out Zns.out)
  replace Zns := Lib.hid (Nat.le_trans Zns.out hb.size)
  replace Yns := Lib.hid Yns.out
  obtain ⟨qa2, ca2⟩ := s2
  obtain rfl : z = .returned (.slice qa2 (exsOf a2).len ca2) := by rw [exsOf_len]; exact hz
  replace hR := Fresh.imp (Q := fun W N => (exsOf a2).In W N qa2) hR (fun W h => exs_in h.2)
  have Fa2 := Lib.hid (show Fresh Ae.heap.size w2.heap.size w2 (fun W N => (exsOf a2).In W N qa2) from hR)
  have Ga2 := Lib.hid SS.out.1.lt_pb
  have Za2 := Lib.hid (Nat.le_refl w2.heap.size)
  have Ya2 := Lib.hid (show B0 ≤ Ae.heap.size from Nat.le_trans HBase.out BB.out.size)
  have R2 := Lib.hid hr
  replace SS := Lib.hid (And.intro hp hkk)
  replace BB := Lib.hid (BB.out.trans hb)
  clear hr hkk hp hb hR
  have u3 := cell_blk Ke.out (j := 11) rfl
  have v3 : w2.frozen? ⟨w1.heap.size, 11, none⟩ = false := by simp [World.frozen?, Ke.out]
  obtain ⟨E3, hE3⟩ : ∃ E, w2.setCell ⟨w1.heap.size, 11, none⟩ (.slice qa2 (exsOf a2).len ca2) = E := ⟨_, rfl⟩
  have hEo : ∀ j, j ≠ w1.heap.size → E3.heap[j]? = w2.heap[j]? := fun j hj => by rw [← hE3]; exact Below.heap_setCell w2 _ _ _ hj
  have hEz : E3.heap.size = w2.heap.size := by rw [← hE3]; simp [World.setCell]
  have hEk : E3.heap[w1.heap.size]? = some (.cells #[.int .i64 6, .string (str a1), .slice qn ns.length cn, .int .i64 0, .int .u64 0, .string ⟨#[]⟩, .slice none 0 0, .int .i64 0, .int .u64 0, .string ⟨#[]⟩, .slice none 0 0, .slice qa2 (exsOf a2).len ca2, .int .u64 0, .int .u64 0, .slice none 0 0, .slice none 0 0] 69 (0, 0)) := by rw [← hE3, setCell_eq_setRow _ _ _ _ 69 (0, 0) _ Ke.out]; exact setRow_heap _ _ _ _ 69 (0, 0) Ke.out
  replace Kr := Lib.hid ((hEo _ (Nat.ne_of_lt Ve.out)).trans Kr.out)
  replace Ke := Lib.hid hEk
  replace Fns := Lib.hid (Fns.out.to (Agr.at hEz hEo (by first | exact Or.inl Uens.out | exact Or.inr Uens.out) Zns.out))
  replace Zns := Lib.hid (Nat.le_trans Zns.out (Nat.le_of_eq hEz.symm))
  replace Fa2 := Lib.hid (Fa2.out.to (Agr.at hEz hEo (by first | exact Or.inl Uea2.out | exact Or.inr Uea2.out) Za2.out))
  replace Za2 := Lib.hid (Nat.le_trans Za2.out (Nat.le_of_eq hEz.symm))
  have hSo := SS.out.1.other (p := ⟨w1.heap.size, 11, none⟩) Ne.out Te.out (.slice qa2 (exsOf a2).len ca2)
  have hBo := BB.out.putNew (p := ⟨w1.heap.size, 11, none⟩) Me.out (.slice qa2 (exsOf a2).len ca2)
  rw [hE3] at hSo hBo
  replace SS := Lib.hid (And.intro hSo SS.out.2)
  replace BB := Lib.hid hBo
  clear hEo hEz hEk hSo hBo
  go_upto_region 3 with fail
  try rw [hE3]
  clear hE3 u3 v3
  go_wp2_with fail
  refine (CS.out k2 E3 SS.out.1 SS.out.2).mono ?_
  intro z w4 hc
  rcases hc with ⟨k4, a4, s4, hr, hkk, hp, hb, hz, hR⟩ | ⟨k4, e4, t4, hr, hp, hb, hz⟩
  rotate_left
  · subst hz
    have HN := Lib.hid (show PostF B0 RStmt G p d w (WrongIs (e4 : Int) t4) w4 from .no k4 e4 t4 (by rw [← HG.out]; simp only [R1.out, R2.out, hr, Res.bind_ok, Res.bind_no]) hp (BB.out.trans hb) rfl)
    clear hr hp hb
    unfold WrongIs
    go_wp2_with fail
    exact ⟨rfl, HN.out⟩
  replace Kr := Lib.hid ((hb.block _ (Array.getElem?_eq_some_iff.1 Kr.out).1 Nr.out).trans Kr.out)
  replace Ke := Lib.hid ((hb.block _ (Array.getElem?_eq_some_iff.1 Ke.out).1 Ne.out).trans Ke.out)
  replace Fns := Lib.hid (Fns.out.but hb Gns.out Zns.out)
  replace Zns := Lib.hid (Nat.le_trans Zns.out hb.size)
  replace Yns := Lib.hid Yns.out
  replace Fa2 := Lib.hid (Fa2.out.but hb Ga2.out Za2.out)
  replace Za2 := Lib.hid (Nat.le_trans Za2.out hb.size)
  replace Ya2 := Lib.hid Ya2.out
  obtain rfl : z = .returned (.tuple #[]) := hz
  have R4 := Lib.hid hr
  replace SS := Lib.hid (And.intro hp hkk)
  replace BB := Lib.hid (BB.out.trans hb)
  clear hr hkk hp hb hR
  have hrz := (Array.getElem?_eq_some_iff.1 Kr.out).1
  have HRz := Lib.hid hrz
  clear hrz
  go_wp2_with (first | (refine wpl_load rfl 69 _ rfl (w1.heap.size) 0 rfl #[.int .i64 6, .string (str a1), .slice qn ns.length cn, .int .i64 0, .int .u64 0, .string ⟨#[]⟩, .slice none 0 0, .int .i64 0, .int .u64 0, .string ⟨#[]⟩, .slice none 0 0, .slice qa2 (exsOf a2).len ca2, .int .u64 0, .int .u64 0, .slice none 0 0, .slice none 0 0] _ (range_block Ke.out) Tryz.underlying69 rfl infoSt ?_) | (refine wpl_put rfl _ _ _ rfl rfl w.heap.size 0 (.agg #[.int .i64 6, .string (str a1), .slice qn ns.length cn, .int .i64 0, .int .u64 0, .string ⟨#[]⟩, .slice none 0 0, .int .i64 0, .int .u64 0, .string ⟨#[]⟩, .slice none 0 0, .slice qa2 (exsOf a2).len ca2, .int .u64 0, .int .u64 0, .slice none 0 0, .slice none 0 0]) rfl rfl _ _ Kr.out (by exact Nat.le_of_ble_eq_true rfl) infoSt rfl ?_; intro wF hF hbF hzF))
  have hG : wF.heap[w.heap.size]? = some (.cells #[.int .i64 6, .string (str a1), .slice qn ns.length cn, .int .i64 0, .int .u64 0, .string ⟨#[]⟩, .slice none 0 0, .int .i64 0, .int .u64 0, .string ⟨#[]⟩, .slice none 0 0, .slice qa2 (exsOf a2).len ca2, .int .u64 0, .int .u64 0, .slice none 0 0, .slice none 0 0] 69 (0, 0)) := hF.trans (congrArg (fun a => some (Obj.cells a 69 (0, 0))) (putA_all (cur := #[.int .i64 0, .string ⟨#[]⟩, .slice none 0 0, .int .i64 0, .int .u64 0, .string ⟨#[]⟩, .slice none 0 0, .int .i64 0, .int .u64 0, .string ⟨#[]⟩, .slice none 0 0, .slice none 0 0, .int .u64 0, .int .u64 0, .slice none 0 0, .slice none 0 0]) (vs := #[.int .i64 6, .string (str a1), .slice qn ns.length cn, .int .i64 0, .int .u64 0, .string ⟨#[]⟩, .slice none 0 0, .int .i64 0, .int .u64 0, .string ⟨#[]⟩, .slice none 0 0, .slice qa2 (exsOf a2).len ca2, .int .u64 0, .int .u64 0, .slice none 0 0, .slice none 0 0]) rfl))
  clear hF
  refine bodyPost_ret (v := .agg #[.int .i64 6, .string (str a1), .slice qn ns.length cn, .int .i64 0, .int .u64 0, .string ⟨#[]⟩, .slice none 0 0, .int .i64 0, .int .u64 0, .string ⟨#[]⟩, .slice none 0 0, .slice qa2 (exsOf a2).len ca2, .int .u64 0, .int .u64 0, .slice none 0 0, .slice none 0 0]) ?_ rfl ?_
  · have y0 := cell_blk hG (j := 0) rfl
    have y1 := cell_blk hG (j := 1) rfl
    have y2 := cell_blk hG (j := 2) rfl
    have y3 := cell_blk hG (j := 3) rfl
    have y4 := cell_blk hG (j := 4) rfl
    have y5 := cell_blk hG (j := 5) rfl
    have y6 := cell_blk hG (j := 6) rfl
    have y7 := cell_blk hG (j := 7) rfl
    have y8 := cell_blk hG (j := 8) rfl
    have y9 := cell_blk hG (j := 9) rfl
    have y10 := cell_blk hG (j := 10) rfl
    have y11 := cell_blk hG (j := 11) rfl
    have y12 := cell_blk hG (j := 12) rfl
    have y13 := cell_blk hG (j := 13) rfl
    have y14 := cell_blk hG (j := 14) rfl
    have y15 := cell_blk hG (j := 15) rfl
    simp [results, Tryz.results175, go_sem, y0, y1, y2, y3, y4, y5, y6, y7, y8, y9, y10, y11, y12, y13, y14, y15]
  · refine .ok k4 (.mk 6 a1 ns Z0 Z0 (exsOf a2) 0 0 .nil .nil) ⟨qn, none, none, qa2, none, none, cn, 0, 0, ca2, 0, 0⟩ (by rw [← HG.out]; first | rfl | simp only [R1.out, R2.out, R4.out, Res.bind_ok] | trace_state) SS.out.2 (SS.out.1.aside hbF Nr.out Nr2.out) (BB.out.fin hbF (Nat.le_refl _)) rfl ?_
    intro W hW
    have ons := ((Fns.out.asd hbF (by first | exact Or.inl Vns.out | exact Or.inr Vns.out) Zns.out).fin Yns.out (Nat.le_trans Zns.out hbF.size) (fun W h => ⟨h.1, h.2.imp (Nat.le_trans Zns.out hbF.size) (fun x b o _ ha => ha)⟩)) W hW
    have oa2 := ((Fa2.out.asd hbF (by first | exact Or.inl Va2.out | exact Or.inr Va2.out) Za2.out).fin Ya2.out (Nat.le_trans Za2.out hbF.size) (fun W h => Exs.In.up h (Nat.le_trans Za2.out hbF.size))) W hW
    exact ⟨ons, zero_ok _ _, zero_ok _ _, oa2, sts_nil _ _, sts_nil _ _, zero_u64, zero_u64⟩
end Go.Proofs.YtchbnkepmeelkaaGreatDoor
