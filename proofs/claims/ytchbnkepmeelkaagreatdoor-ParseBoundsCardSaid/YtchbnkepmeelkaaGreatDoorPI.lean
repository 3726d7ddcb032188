/- Statements: loops of any kind. -/
import Derived.Test.YtchbnkepmeelkaaGreatDoorPH
namespace Go.Proofs.YtchbnkepmeelkaaGreatDoor
open Go.RowKit

theorem Ps.aside {w w' : World} {pb tb tf tc k d : Nat} {ts : List Tok} (h : Ps w pb tb tf tc ts k d) {g : Nat} (hb : But g w w') (h1 : g ≠ pb) (h2 : g ≠ tb) : Ps w' pb tb tf tc ts k d :=
  ⟨(hb.block pb h.lt_pb (fun e => h1 e.symm)).trans h.pr, fun i t ht => (h.tk i t ht).of_block (hb.block tb h.lt (fun e => h2 e.symm)), h.ne, Nat.lt_of_lt_of_le h.lt hb.size, h.ln⟩
theorem But.fin {g r : Nat} {a w w' : World} (h : But g a w) (hb : But r w w') (hr : a.heap.size ≤ r) : But g a w' :=
  ⟨hb.os.trans h.os, hb.tape.trans h.tape, hb.output.trans h.output, Nat.le_trans h.size hb.size, fun k hk hn => (hb.block k (Nat.lt_of_lt_of_le hk h.size) (by omega)).trans (h.block k hk hn)⟩
theorem Fresh.asd {A B g : Nat} {w w' : World} {P : World → Nat → Prop} (h : Fresh A B w P) (hb : But g w w') (hg : g < A ∨ B ≤ g) (hB : B ≤ w.heap.size) : Fresh A B w' P :=
  h.to ⟨Nat.le_trans hB hb.size, fun k h1 h2 => hb.block k (by omega) (by omega)⟩
theorem zero_ok (W : World) (N : Nat) : Z0.Ok W N none := ⟨Exs.In.nil _ _ _, show (0 : Nat) < 18446744073709551616 by decide⟩
theorem names_nil (W : World) (N : Nat) (c : Nat) : ([] : List (List UInt8)).length ≤ c ∧ RowIn N (StrAt W) 1 [] none := ⟨Nat.zero_le _, Nat.zero_le _, .inl rfl⟩
theorem sts_nil (W : World) (N : Nat) : Sts.nil.In W N none := ⟨Nat.zero_le _, .inl rfl⟩
theorem zero_u64 : (0 : Nat) < 18446744073709551616 := by decide
def loopP (n : Nat) (l : List Tok) : Res St := (exprP n l).bind fun e r => (blockP (stmtP n) r).bind fun b r => .ok (St.mk 4 [] [] e Z0 .nil 0 0 b .nil) r
def roundsP (n : Nat) (l : List Tok) : Res St := (nameP l).bind fun nm r => (numP r).bind fun a r => (numP r).bind fun b r => (blockP (stmtP n) r).bind fun x r => .ok (St.mk 5 nm [] Z0 Z0 .nil a b x .nil) r

set_option maxRecDepth 100000 in
set_option maxHeartbeats 3200000 in
theorem loop_p (n : Nat) (p : Pp) (k d : Nat) (w : World) (h : Ps w p.pb p.tb p.tf p.tc p.ts k d) (hk : k < p.ts.length) (_hE : Ends p.ts) (HX : ExprC p n d) (HB : BlockC p n d) :
    Calls Tryz.prog 172 #[.pointer (some ⟨p.pb, 0, none⟩)] w (Post RStmt (loopP n (p.ts.drop k)) p d w) := by
  have hpb := h.lt_pb
  have CX := Lib.hid (HX)
  have CB := Lib.hid (HB)
  obtain ⟨W0, hW0⟩ : ∃ W0, w.alloc (.cells #[.int .i64 0, .string ⟨#[]⟩, .slice none 0 0, .int .i64 0, .int .u64 0, .string ⟨#[]⟩, .slice none 0 0, .int .i64 0, .int .u64 0, .string ⟨#[]⟩, .slice none 0 0, .slice none 0 0, .int .u64 0, .int .u64 0, .slice none 0 0, .slice none 0 0] 69) = W0 := ⟨_, rfl⟩
  have hB0 : Below w.heap.size w W0 := by rw [← hW0]; exact (Below.refl _ _).alloc (Nat.le_refl _) _
  have Kr := Lib.hid (show W0.heap[w.heap.size]? = some (.cells #[.int .i64 0, .string ⟨#[]⟩, .slice none 0 0, .int .i64 0, .int .u64 0, .string ⟨#[]⟩, .slice none 0 0, .int .i64 0, .int .u64 0, .string ⟨#[]⟩, .slice none 0 0, .slice none 0 0, .int .u64 0, .int .u64 0, .slice none 0 0, .slice none 0 0] 69 (0, 0)) by rw [← hW0]; exact heap_alloc_new w _)
  have Nr := Lib.hid (Nat.ne_of_gt hpb)
  have Nr2 := Lib.hid (Nat.ne_of_gt h.lt)
  have BB := Lib.hid (But.of_below (g := p.pb) hB0)
  have SS := Lib.hid (And.intro (h.later hB0) hk)
  clear hB0
  have PB := Lib.hid hpb
  clear h hk _hE hpb
  generalize hG : (loopP n (p.ts.drop k)) = G
  unfold loopP at hG
  have HG := Lib.hid hG
  clear hG
  go_enter Tryz.func172, Tryz.ntmps172
  go_wp2_with fail
  try rw [hW0]
  clear hW0
  have Va1 := Lib.hid (show w.heap.size < W0.heap.size from (Array.getElem?_eq_some_iff.1 Kr.out).1)
  refine (CX.out k W0 SS.out.1 SS.out.2).mono ?_
  intro z w1 hc
  rcases hc with ⟨k1, a1, s1, hr, hkk, hp, hb, hz, hR⟩ | ⟨k1, e1, t1, hr, hp, hb, hz⟩
  rotate_left
  · subst hz
    have HN := Lib.hid (show Post RStmt G p d w (WrongIs (e1 : Int) t1) w1 from .no k1 e1 t1 (by rw [← HG.out]; simp only [hr, Res.bind_no]) hp (BB.out.trans hb) rfl)
    clear hr hp hb
    unfold WrongIs
    go_wp2_with fail
    exact ⟨rfl, HN.out⟩
  replace Kr := Lib.hid ((hb.block _ (Array.getElem?_eq_some_iff.1 Kr.out).1 Nr.out).trans Kr.out)
  obtain ⟨qa1, ca1⟩ := s1
  obtain rfl : z = .returned (.agg #[.int .i64 a1.op, .int .u64 (a1.word : Int), .string (str a1.name), .slice qa1 a1.args.len ca1]) := hz
  have Fa1 := Lib.hid (show Fresh W0.heap.size w1.heap.size w1 (fun W N => a1.Ok W N qa1) from hR)
  have Ga1 := Lib.hid SS.out.1.lt_pb
  have Za1 := Lib.hid (Nat.le_refl w1.heap.size)
  have Ya1 := Lib.hid (show w.heap.size ≤ W0.heap.size from BB.out.size)
  have R1 := Lib.hid hr
  replace SS := Lib.hid (And.intro hp hkk)
  replace BB := Lib.hid (BB.out.trans hb)
  clear hr hkk hp hb hR
  obtain ⟨Ae, hAe⟩ : ∃ A, w1.alloc (.cells #[.int .i64 4, .string ⟨#[]⟩, .slice none 0 0, .int .i64 a1.op, .int .u64 (a1.word : Int), .string (str a1.name), .slice qa1 a1.args.len ca1, .int .i64 0, .int .u64 0, .string ⟨#[]⟩, .slice none 0 0, .slice none 0 0, .int .u64 0, .int .u64 0, .slice none 0 0, .slice none 0 0] 69) = A := ⟨_, rfl⟩
  have VV := Lib.hid (show w.heap.size < w1.heap.size from (Array.getElem?_eq_some_iff.1 Kr.out).1)
  have Xa1 := Lib.hid Za1.out
  have hBA : Below w1.heap.size w1 Ae := by rw [← hAe]; exact (Below.refl _ _).alloc (Nat.le_refl _) _
  replace Kr := Lib.hid ((hBA.block _ (Array.getElem?_eq_some_iff.1 Kr.out).1).trans Kr.out)
  replace Fa1 := Lib.hid (Fa1.out.bel hBA Za1.out)
  replace Za1 := Lib.hid (Nat.le_trans Za1.out hBA.size)
  replace Ya1 := Lib.hid Ya1.out
  have Ke := Lib.hid (show Ae.heap[w1.heap.size]? = some (.cells #[.int .i64 4, .string ⟨#[]⟩, .slice none 0 0, .int .i64 a1.op, .int .u64 (a1.word : Int), .string (str a1.name), .slice qa1 a1.args.len ca1, .int .i64 0, .int .u64 0, .string ⟨#[]⟩, .slice none 0 0, .slice none 0 0, .int .u64 0, .int .u64 0, .slice none 0 0, .slice none 0 0] 69 (0, 0)) by rw [← hAe]; exact heap_alloc_new w1 _)
  have Ne := Lib.hid (Nat.ne_of_gt SS.out.1.lt_pb)
  have Te := Lib.hid (Nat.ne_of_gt SS.out.1.lt)
  have Uea1 := Lib.hid (show _ ≤ w1.heap.size from Xa1.out)
  have Me := Lib.hid (show w.heap.size ≤ w1.heap.size from BB.out.size)
  have Ve := Lib.hid (show w.heap.size < w1.heap.size from VV.out)
  replace SS := Lib.hid (And.intro (SS.out.1.later hBA) SS.out.2)
  replace BB := Lib.hid (BB.out.trans (But.of_below hBA))
  clear hBA
  have HAe := Lib.hid hAe
  clear hAe
  go_wp2_with (refine wpl_store_new rfl 69 _ _ rfl _ _ _ rfl rfl rfl infoSt rfl ?_)
  rw [HAe.out]
  clear HAe
  have Va2 := Lib.hid (show w.heap.size < Ae.heap.size from (Array.getElem?_eq_some_iff.1 Kr.out).1)
  have Uea2 := Lib.hid (show w1.heap.size < Ae.heap.size from (Array.getElem?_eq_some_iff.1 Ke.out).1)
  refine (CB.out k1 Ae SS.out.1 SS.out.2).mono ?_
  intro z w2 hc
  rcases hc with ⟨k2, a2, s2, hr, hkk, hp, hb, hz, hR⟩ | ⟨k2, e2, t2, hr, hp, hb, hz⟩
  rotate_left
  · subst hz
    have HN := Lib.hid (show Post RStmt G p d w (WrongIs (e2 : Int) t2) w2 from .no k2 e2 t2 (by rw [← HG.out]; simp only [R1.out, hr, Res.bind_ok, Res.bind_no]) hp (BB.out.trans hb) rfl)
    clear hr hp hb
    unfold WrongIs
    go_wp2_with fail
    exact ⟨rfl, HN.out⟩
  replace Kr := Lib.hid ((hb.block _ (Array.getElem?_eq_some_iff.1 Kr.out).1 Nr.out).trans Kr.out)
  replace Ke := Lib.hid ((hb.block _ (Array.getElem?_eq_some_iff.1 Ke.out).1 Ne.out).trans Ke.out)
  replace Fa1 := Lib.hid (Fa1.out.but hb Ga1.out Za1.out)
  replace Za1 := Lib.hid (Nat.le_trans Za1.out hb.size)
  replace Ya1 := Lib.hid Ya1.out
  obtain ⟨qa2, ca2⟩ := s2
  obtain rfl : z = .returned (.slice qa2 a2.len ca2) := hz
  have Fa2 := Lib.hid (show Fresh Ae.heap.size w2.heap.size w2 (fun W N => a2.In W N qa2) from hR)
  have Ga2 := Lib.hid SS.out.1.lt_pb
  have Za2 := Lib.hid (Nat.le_refl w2.heap.size)
  have Ya2 := Lib.hid (show w.heap.size ≤ Ae.heap.size from BB.out.size)
  have R2 := Lib.hid hr
  replace SS := Lib.hid (And.intro hp hkk)
  replace BB := Lib.hid (BB.out.trans hb)
  clear hr hkk hp hb hR
  have u3 := cell_blk Ke.out (j := 14) rfl
  have v3 : w2.frozen? ⟨w1.heap.size, 14, none⟩ = false := by simp [World.frozen?, Ke.out]
  obtain ⟨E3, hE3⟩ : ∃ E, w2.setCell ⟨w1.heap.size, 14, none⟩ (.slice qa2 a2.len ca2) = E := ⟨_, rfl⟩
  have hEo : ∀ j, j ≠ w1.heap.size → E3.heap[j]? = w2.heap[j]? := fun j hj => by rw [← hE3]; exact Below.heap_setCell w2 _ _ _ hj
  have hEz : E3.heap.size = w2.heap.size := by rw [← hE3]; simp [World.setCell]
  have hEk : E3.heap[w1.heap.size]? = some (.cells #[.int .i64 4, .string ⟨#[]⟩, .slice none 0 0, .int .i64 a1.op, .int .u64 (a1.word : Int), .string (str a1.name), .slice qa1 a1.args.len ca1, .int .i64 0, .int .u64 0, .string ⟨#[]⟩, .slice none 0 0, .slice none 0 0, .int .u64 0, .int .u64 0, .slice qa2 a2.len ca2, .slice none 0 0] 69 (0, 0)) := by rw [← hE3, setCell_eq_setRow _ _ _ _ 69 (0, 0) _ Ke.out]; exact setRow_heap _ _ _ _ 69 (0, 0) Ke.out
  replace Kr := Lib.hid ((hEo _ (Nat.ne_of_lt Ve.out)).trans Kr.out)
  replace Ke := Lib.hid hEk
  replace Fa1 := Lib.hid (Fa1.out.to (Agr.at hEz hEo (by first | exact Or.inl Uea1.out | exact Or.inr Uea1.out) Za1.out))
  replace Za1 := Lib.hid (Nat.le_trans Za1.out (Nat.le_of_eq hEz.symm))
  replace Fa2 := Lib.hid (Fa2.out.to (Agr.at hEz hEo (by first | exact Or.inl Uea2.out | exact Or.inr Uea2.out) Za2.out))
  replace Za2 := Lib.hid (Nat.le_trans Za2.out (Nat.le_of_eq hEz.symm))
  have hSo := SS.out.1.other (p := ⟨w1.heap.size, 14, none⟩) Ne.out Te.out (.slice qa2 a2.len ca2)
  have hBo := BB.out.putNew (p := ⟨w1.heap.size, 14, none⟩) Me.out (.slice qa2 a2.len ca2)
  rw [hE3] at hSo hBo
  replace SS := Lib.hid (And.intro hSo SS.out.2)
  replace BB := Lib.hid hBo
  clear hEo hEz hEk hSo hBo
  go_upto_region 3 with fail
  try rw [hE3]
  clear hE3 u3 v3
  have hrz := (Array.getElem?_eq_some_iff.1 Kr.out).1
  have HRz := Lib.hid hrz
  clear hrz
  go_wp2_with (first | (refine wpl_load rfl 69 _ rfl (w1.heap.size) 0 rfl #[.int .i64 4, .string ⟨#[]⟩, .slice none 0 0, .int .i64 a1.op, .int .u64 (a1.word : Int), .string (str a1.name), .slice qa1 a1.args.len ca1, .int .i64 0, .int .u64 0, .string ⟨#[]⟩, .slice none 0 0, .slice none 0 0, .int .u64 0, .int .u64 0, .slice qa2 a2.len ca2, .slice none 0 0] _ (range_block Ke.out) Tryz.underlying69 rfl infoSt ?_) | (refine wpl_put rfl _ _ _ rfl rfl w.heap.size 0 (.agg #[.int .i64 4, .string ⟨#[]⟩, .slice none 0 0, .int .i64 a1.op, .int .u64 (a1.word : Int), .string (str a1.name), .slice qa1 a1.args.len ca1, .int .i64 0, .int .u64 0, .string ⟨#[]⟩, .slice none 0 0, .slice none 0 0, .int .u64 0, .int .u64 0, .slice qa2 a2.len ca2, .slice none 0 0]) rfl rfl _ _ Kr.out (by exact Nat.le_of_ble_eq_true rfl) infoSt rfl ?_; intro wF hF hbF hzF))
  have hG : wF.heap[w.heap.size]? = some (.cells #[.int .i64 4, .string ⟨#[]⟩, .slice none 0 0, .int .i64 a1.op, .int .u64 (a1.word : Int), .string (str a1.name), .slice qa1 a1.args.len ca1, .int .i64 0, .int .u64 0, .string ⟨#[]⟩, .slice none 0 0, .slice none 0 0, .int .u64 0, .int .u64 0, .slice qa2 a2.len ca2, .slice none 0 0] 69 (0, 0)) := hF.trans (congrArg (fun a => some (Obj.cells a 69 (0, 0))) (putA_all (cur := #[.int .i64 0, .string ⟨#[]⟩, .slice none 0 0, .int .i64 0, .int .u64 0, .string ⟨#[]⟩, .slice none 0 0, .int .i64 0, .int .u64 0, .string ⟨#[]⟩, .slice none 0 0, .slice none 0 0, .int .u64 0, .int .u64 0, .slice none 0 0, .slice none 0 0]) (vs := #[.int .i64 4, .string ⟨#[]⟩, .slice none 0 0, .int .i64 a1.op, .int .u64 (a1.word : Int), .string (str a1.name), .slice qa1 a1.args.len ca1, .int .i64 0, .int .u64 0, .string ⟨#[]⟩, .slice none 0 0, .slice none 0 0, .int .u64 0, .int .u64 0, .slice qa2 a2.len ca2, .slice none 0 0]) rfl))
  clear hF
  refine bodyPost_ret (v := .agg #[.int .i64 4, .string ⟨#[]⟩, .slice none 0 0, .int .i64 a1.op, .int .u64 (a1.word : Int), .string (str a1.name), .slice qa1 a1.args.len ca1, .int .i64 0, .int .u64 0, .string ⟨#[]⟩, .slice none 0 0, .slice none 0 0, .int .u64 0, .int .u64 0, .slice qa2 a2.len ca2, .slice none 0 0]) ?_ rfl ?_
  · have y0 := cell_blk hG (j := 0) rfl
    have y1 := cell_blk hG (j := 1) rfl
    have y2 := cell_blk hG (j := 2) rfl
    have y3 := cell_blk hG (j := 3) rfl
    have y4 := cell_blk hG (j := 4) rfl
    have y5 := cell_blk hG (j := 5) rfl
    have y6 := cell_blk hG (j := 6) rfl
    have y7 := cell_blk hG (j := 7) rfl
    have y8 := cell_blk hG (j := 8) rfl
    have y9 := cell_blk hG (j := 9) rfl
    have y10 := cell_blk hG (j := 10) rfl
    have y11 := cell_blk hG (j := 11) rfl
    have y12 := cell_blk hG (j := 12) rfl
    have y13 := cell_blk hG (j := 13) rfl
    have y14 := cell_blk hG (j := 14) rfl
    have y15 := cell_blk hG (j := 15) rfl
    simp [results, Tryz.results172, go_sem, y0, y1, y2, y3, y4, y5, y6, y7, y8, y9, y10, y11, y12, y13, y14, y15]
  · refine .ok k2 (.mk 4 [] [] a1 Z0 .nil 0 0 a2 .nil) ⟨none, qa1, none, none, qa2, none, 0, ca1, 0, 0, ca2, 0⟩ (by rw [← HG.out]; first | rfl | simp only [R1.out, R2.out, Res.bind_ok] | trace_state) SS.out.2 (SS.out.1.aside hbF Nr.out Nr2.out) (BB.out.fin hbF (Nat.le_refl _)) rfl ?_
    intro W hW
    have oa1 := ((Fa1.out.asd hbF (by first | exact Or.inl Va1.out | exact Or.inr Va1.out) Za1.out).fin Ya1.out (Nat.le_trans Za1.out hbF.size) (fun W h => Ex.Ok.up h (Nat.le_trans Za1.out hbF.size))) W hW
    have oa2 := ((Fa2.out.asd hbF (by first | exact Or.inl Va2.out | exact Or.inr Va2.out) Za2.out).fin Ya2.out (Nat.le_trans Za2.out hbF.size) (fun W h => Sts.In.up h (Nat.le_trans Za2.out hbF.size))) W hW
    exact ⟨names_nil _ _ _, oa1, zero_ok _ _, Exs.In.nil _ _ _, oa2, sts_nil _ _, zero_u64, zero_u64⟩
end Go.Proofs.YtchbnkepmeelkaaGreatDoor
