/- Words set by an expression or a call. -/
import Derived.Test.YtchbnkepmeelkaaGreatDoorPN
import Derived.Deep.RegionHeld3
import Derived.Deep.RegionHeld
namespace Go.Proofs.YtchbnkepmeelkaaGreatDoor
open Go.RowKit

theorem wp_store_new {P : Program} {op : Oper} {a : Act} {w : World} {K : Act → World → Prop} {Q : Exit → Act → World → Prop} (ty : TypeId) (x y : Operand) (ho : op.op = .store ty x y)
    (Z A : Array Value) (t : TypeId) (hx : a.eval x = .pointer (some ⟨w.heap.size, 0, none⟩)) (hy : a.eval y = .agg A) (hZ : Z.size = A.size)
    (hi : (P.info? ty).map (·.size) = some A.size) (h1 : A.all (·.oneCell') = true)
    (h : K (a.put op.dst undef) (w.alloc (.cells A t))) : op.wp P a (w.alloc (.cells Z t)) K Q := by
  refine wp_store_mid ty x y ho w.heap.size 0 A hx hy ?_ hi h1 ?_
  · intro j hj
    refine ⟨?_, by simp [go_sem]⟩
    rw [Nat.zero_add, show (w.alloc (.cells Z t)).cell? ⟨w.heap.size, j, none⟩ = Z[j]? by simp [go_sem]]
    rw [Array.getElem?_eq_getElem (by omega)]; rfl
  · have := setCells_new w t A.toList [] Z.toList (by simp [hZ])
    simp only [List.nil_append, List.length_nil, Array.toArray_toList] at this
    rw [this]
    exact h
/-- as wpl_put, for one operation -/
theorem wp_put {P : Program} {op : Oper} {a : Act} {w : World} {K : Act → World → Prop} {Q : Exit → Act → World → Prop} (ty : TypeId) (x y : Operand) (ho : op.op = .store ty x y)
    (g o : Nat) (v : Value) (hx : a.eval x = .pointer (some ⟨g, o, none⟩)) (hy : a.eval y = v) (cur : Array Value) (t : TypeId) (hg : w.heap[g]? = some (.cells cur t (0, 0)))
    (hl : o + v.cells.size ≤ cur.size) (hi : (P.info? ty).map (·.size) = some v.cells.size) (h1 : v.cells.toList.all (·.oneCell') = true)
    (h : ∀ w', w'.heap[g]? = some (.cells (putA cur o v.cells) t (0, 0)) → But g w w' → w'.heap.size = w.heap.size → K (a.put op.dst undef) w') : op.wp P a w K Q := by
  have hs : (storeVar ty ⟨g, o, none⟩ v).run P w = .ok () (w.setRow g (putA cur o v.cells)) := by
    have := run_storeCells_at (P := P) g o t v.cells.toList 0 cur w hg (by simp; omega) (fun u hu => (List.all_eq_true.1 h1) u hu)
    cases hq : P.info? ty with
    | none => simp [hq] at hi
    | some i =>
      have hz : v.cells.size = i.size := by simp [hq] at hi; omega
      simp only [Nat.add_zero, Array.length_toList] at this
      simp [storeVar, sizeOf, typeInfo, hq, hz, this, putA]
  unfold Oper.wp execOp
  simp only [ho, hx, hy, Instr.storeAt, Instr.sureAddr, Sem.run_bind, Sem.run_pure, Result.andThen_ok, hs]
  exact h _ (setRow_heap w g _ _ t _ hg) (but_row w g _) (by simp [World.setRow])
theorem listP_ne {α : Type} {one : List Tok → Res α} {l : List Tok} {a : List α} {r : List Tok} (h : listP one l = .ok a r) : a ≠ [] := by
  unfold listP at h
  cases h1 : one l with
  | no e t => rw [h1] at h; cases h
  | ok x s =>
    rw [h1, Res.bind_ok] at h
    cases h2 : tailP one (s.length + 1) s with
    | no e t => rw [h2] at h; cases h
    | ok y u => rw [h2, Res.bind_ok] at h; cases h; exact List.cons_ne_nil _ _
theorem name_cell {W : World} {N b o c : Nat} {nm : List UInt8} (h : [nm].length ≤ c ∧ RowIn N (StrAt W) 1 [nm] (some ⟨b, o, none⟩)) : W.cell? ⟨b, o, none⟩ = some (.string (str nm)) := by
  rcases h.2.2 with h0 | ⟨b', o', hq, _, hr⟩
  · cases h0
  · cases hq
    exact hr.1
theorem name_place {W : World} {N c : Nat} {nm : List UInt8} {q : Option Addr} (h : [nm].length ≤ c ∧ RowIn N (StrAt W) 1 [nm] q) : ∃ b o, q = some ⟨b, o, none⟩ := by
  rcases h.2.2 with h0 | ⟨b', o', hq, _, hr⟩
  · cases h0
  · exact ⟨b', o', hq⟩
set_option maxRecDepth 100000 in
set_option maxHeartbeats 3200000 in
theorem set_p (n : Nat) (p : Pp) (k d : Nat) (w : World) (h : Ps w p.pb p.tb p.tf p.tc p.ts k d) (hk : k < p.ts.length) (hE : Ends p.ts) (hsm : p.ts.length ≤ 100000) (HX : ExprC p n d) (hsh : Shr (exprP n)) (hS1 : Shr nameP) :
    Calls Tryz.prog 176 #[.pointer (some ⟨p.pb, 0, none⟩)] w (Post RStmt (setP n (p.ts.drop k)) p d w) := by
  have hpb := h.lt_pb
  have CX := Lib.hid (HX)
  have CL := Lib.hid (fun (k : Nat) (w : World) (h : Ps w p.pb p.tb p.tf p.tc p.ts k d) (hk : k < p.ts.length) => list_strings p k d w h hk hE hsm hS1)
  have CQ := Lib.hid (fun (k : Nat) (w : World) (h : Ps w p.pb p.tb p.tf p.tc p.ts k d) (hk : k < p.ts.length) => want_p [61] p k d w h hk hE (by decide))
  have CS := Lib.hid (fun (k : Nat) (w : World) (h : Ps w p.pb p.tb p.tf p.tc p.ts k d) (hk : k < p.ts.length) => want_p [59] p k d w h hk hE (by decide))
  have CA := Lib.hid (fun (k : Nat) (w : World) (h : Ps w p.pb p.tb p.tf p.tc p.ts k d) (hk : k < p.ts.length) => ahead_p [40] p k d w h hk hE)
  have CC := Lib.hid (fun (B0 : Nat) (ns : List (List UInt8)) (qn : Option Addr) (cn : Nat) (k : Nat) (w : World) (h : Ps w p.pb p.tb p.tf p.tc p.ts k d) (hk : k < p.ts.length) (hB0 : B0 ≤ w.heap.size) (hpb0 : p.pb < B0) (hN : Fresh B0 w.heap.size w (fun W N => ns.length ≤ cn ∧ RowIn N (StrAt W) 1 ns qn)) => call_p n B0 ns qn cn p k d w h hk hE hsm HX hsh hB0 hpb0 hN)
  have HSM := Lib.hid (hsm)
  obtain ⟨W0, hW0⟩ : ∃ W0, w.alloc (.cells #[.int .i64 0, .string ⟨#[]⟩, .slice none 0 0, .int .i64 0, .int .u64 0, .string ⟨#[]⟩, .slice none 0 0, .int .i64 0, .int .u64 0, .string ⟨#[]⟩, .slice none 0 0, .slice none 0 0, .int .u64 0, .int .u64 0, .slice none 0 0, .slice none 0 0] 69) = W0 := ⟨_, rfl⟩
  have hB0 : Below w.heap.size w W0 := by rw [← hW0]; exact (Below.refl _ _).alloc (Nat.le_refl _) _
  have Kr := Lib.hid (show W0.heap[w.heap.size]? = some (.cells #[.int .i64 0, .string ⟨#[]⟩, .slice none 0 0, .int .i64 0, .int .u64 0, .string ⟨#[]⟩, .slice none 0 0, .int .i64 0, .int .u64 0, .string ⟨#[]⟩, .slice none 0 0, .slice none 0 0, .int .u64 0, .int .u64 0, .slice none 0 0, .slice none 0 0] 69 (0, 0)) by rw [← hW0]; exact heap_alloc_new w _)
  have Nr := Lib.hid (Nat.ne_of_gt hpb)
  have Nr2 := Lib.hid (Nat.ne_of_gt h.lt)
  have BB := Lib.hid (But.of_below (g := p.pb) hB0)
  have SS := Lib.hid (And.intro (h.later hB0) hk)
  clear hB0
  have PB := Lib.hid hpb
  clear h hk hE hpb
  generalize hG : (setP n (p.ts.drop k)) = G
  unfold setP at hG
  have HG := Lib.hid hG
  clear hG
  go_enter Tryz.func176, Tryz.ntmps176
  have YW := Lib.hid BB.out.size
  have VW := Lib.hid (Array.getElem?_eq_some_iff.1 Kr.out).1
  go_wp2_with fail
  try rw [hW0]
  clear hW0
  have Va1 := Lib.hid (show w.heap.size < W0.heap.size from (Array.getElem?_eq_some_iff.1 Kr.out).1)
  refine (CL.out k W0 SS.out.1 SS.out.2).mono ?_
  intro z w1 hc
  rcases hc with ⟨k1, a1, s1, hr, hkk, hp, hb, hz, hR⟩ | ⟨k1, e1, t1, hr, hp, hb, hz⟩
  rotate_left
  · subst hz
    have HN := Lib.hid (show Post RStmt G p d w (WrongIs (e1 : Int) t1) w1 from .no k1 e1 t1 (by rw [← HG.out]; simp only [hr, Res.bind_no]) hp (BB.out.trans hb) rfl)
    clear hr hp hb
    unfold WrongIs
    go_wp2_with fail
    exact ⟨rfl, HN.out⟩
  replace Kr := Lib.hid ((hb.block _ (Array.getElem?_eq_some_iff.1 Kr.out).1 Nr.out).trans Kr.out)
  obtain ⟨qa1, ca1⟩ := s1
  obtain rfl : z = .returned (.slice qa1 a1.length ca1) := hz
  have ZW := Lib.hid (show W0.heap.size ≤ w1.heap.size from hb.size)
  have Fa1 := Lib.hid (show Fresh W0.heap.size w1.heap.size w1 (fun W N => a1.length ≤ ca1 ∧ RowIn N (StrAt W) 1 a1 qa1) from hR)
  have Ga1 := Lib.hid SS.out.1.lt_pb
  have Za1 := Lib.hid (Nat.le_refl w1.heap.size)
  have Ya1 := Lib.hid (show w.heap.size ≤ W0.heap.size from BB.out.size)
  have R1 := Lib.hid hr
  replace SS := Lib.hid (And.intro hp hkk)
  replace BB := Lib.hid (BB.out.trans hb)
  clear hr hkk hp hb hR
  go_wp2_with fail
  refine (CQ.out k1 w1 SS.out.1 SS.out.2).mono ?_
  intro z w2 hc
  rcases hc with ⟨k2, a2, s2, hr, hkk, hp, hb, hz, hR⟩ | ⟨k2, e2, t2, hr, hp, hb, hz⟩
  rotate_left
  · subst hz
    have HN := Lib.hid (show Post RStmt G p d w (WrongIs (e2 : Int) t2) w2 from .no k2 e2 t2 (by rw [← HG.out]; simp only [R1.out, hr, Res.bind_ok, Res.bind_no]) hp (BB.out.trans hb) rfl)
    clear hr hp hb
    unfold WrongIs
    go_wp2_with fail
    exact ⟨rfl, HN.out⟩
  replace Kr := Lib.hid ((hb.block _ (Array.getElem?_eq_some_iff.1 Kr.out).1 Nr.out).trans Kr.out)
  replace Fa1 := Lib.hid (Fa1.out.but hb Ga1.out Za1.out)
  replace Za1 := Lib.hid (Nat.le_trans Za1.out hb.size)
  replace Ya1 := Lib.hid Ya1.out
  obtain rfl : z = .returned (.tuple #[]) := hz
  have R2 := Lib.hid hr
  replace SS := Lib.hid (And.intro hp hkk)
  replace BB := Lib.hid (BB.out.trans hb)
  clear hr hkk hp hb hR
  rcases Classical.em (1 < a1.length) with hm | hm
  · have HCo := Lib.hid (show 1 < a1.length ∨ ((hdT (p.ts.drop k2)).kind = 1 ∧ (hdT (p.ts.drop (k2 + 1))).text = [40]) from Or.inl hm)
    have hm1 : (1 : Int) < (a1.length : Int) := by omega
    go_wp2_with fail
    have Va3 := Lib.hid (show w.heap.size < w2.heap.size from (Array.getElem?_eq_some_iff.1 Kr.out).1)
    refine (CC.out W0.heap.size a1 qa1 ca1 k2 w2 SS.out.1 SS.out.2 (Nat.le_trans ZW.out Za1.out) Ga1.out (Fa1.out.fin (Nat.le_refl _) Za1.out (fun W h => ⟨h.1, h.2.imp Za1.out (fun x b o _ ha => ha)⟩))).mono ?_
    intro z w3 hc
    rcases hc with ⟨k3, a3, s3, hr, hkk, hp, hb, hz, hR⟩ | ⟨k3, e3, t3, hr, hp, hb, hz⟩
    rotate_left
    · subst hz
      have HN := Lib.hid (show Post RStmt G p d w (WrongIs (e3 : Int) t3) w3 from .no k3 e3 t3 (by rw [← HG.out]; simp only [R1.out, R2.out, drop_tl, if_pos HCo.out, hr, Res.bind_ok]) hp (BB.out.trans hb) rfl)
      clear hr hp hb
      unfold WrongIs
      go_wp2_with fail
      exact ⟨rfl, HN.out⟩
    replace Kr := Lib.hid ((hb.block _ (Array.getElem?_eq_some_iff.1 Kr.out).1 Nr.out).trans Kr.out)
    replace Fa1 := Lib.hid (Fa1.out.but hb Ga1.out Za1.out)
    replace Za1 := Lib.hid (Nat.le_trans Za1.out hb.size)
    replace Ya1 := Lib.hid Ya1.out
    obtain ⟨pnz, pez, paz, pgz, pbz, plz, cnz, cez, caz, cgz, cbz, clz⟩ := s3
    obtain rfl : z = .returned (.agg #[.int .i64 a3.kind, .string (str a3.name), .slice pnz a3.names.length cnz, .int .i64 a3.e.op, .int .u64 (a3.e.word : Int), .string (str a3.e.name), .slice pez a3.e.args.len cez, .int .i64 a3.a.op, .int .u64 (a3.a.word : Int), .string (str a3.a.name), .slice paz a3.a.args.len caz, .slice pgz a3.args.len cgz, .int .u64 (a3.low : Int), .int .u64 (a3.high : Int), .slice pbz a3.body.len cbz, .slice plz a3.els.len clz]) := hz
    have Fa3 := Lib.hid (show Fresh W0.heap.size w3.heap.size w3 (fun W N => a3.Ok W N (⟨pnz, pez, paz, pgz, pbz, plz, cnz, cez, caz, cgz, cbz, clz⟩ : StP)) from hR)
    have Ga3 := Lib.hid Ga1.out
    have Za3 := Lib.hid (Nat.le_refl w3.heap.size)
    have Ya3 := Lib.hid YW.out
    have Va3 := Lib.hid VW.out
    have R3 := Lib.hid hr
    replace SS := Lib.hid (And.intro hp hkk)
    replace BB := Lib.hid (BB.out.trans hb)
    clear hr hkk hp hb hR
    have HRz := Lib.hid (Array.getElem?_eq_some_iff.1 Kr.out).1
    go_wp2_with (first | (refine wpl_put rfl _ _ _ rfl rfl w.heap.size 0 (.agg #[.int .i64 a3.kind, .string (str a3.name), .slice pnz a3.names.length cnz, .int .i64 a3.e.op, .int .u64 (a3.e.word : Int), .string (str a3.e.name), .slice pez a3.e.args.len cez, .int .i64 a3.a.op, .int .u64 (a3.a.word : Int), .string (str a3.a.name), .slice paz a3.a.args.len caz, .slice pgz a3.args.len cgz, .int .u64 (a3.low : Int), .int .u64 (a3.high : Int), .slice pbz a3.body.len cbz, .slice plz a3.els.len clz]) rfl rfl _ _ Kr.out (by exact Nat.le_of_ble_eq_true rfl) infoSt rfl ?_; intro wF hF hbF hzF))
    have hG : wF.heap[w.heap.size]? = some (.cells #[.int .i64 a3.kind, .string (str a3.name), .slice pnz a3.names.length cnz, .int .i64 a3.e.op, .int .u64 (a3.e.word : Int), .string (str a3.e.name), .slice pez a3.e.args.len cez, .int .i64 a3.a.op, .int .u64 (a3.a.word : Int), .string (str a3.a.name), .slice paz a3.a.args.len caz, .slice pgz a3.args.len cgz, .int .u64 (a3.low : Int), .int .u64 (a3.high : Int), .slice pbz a3.body.len cbz, .slice plz a3.els.len clz] 69 (0, 0)) := hF.trans (congrArg (fun a => some (Obj.cells a 69 (0, 0))) (putA_all (cur := #[.int .i64 0, .string ⟨#[]⟩, .slice none 0 0, .int .i64 0, .int .u64 0, .string ⟨#[]⟩, .slice none 0 0, .int .i64 0, .int .u64 0, .string ⟨#[]⟩, .slice none 0 0, .slice none 0 0, .int .u64 0, .int .u64 0, .slice none 0 0, .slice none 0 0]) (vs := #[.int .i64 a3.kind, .string (str a3.name), .slice pnz a3.names.length cnz, .int .i64 a3.e.op, .int .u64 (a3.e.word : Int), .string (str a3.e.name), .slice pez a3.e.args.len cez, .int .i64 a3.a.op, .int .u64 (a3.a.word : Int), .string (str a3.a.name), .slice paz a3.a.args.len caz, .slice pgz a3.args.len cgz, .int .u64 (a3.low : Int), .int .u64 (a3.high : Int), .slice pbz a3.body.len cbz, .slice plz a3.els.len clz]) rfl))
    clear hF
    refine bodyPost_ret (v := .agg #[.int .i64 a3.kind, .string (str a3.name), .slice pnz a3.names.length cnz, .int .i64 a3.e.op, .int .u64 (a3.e.word : Int), .string (str a3.e.name), .slice pez a3.e.args.len cez, .int .i64 a3.a.op, .int .u64 (a3.a.word : Int), .string (str a3.a.name), .slice paz a3.a.args.len caz, .slice pgz a3.args.len cgz, .int .u64 (a3.low : Int), .int .u64 (a3.high : Int), .slice pbz a3.body.len cbz, .slice plz a3.els.len clz]) ?_ rfl ?_
    · have y0 := cell_blk hG (j := 0) rfl
      have y1 := cell_blk hG (j := 1) rfl
      have y2 := cell_blk hG (j := 2) rfl
      have y3 := cell_blk hG (j := 3) rfl
      have y4 := cell_blk hG (j := 4) rfl
      have y5 := cell_blk hG (j := 5) rfl
      have y6 := cell_blk hG (j := 6) rfl
      have y7 := cell_blk hG (j := 7) rfl
      have y8 := cell_blk hG (j := 8) rfl
      have y9 := cell_blk hG (j := 9) rfl
      have y10 := cell_blk hG (j := 10) rfl
      have y11 := cell_blk hG (j := 11) rfl
      have y12 := cell_blk hG (j := 12) rfl
      have y13 := cell_blk hG (j := 13) rfl
      have y14 := cell_blk hG (j := 14) rfl
      have y15 := cell_blk hG (j := 15) rfl
      simp [results, Tryz.results176, go_sem, y0, y1, y2, y3, y4, y5, y6, y7, y8, y9, y10, y11, y12, y13, y14, y15]
    · refine .ok k3 a3 (⟨pnz, pez, paz, pgz, pbz, plz, cnz, cez, caz, cgz, cbz, clz⟩ : StP) (by rw [← HG.out]; simp only [R1.out, R2.out, R3.out, Res.bind_ok, drop_tl, if_pos HCo.out]) SS.out.2 (SS.out.1.aside hbF Nr.out Nr2.out) (BB.out.fin hbF (Nat.le_refl _)) rfl ?_
      exact (Fa3.out.asd hbF (by first | exact Or.inl Va3.out | exact Or.inr Va3.out) Za3.out).fin Ya3.out (Nat.le_trans Za3.out hbF.size) (fun W h => St.Ok.up h (Nat.le_trans Za3.out hbF.size))
  · have HM := Lib.hid hm
    have hm1 : ¬ (1 : Int) < (a1.length : Int) := by omega
    have HA := Lib.hid (CA.out k2 w2 SS.out.1 SS.out.2)
    rcases Classical.em ((hdT (p.ts.drop k2)).kind = 1 ∧ (hdT (p.ts.drop (k2 + 1))).text = [40]) with ha | ha
    · have HCo := Lib.hid (show 1 < a1.length ∨ ((hdT (p.ts.drop k2)).kind = 1 ∧ (hdT (p.ts.drop (k2 + 1))).text = [40]) from Or.inr ha)
      rw [decide_eq_true ha] at HA
      go_wp2_with fail
      refine (HA.out).mono ?_
      rintro z w3 ⟨rfl, hBX⟩
      replace Kr := Lib.hid ((hBX.block _ (Array.getElem?_eq_some_iff.1 Kr.out).1).trans Kr.out)
      replace Fa1 := Lib.hid (Fa1.out.bel hBX Za1.out)
      replace Za1 := Lib.hid (Nat.le_trans Za1.out hBX.size)
      replace Ya1 := Lib.hid Ya1.out
      replace SS := Lib.hid (And.intro (SS.out.1.later hBX) SS.out.2)
      replace BB := Lib.hid (BB.out.trans (But.of_below hBX))
      clear hBX
      go_wp2_with fail
      have Va4 := Lib.hid (show w.heap.size < w3.heap.size from (Array.getElem?_eq_some_iff.1 Kr.out).1)
      refine (CC.out W0.heap.size a1 qa1 ca1 k2 w3 SS.out.1 SS.out.2 (Nat.le_trans ZW.out Za1.out) Ga1.out (Fa1.out.fin (Nat.le_refl _) Za1.out (fun W h => ⟨h.1, h.2.imp Za1.out (fun x b o _ ha => ha)⟩))).mono ?_
      intro z w4 hc
      rcases hc with ⟨k4, a4, s4, hr, hkk, hp, hb, hz, hR⟩ | ⟨k4, e4, t4, hr, hp, hb, hz⟩
      rotate_left
      · subst hz
        have HN := Lib.hid (show Post RStmt G p d w (WrongIs (e4 : Int) t4) w4 from .no k4 e4 t4 (by rw [← HG.out]; simp only [R1.out, R2.out, drop_tl, if_pos HCo.out, hr, Res.bind_ok]) hp (BB.out.trans hb) rfl)
        clear hr hp hb
        unfold WrongIs
        go_wp2_with fail
        exact ⟨rfl, HN.out⟩
      replace Kr := Lib.hid ((hb.block _ (Array.getElem?_eq_some_iff.1 Kr.out).1 Nr.out).trans Kr.out)
      replace Fa1 := Lib.hid (Fa1.out.but hb Ga1.out Za1.out)
      replace Za1 := Lib.hid (Nat.le_trans Za1.out hb.size)
      replace Ya1 := Lib.hid Ya1.out
      obtain ⟨pnz, pez, paz, pgz, pbz, plz, cnz, cez, caz, cgz, cbz, clz⟩ := s4
      obtain rfl : z = .returned (.agg #[.int .i64 a4.kind, .string (str a4.name), .slice pnz a4.names.length cnz, .int .i64 a4.e.op, .int .u64 (a4.e.word : Int), .string (str a4.e.name), .slice pez a4.e.args.len cez, .int .i64 a4.a.op, .int .u64 (a4.a.word : Int), .string (str a4.a.name), .slice paz a4.a.args.len caz, .slice pgz a4.args.len cgz, .int .u64 (a4.low : Int), .int .u64 (a4.high : Int), .slice pbz a4.body.len cbz, .slice plz a4.els.len clz]) := hz
      have Fa4 := Lib.hid (show Fresh W0.heap.size w4.heap.size w4 (fun W N => a4.Ok W N (⟨pnz, pez, paz, pgz, pbz, plz, cnz, cez, caz, cgz, cbz, clz⟩ : StP)) from hR)
      have Ga4 := Lib.hid Ga1.out
      have Za4 := Lib.hid (Nat.le_refl w4.heap.size)
      have Ya4 := Lib.hid YW.out
      have Va4 := Lib.hid VW.out
      have R4 := Lib.hid hr
      replace SS := Lib.hid (And.intro hp hkk)
      replace BB := Lib.hid (BB.out.trans hb)
      clear hr hkk hp hb hR
      have HRz := Lib.hid (Array.getElem?_eq_some_iff.1 Kr.out).1
      go_wp2_with (first | (refine wpl_put rfl _ _ _ rfl rfl w.heap.size 0 (.agg #[.int .i64 a4.kind, .string (str a4.name), .slice pnz a4.names.length cnz, .int .i64 a4.e.op, .int .u64 (a4.e.word : Int), .string (str a4.e.name), .slice pez a4.e.args.len cez, .int .i64 a4.a.op, .int .u64 (a4.a.word : Int), .string (str a4.a.name), .slice paz a4.a.args.len caz, .slice pgz a4.args.len cgz, .int .u64 (a4.low : Int), .int .u64 (a4.high : Int), .slice pbz a4.body.len cbz, .slice plz a4.els.len clz]) rfl rfl _ _ Kr.out (by exact Nat.le_of_ble_eq_true rfl) infoSt rfl ?_; intro wF hF hbF hzF))
      have hG : wF.heap[w.heap.size]? = some (.cells #[.int .i64 a4.kind, .string (str a4.name), .slice pnz a4.names.length cnz, .int .i64 a4.e.op, .int .u64 (a4.e.word : Int), .string (str a4.e.name), .slice pez a4.e.args.len cez, .int .i64 a4.a.op, .int .u64 (a4.a.word : Int), .string (str a4.a.name), .slice paz a4.a.args.len caz, .slice pgz a4.args.len cgz, .int .u64 (a4.low : Int), .int .u64 (a4.high : Int), .slice pbz a4.body.len cbz, .slice plz a4.els.len clz] 69 (0, 0)) := hF.trans (congrArg (fun a => some (Obj.cells a 69 (0, 0))) (putA_all (cur := #[.int .i64 0, .string ⟨#[]⟩, .slice none 0 0, .int .i64 0, .int .u64 0, .string ⟨#[]⟩, .slice none 0 0, .int .i64 0, .int .u64 0, .string ⟨#[]⟩, .slice none 0 0, .slice none 0 0, .int .u64 0, .int .u64 0, .slice none 0 0, .slice none 0 0]) (vs := #[.int .i64 a4.kind, .string (str a4.name), .slice pnz a4.names.length cnz, .int .i64 a4.e.op, .int .u64 (a4.e.word : Int), .string (str a4.e.name), .slice pez a4.e.args.len cez, .int .i64 a4.a.op, .int .u64 (a4.a.word : Int), .string (str a4.a.name), .slice paz a4.a.args.len caz, .slice pgz a4.args.len cgz, .int .u64 (a4.low : Int), .int .u64 (a4.high : Int), .slice pbz a4.body.len cbz, .slice plz a4.els.len clz]) rfl))
      clear hF
      refine bodyPost_ret (v := .agg #[.int .i64 a4.kind, .string (str a4.name), .slice pnz a4.names.length cnz, .int .i64 a4.e.op, .int .u64 (a4.e.word : Int), .string (str a4.e.name), .slice pez a4.e.args.len cez, .int .i64 a4.a.op, .int .u64 (a4.a.word : Int), .string (str a4.a.name), .slice paz a4.a.args.len caz, .slice pgz a4.args.len cgz, .int .u64 (a4.low : Int), .int .u64 (a4.high : Int), .slice pbz a4.body.len cbz, .slice plz a4.els.len clz]) ?_ rfl ?_
      · have y0 := cell_blk hG (j := 0) rfl
        have y1 := cell_blk hG (j := 1) rfl
        have y2 := cell_blk hG (j := 2) rfl
        have y3 := cell_blk hG (j := 3) rfl
        have y4 := cell_blk hG (j := 4) rfl
        have y5 := cell_blk hG (j := 5) rfl
        have y6 := cell_blk hG (j := 6) rfl
        have y7 := cell_blk hG (j := 7) rfl
        have y8 := cell_blk hG (j := 8) rfl
        have y9 := cell_blk hG (j := 9) rfl
        have y10 := cell_blk hG (j := 10) rfl
        have y11 := cell_blk hG (j := 11) rfl
        have y12 := cell_blk hG (j := 12) rfl
        have y13 := cell_blk hG (j := 13) rfl
        have y14 := cell_blk hG (j := 14) rfl
        have y15 := cell_blk hG (j := 15) rfl
        simp [results, Tryz.results176, go_sem, y0, y1, y2, y3, y4, y5, y6, y7, y8, y9, y10, y11, y12, y13, y14, y15]
      · refine .ok k4 a4 (⟨pnz, pez, paz, pgz, pbz, plz, cnz, cez, caz, cgz, cbz, clz⟩ : StP) (by rw [← HG.out]; simp only [R1.out, R2.out, R4.out, Res.bind_ok, drop_tl, if_pos HCo.out]) SS.out.2 (SS.out.1.aside hbF Nr.out Nr2.out) (BB.out.fin hbF (Nat.le_refl _)) rfl ?_
        exact (Fa4.out.asd hbF (by first | exact Or.inl Va4.out | exact Or.inr Va4.out) Za4.out).fin Ya4.out (Nat.le_trans Za4.out hbF.size) (fun W h => St.Ok.up h (Nat.le_trans Za4.out hbF.size))
    · have HCo := Lib.hid (show ¬ (1 < a1.length ∨ ((hdT (p.ts.drop k2)).kind = 1 ∧ (hdT (p.ts.drop (k2 + 1))).text = [40])) from fun h => h.elim HM.out ha)
      rw [decide_eq_false ha] at HA
      go_wp2_with fail
      refine (HA.out).mono ?_
      rintro z w3 ⟨rfl, hBX⟩
      replace Kr := Lib.hid ((hBX.block _ (Array.getElem?_eq_some_iff.1 Kr.out).1).trans Kr.out)
      replace Fa1 := Lib.hid (Fa1.out.bel hBX Za1.out)
      replace Za1 := Lib.hid (Nat.le_trans Za1.out hBX.size)
      replace Ya1 := Lib.hid Ya1.out
      replace SS := Lib.hid (And.intro (SS.out.1.later hBX) SS.out.2)
      replace BB := Lib.hid (BB.out.trans (But.of_below hBX))
      clear hBX
      obtain ⟨nm, hnm⟩ : ∃ nm, a1 = [nm] := by
        have h1 := listP_ne R1.out
        have h2 := HM.out
        match a1, h1, h2 with
        | [x], _, _ => exact ⟨x, rfl⟩
        | x :: y :: r, _, h2 => exact absurd (by simp only [List.length_cons]; omega) h2
      subst hnm
      obtain ⟨bn, on, rfl⟩ := name_place (Fa1.out _ (Agr.refl Za1.out))
      clear hm hm1
      go_wp2_with fail
      have hBD : Below w3.heap.size w3 w3.drew := (Below.refl _ _).drew
      replace Kr := Lib.hid ((hBD.block _ (Array.getElem?_eq_some_iff.1 Kr.out).1).trans Kr.out)
      replace Fa1 := Lib.hid (Fa1.out.bel hBD Za1.out)
      replace Za1 := Lib.hid (Nat.le_trans Za1.out hBD.size)
      replace Ya1 := Lib.hid Ya1.out
      replace SS := Lib.hid (And.intro (SS.out.1.later hBD) SS.out.2)
      replace BB := Lib.hid (BB.out.trans (But.of_below hBD))
      clear hBD
      refine wp_region_held_drew (S := fun X => X.cell? ⟨bn, on, none⟩ = some (.string (str nm))) (by kernel_rfl) ?_ (fun hHeld => ?_)
      · exact name_cell (Fa1.out _ (Agr.refl Za1.out))
      refine wpAnyH_take (i := 0) (oi := ⟨some 21, .move (.tmp 3), 67, "stmts.go:85", #[], none⟩) (v := ?_) rfl (by kernel_rfl) (by kernel_rfl) (by kernel_rfl) (fun _ _ _ h => h) (Or.inl ⟨by rfl, ?_⟩) (by assumption) ?_
      rotate_left
      · (intro w hSw; (try dsimp only at hSw); go_simp; try with_reducible rfl)
      try simp only [Act.put, List.setIfInBounds_toArray, List.set_cons_zero, List.set_cons_succ]
      refine wpAnyH_take (i := 1) (oi := ⟨some 22, .indexAddr 67 (.tmp 21) (.const (.int .i64 0)), 0, "stmts.go:85", #[⟨0, .data⟩], none⟩) (v := .pointer (some ⟨bn, on, none⟩)) rfl (by kernel_rfl) (by kernel_rfl) (by kernel_rfl) (fun _ _ _ h => h) (Or.inl ⟨by rfl, ?_⟩) (by assumption) ?_
      · (intro w hSw; (try dsimp only at hSw); go_simp)
      try simp only [Act.put, List.setIfInBounds_toArray, List.set_cons_zero, List.set_cons_succ]
      refine wpAnyH_take (i := 2) (oi := ⟨some 23, .load 9 (.tmp 22), 9, "stmts.go:85", #[⟨1, .data⟩], none⟩) (v := .string (str nm)) rfl (by kernel_rfl) (by kernel_rfl) (by kernel_rfl) (fun _ _ _ h => h) (Or.inl ⟨by rfl, ?_⟩) (by assumption) ?_
      · (intro w hSw; (try dsimp only at hSw); go_simp)
      try simp only [Act.put, List.setIfInBounds_toArray, List.set_cons_zero, List.set_cons_succ]
      refine wpAnyH_take (i := 3) (oi := ⟨some 24, .move (.tmp 0), 73, "stmts.go:85", #[], none⟩) (v := ?_) rfl (by kernel_rfl) (by kernel_rfl) (by kernel_rfl) (fun _ _ _ h => h) (Or.inl ⟨by rfl, ?_⟩) (by assumption) ?_
      rotate_left
      · (intro w hSw; (try dsimp only at hSw); go_simp; try with_reducible rfl)
      try simp only [Act.put, List.setIfInBounds_toArray, List.set_cons_zero, List.set_cons_succ]
      generalize w3.drew = wd at *
      refine wpAnyH_ready (rs := [4, 6]) (by kernel_rfl) (by simp) ?_
      refine AllReadyH.cons (o := ⟨some 25, .call { callee := .value (.func 100), args := #[.tmp 24], argTypes := #[73] }, 39, "stmts.go:85", #[⟨3, .data⟩], none⟩) rfl (fun K hK => ?_) (AllReadyH.cons (o := ⟨some 4, .alloc 69, 0, "stmts.go:85", #[], none⟩) rfl (fun K hK => ?_) AllReadyH.nil)
      · go_simp
        have Va4 := Lib.hid (show w.heap.size < wd.heap.size from (Array.getElem?_eq_some_iff.1 Kr.out).1)
        refine (CX.out k2 wd SS.out.1 SS.out.2).mono ?_
        intro z w4 hc
        rcases hc with ⟨k4, a4, s4, hr, hkk, hp, hb, hz, hR⟩ | ⟨k4, e4, t4, hr, hp, hb, hz⟩
        rotate_left
        · subst hz
          have HN := Lib.hid (show Post RStmt G p d w (WrongIs (e4 : Int) t4) w4 from .no k4 e4 t4 (by rw [← HG.out]; simp only [R1.out, R2.out, drop_tl, if_neg HCo.out, List.headD_cons, hr, Res.bind_ok, Res.bind_no]) hp (BB.out.trans hb) rfl)
          clear hr hp hb
          unfold WrongIs
          go_simp
          exact ⟨rfl, HN.out⟩
        replace Kr := Lib.hid ((hb.block _ (Array.getElem?_eq_some_iff.1 Kr.out).1 Nr.out).trans Kr.out)
        replace Fa1 := Lib.hid (Fa1.out.but hb Ga1.out Za1.out)
        replace Za1 := Lib.hid (Nat.le_trans Za1.out hb.size)
        replace Ya1 := Lib.hid Ya1.out
        obtain ⟨qa4, ca4⟩ := s4
        obtain rfl : z = .returned (.agg #[.int .i64 a4.op, .int .u64 (a4.word : Int), .string (str a4.name), .slice qa4 a4.args.len ca4]) := hz
        have Fa4 := Lib.hid (show Fresh wd.heap.size w4.heap.size w4 (fun W N => a4.Ok W N qa4) from hR)
        have Ga4 := Lib.hid SS.out.1.lt_pb
        have Za4 := Lib.hid (Nat.le_refl w4.heap.size)
        have Ya4 := Lib.hid (show w.heap.size ≤ wd.heap.size from BB.out.size)
        have R4 := Lib.hid hr
        replace SS := Lib.hid (And.intro hp hkk)
        replace BB := Lib.hid (BB.out.trans hb)
        clear hr hkk hp hb hR
        refine hK.out _ _ ?_ (fun hHeld => ?_)
        · exact name_cell (Fa1.out _ (Agr.refl Za1.out))
        clear hK K
        try simp only [Act.put, List.setIfInBounds_toArray, List.set_cons_zero, List.set_cons_succ]
        refine wpAnyH_take (i := 5) (oi := ⟨some 26, .build 69 #[(0, .const (.int .i64 1)), (1, .tmp 23), (3, .tmp 25)], 69, "stmts.go:85", #[⟨2, .data⟩, ⟨4, .data⟩], none⟩) (v := .agg #[.int .i64 1, .string (str nm), .slice none 0 0, .int .i64 a4.op, .int .u64 (a4.word : Int), .string (str a4.name), .slice qa4 a4.args.len ca4, .int .i64 0, .int .u64 0, .string ⟨#[]⟩, .slice none 0 0, .slice none 0 0, .int .u64 0, .int .u64 0, .slice none 0 0, .slice none 0 0]) rfl (by kernel_rfl) (by kernel_rfl) (by kernel_rfl) (fun _ _ _ h => h) (Or.inl ⟨by rfl, ?_⟩) (by assumption) ?_
        · (intro w hSw; (try dsimp only at hSw); go_simp)
        try simp only [Act.put, List.setIfInBounds_toArray, List.set_cons_zero, List.set_cons_succ]
        refine wpAnyH_ready (rs := [6]) (by kernel_rfl) (by simp) ?_
        refine AllReadyH.cons (o := ⟨some 4, .alloc 69, 0, "stmts.go:85", #[], none⟩) rfl (fun K hK => ?_) AllReadyH.nil
        go_simp
        refine hK.out _ _ ?_ (fun hHeld => ?_)
        · exact (World.cell?_alloc_some _ _ _ (by rw [name_cell (Fa1.out _ (Agr.refl Za1.out))]; rfl)).trans (name_cell (Fa1.out _ (Agr.refl Za1.out)))
        clear hK K
        try simp only [Act.put, List.setIfInBounds_toArray, List.set_cons_zero, List.set_cons_succ]
        refine wpAnyH_ready (rs := [7]) (by kernel_rfl) (by simp) ?_
        refine AllReadyH.cons (o := ⟨none, .store 69 (.tmp 4) (.tmp 26), 0, "stmts.go:85", #[⟨6, .data⟩, ⟨5, .data⟩, ⟨4, .chain⟩, ⟨0, .phase⟩, ⟨1, .phase⟩, ⟨2, .phase⟩, ⟨3, .phase⟩, ⟨4, .phase⟩, ⟨5, .phase⟩, ⟨6, .phase⟩], none⟩) rfl (fun K hK => ?_) AllReadyH.nil
        rw [if_pos (by rfl)]
        refine wp_store_new 69 _ _ rfl #[.int .i64 0, .string ⟨#[]⟩, .slice none 0 0, .int .i64 0, .int .u64 0, .string ⟨#[]⟩, .slice none 0 0, .int .i64 0, .int .u64 0, .string ⟨#[]⟩, .slice none 0 0, .slice none 0 0, .int .u64 0, .int .u64 0, .slice none 0 0, .slice none 0 0] #[.int .i64 1, .string (str nm), .slice none 0 0, .int .i64 a4.op, .int .u64 (a4.word : Int), .string (str a4.name), .slice qa4 a4.args.len ca4, .int .i64 0, .int .u64 0, .string ⟨#[]⟩, .slice none 0 0, .slice none 0 0, .int .u64 0, .int .u64 0, .slice none 0 0, .slice none 0 0] _ rfl rfl rfl infoSt (by first | rfl | kernel_rfl | simp [Value.oneCell']) ?_
        refine hK.out _ _ ?_ (fun hHeld => ?_)
        · exact (World.cell?_alloc_some _ _ _ (by rw [name_cell (Fa1.out _ (Agr.refl Za1.out))]; rfl)).trans (name_cell (Fa1.out _ (Agr.refl Za1.out)))
        clear hK K
        try simp only [Act.put]
        refine wpAnyH_done (by kernel_rfl) ?_ _
        obtain ⟨Ae, hAe⟩ : ∃ A, w4.alloc (.cells #[.int .i64 1, .string (str nm), .slice none 0 0, .int .i64 a4.op, .int .u64 (a4.word : Int), .string (str a4.name), .slice qa4 a4.args.len ca4, .int .i64 0, .int .u64 0, .string ⟨#[]⟩, .slice none 0 0, .slice none 0 0, .int .u64 0, .int .u64 0, .slice none 0 0, .slice none 0 0] 69) = A := ⟨_, rfl⟩
        have VV := Lib.hid (show w.heap.size < w4.heap.size from (Array.getElem?_eq_some_iff.1 Kr.out).1)
        have Xa1 := Lib.hid Za1.out
        have Xa4 := Lib.hid Za4.out
        have hBA : Below w4.heap.size w4 Ae := by rw [← hAe]; exact (Below.refl _ _).alloc (Nat.le_refl _) _
        replace Kr := Lib.hid ((hBA.block _ (Array.getElem?_eq_some_iff.1 Kr.out).1).trans Kr.out)
        replace Fa1 := Lib.hid (Fa1.out.bel hBA Za1.out)
        replace Za1 := Lib.hid (Nat.le_trans Za1.out hBA.size)
        replace Ya1 := Lib.hid Ya1.out
        replace Fa4 := Lib.hid (Fa4.out.bel hBA Za4.out)
        replace Za4 := Lib.hid (Nat.le_trans Za4.out hBA.size)
        replace Ya4 := Lib.hid Ya4.out
        have Ke := Lib.hid (show Ae.heap[w4.heap.size]? = some (.cells #[.int .i64 1, .string (str nm), .slice none 0 0, .int .i64 a4.op, .int .u64 (a4.word : Int), .string (str a4.name), .slice qa4 a4.args.len ca4, .int .i64 0, .int .u64 0, .string ⟨#[]⟩, .slice none 0 0, .slice none 0 0, .int .u64 0, .int .u64 0, .slice none 0 0, .slice none 0 0] 69 (0, 0)) by rw [← hAe]; exact heap_alloc_new w4 _)
        have Ne := Lib.hid (Nat.ne_of_gt SS.out.1.lt_pb)
        have Te := Lib.hid (Nat.ne_of_gt SS.out.1.lt)
        have Uea1 := Lib.hid (show _ ≤ w4.heap.size from Xa1.out)
        have Uea4 := Lib.hid (show _ ≤ w4.heap.size from Xa4.out)
        have Me := Lib.hid (show w.heap.size ≤ w4.heap.size from BB.out.size)
        have Ve := Lib.hid (show w.heap.size < w4.heap.size from VV.out)
        replace SS := Lib.hid (And.intro (SS.out.1.later hBA) SS.out.2)
        replace BB := Lib.hid (BB.out.trans (But.of_below hBA))
        clear hBA
        have HAe := Lib.hid hAe
        clear hAe
        rw [HAe.out]
        clear HAe
        go_wp2_with fail
        refine (CS.out k4 Ae SS.out.1 SS.out.2).mono ?_
        intro z w5 hc
        rcases hc with ⟨k5, a5, s5, hr, hkk, hp, hb, hz, hR⟩ | ⟨k5, e5, t5, hr, hp, hb, hz⟩
        rotate_left
        · subst hz
          have HN := Lib.hid (show Post RStmt G p d w (WrongIs (e5 : Int) t5) w5 from .no k5 e5 t5 (by rw [← HG.out]; simp only [R1.out, R2.out, R4.out, drop_tl, if_neg HCo.out, List.headD_cons, hr, Res.bind_ok, Res.bind_no]) hp (BB.out.trans hb) rfl)
          clear hr hp hb
          unfold WrongIs
          go_wp2_with fail
          exact ⟨rfl, HN.out⟩
        replace Kr := Lib.hid ((hb.block _ (Array.getElem?_eq_some_iff.1 Kr.out).1 Nr.out).trans Kr.out)
        replace Ke := Lib.hid ((hb.block _ (Array.getElem?_eq_some_iff.1 Ke.out).1 Ne.out).trans Ke.out)
        replace Fa1 := Lib.hid (Fa1.out.but hb Ga1.out Za1.out)
        replace Za1 := Lib.hid (Nat.le_trans Za1.out hb.size)
        replace Ya1 := Lib.hid Ya1.out
        replace Fa4 := Lib.hid (Fa4.out.but hb Ga4.out Za4.out)
        replace Za4 := Lib.hid (Nat.le_trans Za4.out hb.size)
        replace Ya4 := Lib.hid Ya4.out
        obtain rfl : z = .returned (.tuple #[]) := hz
        have R5 := Lib.hid hr
        replace SS := Lib.hid (And.intro hp hkk)
        replace BB := Lib.hid (BB.out.trans hb)
        clear hr hkk hp hb hR
        have hrz := (Array.getElem?_eq_some_iff.1 Kr.out).1
        have HRz := Lib.hid hrz
        clear hrz
        go_wp2_with (first | (refine wpl_load rfl 69 _ rfl (w4.heap.size) 0 rfl #[.int .i64 1, .string (str nm), .slice none 0 0, .int .i64 a4.op, .int .u64 (a4.word : Int), .string (str a4.name), .slice qa4 a4.args.len ca4, .int .i64 0, .int .u64 0, .string ⟨#[]⟩, .slice none 0 0, .slice none 0 0, .int .u64 0, .int .u64 0, .slice none 0 0, .slice none 0 0] _ (range_block Ke.out) Tryz.underlying69 rfl infoSt ?_) | (refine wpl_put rfl _ _ _ rfl rfl w.heap.size 0 (.agg #[.int .i64 1, .string (str nm), .slice none 0 0, .int .i64 a4.op, .int .u64 (a4.word : Int), .string (str a4.name), .slice qa4 a4.args.len ca4, .int .i64 0, .int .u64 0, .string ⟨#[]⟩, .slice none 0 0, .slice none 0 0, .int .u64 0, .int .u64 0, .slice none 0 0, .slice none 0 0]) rfl rfl _ _ Kr.out (by exact Nat.le_of_ble_eq_true rfl) infoSt rfl ?_; intro wF hF hbF hzF))
        have hG : wF.heap[w.heap.size]? = some (.cells #[.int .i64 1, .string (str nm), .slice none 0 0, .int .i64 a4.op, .int .u64 (a4.word : Int), .string (str a4.name), .slice qa4 a4.args.len ca4, .int .i64 0, .int .u64 0, .string ⟨#[]⟩, .slice none 0 0, .slice none 0 0, .int .u64 0, .int .u64 0, .slice none 0 0, .slice none 0 0] 69 (0, 0)) := hF.trans (congrArg (fun a => some (Obj.cells a 69 (0, 0))) (putA_all (cur := #[.int .i64 0, .string ⟨#[]⟩, .slice none 0 0, .int .i64 0, .int .u64 0, .string ⟨#[]⟩, .slice none 0 0, .int .i64 0, .int .u64 0, .string ⟨#[]⟩, .slice none 0 0, .slice none 0 0, .int .u64 0, .int .u64 0, .slice none 0 0, .slice none 0 0]) (vs := #[.int .i64 1, .string (str nm), .slice none 0 0, .int .i64 a4.op, .int .u64 (a4.word : Int), .string (str a4.name), .slice qa4 a4.args.len ca4, .int .i64 0, .int .u64 0, .string ⟨#[]⟩, .slice none 0 0, .slice none 0 0, .int .u64 0, .int .u64 0, .slice none 0 0, .slice none 0 0]) rfl))
        clear hF
        refine bodyPost_ret (v := .agg #[.int .i64 1, .string (str nm), .slice none 0 0, .int .i64 a4.op, .int .u64 (a4.word : Int), .string (str a4.name), .slice qa4 a4.args.len ca4, .int .i64 0, .int .u64 0, .string ⟨#[]⟩, .slice none 0 0, .slice none 0 0, .int .u64 0, .int .u64 0, .slice none 0 0, .slice none 0 0]) ?_ rfl ?_
        · have y0 := cell_blk hG (j := 0) rfl
          have y1 := cell_blk hG (j := 1) rfl
          have y2 := cell_blk hG (j := 2) rfl
          have y3 := cell_blk hG (j := 3) rfl
          have y4 := cell_blk hG (j := 4) rfl
          have y5 := cell_blk hG (j := 5) rfl
          have y6 := cell_blk hG (j := 6) rfl
          have y7 := cell_blk hG (j := 7) rfl
          have y8 := cell_blk hG (j := 8) rfl
          have y9 := cell_blk hG (j := 9) rfl
          have y10 := cell_blk hG (j := 10) rfl
          have y11 := cell_blk hG (j := 11) rfl
          have y12 := cell_blk hG (j := 12) rfl
          have y13 := cell_blk hG (j := 13) rfl
          have y14 := cell_blk hG (j := 14) rfl
          have y15 := cell_blk hG (j := 15) rfl
          simp [results, Tryz.results176, go_sem, y0, y1, y2, y3, y4, y5, y6, y7, y8, y9, y10, y11, y12, y13, y14, y15]
        · refine .ok k5 (.mk 1 nm [] a4 Z0 .nil 0 0 .nil .nil) ⟨none, qa4, none, none, none, none, 0, ca4, 0, 0, 0, 0⟩ (by rw [← HG.out]; first | rfl | simp only [R1.out, R2.out, R4.out, R5.out, Res.bind_ok, drop_tl, if_neg HCo.out, List.headD_cons] | trace_state) SS.out.2 (SS.out.1.aside hbF Nr.out Nr2.out) (BB.out.fin hbF (Nat.le_refl _)) rfl ?_
          intro W hW
          have oa4 := ((Fa4.out.asd hbF (by first | exact Or.inl Va4.out | exact Or.inr Va4.out) Za4.out).fin Ya4.out (Nat.le_trans Za4.out hbF.size) (fun W h => Ex.Ok.up h (Nat.le_trans Za4.out hbF.size))) W hW
          exact ⟨names_nil _ _ _, oa4, zero_ok _ _, Exs.In.nil _ _ _, sts_nil _ _, sts_nil _ _, zero_u64, zero_u64⟩
      · go_simp
        obtain ⟨Ae, hAe⟩ : ∃ A, wd.alloc (.cells #[.int .i64 0, .string ⟨#[]⟩, .slice none 0 0, .int .i64 0, .int .u64 0, .string ⟨#[]⟩, .slice none 0 0, .int .i64 0, .int .u64 0, .string ⟨#[]⟩, .slice none 0 0, .slice none 0 0, .int .u64 0, .int .u64 0, .slice none 0 0, .slice none 0 0] 69) = A := ⟨_, rfl⟩
        have VV := Lib.hid (show w.heap.size < wd.heap.size from (Array.getElem?_eq_some_iff.1 Kr.out).1)
        have Xa1 := Lib.hid Za1.out
        have hBA : Below wd.heap.size wd Ae := by rw [← hAe]; exact (Below.refl _ _).alloc (Nat.le_refl _) _
        replace Kr := Lib.hid ((hBA.block _ (Array.getElem?_eq_some_iff.1 Kr.out).1).trans Kr.out)
        replace Fa1 := Lib.hid (Fa1.out.bel hBA Za1.out)
        replace Za1 := Lib.hid (Nat.le_trans Za1.out hBA.size)
        replace Ya1 := Lib.hid Ya1.out
        have Ke := Lib.hid (show Ae.heap[wd.heap.size]? = some (.cells #[.int .i64 0, .string ⟨#[]⟩, .slice none 0 0, .int .i64 0, .int .u64 0, .string ⟨#[]⟩, .slice none 0 0, .int .i64 0, .int .u64 0, .string ⟨#[]⟩, .slice none 0 0, .slice none 0 0, .int .u64 0, .int .u64 0, .slice none 0 0, .slice none 0 0] 69 (0, 0)) by rw [← hAe]; exact heap_alloc_new wd _)
        have Ne := Lib.hid (Nat.ne_of_gt SS.out.1.lt_pb)
        have Te := Lib.hid (Nat.ne_of_gt SS.out.1.lt)
        have Uea1 := Lib.hid (show _ ≤ wd.heap.size from Xa1.out)
        have Me := Lib.hid (show w.heap.size ≤ wd.heap.size from BB.out.size)
        have Ve := Lib.hid (show w.heap.size < wd.heap.size from VV.out)
        replace SS := Lib.hid (And.intro (SS.out.1.later hBA) SS.out.2)
        replace BB := Lib.hid (BB.out.trans (But.of_below hBA))
        clear hBA
        have HAe := Lib.hid hAe
        clear hAe
        rw [HAe.out]
        clear HAe
        refine hK.out _ _ ?_ (fun hHeld => ?_)
        · exact name_cell (Fa1.out _ (Agr.refl Za1.out))
        clear hK K
        try simp only [Act.put, List.setIfInBounds_toArray, List.set_cons_zero, List.set_cons_succ]
        refine wpAnyH_ready (rs := [4]) (by kernel_rfl) (by simp) ?_
        refine AllReadyH.cons (o := ⟨some 25, .call { callee := .value (.func 100), args := #[.tmp 24], argTypes := #[73] }, 39, "stmts.go:85", #[⟨3, .data⟩], none⟩) rfl (fun K hK => ?_) AllReadyH.nil
        go_simp
        have Va4 := Lib.hid (show w.heap.size < Ae.heap.size from (Array.getElem?_eq_some_iff.1 Kr.out).1)
        have Uea4 := Lib.hid (show wd.heap.size < Ae.heap.size from (Array.getElem?_eq_some_iff.1 Ke.out).1)
        refine (CX.out k2 Ae SS.out.1 SS.out.2).mono ?_
        intro z w4 hc
        rcases hc with ⟨k4, a4, s4, hr, hkk, hp, hb, hz, hR⟩ | ⟨k4, e4, t4, hr, hp, hb, hz⟩
        rotate_left
        · subst hz
          have HN := Lib.hid (show Post RStmt G p d w (WrongIs (e4 : Int) t4) w4 from .no k4 e4 t4 (by rw [← HG.out]; simp only [R1.out, R2.out, drop_tl, if_neg HCo.out, List.headD_cons, hr, Res.bind_ok, Res.bind_no]) hp (BB.out.trans hb) rfl)
          clear hr hp hb
          unfold WrongIs
          go_simp
          exact ⟨rfl, HN.out⟩
        replace Kr := Lib.hid ((hb.block _ (Array.getElem?_eq_some_iff.1 Kr.out).1 Nr.out).trans Kr.out)
        replace Ke := Lib.hid ((hb.block _ (Array.getElem?_eq_some_iff.1 Ke.out).1 Ne.out).trans Ke.out)
        replace Fa1 := Lib.hid (Fa1.out.but hb Ga1.out Za1.out)
        replace Za1 := Lib.hid (Nat.le_trans Za1.out hb.size)
        replace Ya1 := Lib.hid Ya1.out
        obtain ⟨qa4, ca4⟩ := s4
        obtain rfl : z = .returned (.agg #[.int .i64 a4.op, .int .u64 (a4.word : Int), .string (str a4.name), .slice qa4 a4.args.len ca4]) := hz
        have Fa4 := Lib.hid (show Fresh Ae.heap.size w4.heap.size w4 (fun W N => a4.Ok W N qa4) from hR)
        have Ga4 := Lib.hid SS.out.1.lt_pb
        have Za4 := Lib.hid (Nat.le_refl w4.heap.size)
        have Ya4 := Lib.hid (show w.heap.size ≤ Ae.heap.size from BB.out.size)
        have R4 := Lib.hid hr
        replace SS := Lib.hid (And.intro hp hkk)
        replace BB := Lib.hid (BB.out.trans hb)
        clear hr hkk hp hb hR
        refine hK.out _ _ ?_ (fun hHeld => ?_)
        · exact name_cell (Fa1.out _ (Agr.refl Za1.out))
        clear hK K
        try simp only [Act.put, List.setIfInBounds_toArray, List.set_cons_zero, List.set_cons_succ]
        refine wpAnyH_take (i := 5) (oi := ⟨some 26, .build 69 #[(0, .const (.int .i64 1)), (1, .tmp 23), (3, .tmp 25)], 69, "stmts.go:85", #[⟨2, .data⟩, ⟨4, .data⟩], none⟩) (v := .agg #[.int .i64 1, .string (str nm), .slice none 0 0, .int .i64 a4.op, .int .u64 (a4.word : Int), .string (str a4.name), .slice qa4 a4.args.len ca4, .int .i64 0, .int .u64 0, .string ⟨#[]⟩, .slice none 0 0, .slice none 0 0, .int .u64 0, .int .u64 0, .slice none 0 0, .slice none 0 0]) rfl (by kernel_rfl) (by kernel_rfl) (by kernel_rfl) (fun _ _ _ h => h) (Or.inl ⟨by rfl, ?_⟩) (by assumption) ?_
        · (intro w hSw; (try dsimp only at hSw); go_simp)
        try simp only [Act.put, List.setIfInBounds_toArray, List.set_cons_zero, List.set_cons_succ]
        refine wpAnyH_ready (rs := [7]) (by kernel_rfl) (by simp) ?_
        refine AllReadyH.cons (o := ⟨none, .store 69 (.tmp 4) (.tmp 26), 0, "stmts.go:85", #[⟨6, .data⟩, ⟨5, .data⟩, ⟨4, .chain⟩, ⟨0, .phase⟩, ⟨1, .phase⟩, ⟨2, .phase⟩, ⟨3, .phase⟩, ⟨4, .phase⟩, ⟨5, .phase⟩, ⟨6, .phase⟩], none⟩) rfl (fun K hK => ?_) AllReadyH.nil
        rw [if_pos (by rfl)]
        refine wp_put 69 _ _ rfl (wd.heap.size) 0 (.agg #[.int .i64 1, .string (str nm), .slice none 0 0, .int .i64 a4.op, .int .u64 (a4.word : Int), .string (str a4.name), .slice qa4 a4.args.len ca4, .int .i64 0, .int .u64 0, .string ⟨#[]⟩, .slice none 0 0, .slice none 0 0, .int .u64 0, .int .u64 0, .slice none 0 0, .slice none 0 0]) rfl rfl _ _ Ke.out (by exact Nat.le_of_ble_eq_true rfl) infoSt (by first | rfl | kernel_rfl | simp [Value.oneCell']) ?_
        intro wq hkq hbq hzq
        replace Kr := Lib.hid ((hbq.block _ (Array.getElem?_eq_some_iff.1 Kr.out).1 (Nat.ne_of_lt Ve.out)).trans Kr.out)
        replace Ke := Lib.hid (show wq.heap[wd.heap.size]? = some (.cells #[.int .i64 1, .string (str nm), .slice none 0 0, .int .i64 a4.op, .int .u64 (a4.word : Int), .string (str a4.name), .slice qa4 a4.args.len ca4, .int .i64 0, .int .u64 0, .string ⟨#[]⟩, .slice none 0 0, .slice none 0 0, .int .u64 0, .int .u64 0, .slice none 0 0, .slice none 0 0] 69 (0, 0)) from hkq.trans (congrArg (fun a => some (Obj.cells a 69 (0, 0))) (putA_all (cur := #[.int .i64 0, .string ⟨#[]⟩, .slice none 0 0, .int .i64 0, .int .u64 0, .string ⟨#[]⟩, .slice none 0 0, .int .i64 0, .int .u64 0, .string ⟨#[]⟩, .slice none 0 0, .slice none 0 0, .int .u64 0, .int .u64 0, .slice none 0 0, .slice none 0 0]) (vs := #[.int .i64 1, .string (str nm), .slice none 0 0, .int .i64 a4.op, .int .u64 (a4.word : Int), .string (str a4.name), .slice qa4 a4.args.len ca4, .int .i64 0, .int .u64 0, .string ⟨#[]⟩, .slice none 0 0, .slice none 0 0, .int .u64 0, .int .u64 0, .slice none 0 0, .slice none 0 0]) rfl)))
        replace Fa1 := Lib.hid (Fa1.out.asd hbq (by first | exact Or.inl Uea1.out | exact Or.inr Uea1.out) Za1.out)
        replace Za1 := Lib.hid (Nat.le_trans Za1.out hbq.size)
        replace Fa4 := Lib.hid (Fa4.out.asd hbq (by first | exact Or.inl Uea4.out | exact Or.inr Uea4.out) Za4.out)
        replace Za4 := Lib.hid (Nat.le_trans Za4.out hbq.size)
        replace SS := Lib.hid (And.intro (SS.out.1.aside hbq Ne.out Te.out) SS.out.2)
        replace BB := Lib.hid (BB.out.fin hbq Me.out)
        clear hbq hkq hzq
        refine hK.out _ _ ?_ (fun hHeld => ?_)
        · exact name_cell (Fa1.out _ (Agr.refl Za1.out))
        clear hK K
        try simp only [Act.put]
        refine wpAnyH_done (by kernel_rfl) ?_ _
        go_wp2_with fail
        refine (CS.out k4 wq SS.out.1 SS.out.2).mono ?_
        intro z w5 hc
        rcases hc with ⟨k5, a5, s5, hr, hkk, hp, hb, hz, hR⟩ | ⟨k5, e5, t5, hr, hp, hb, hz⟩
        rotate_left
        · subst hz
          have HN := Lib.hid (show Post RStmt G p d w (WrongIs (e5 : Int) t5) w5 from .no k5 e5 t5 (by rw [← HG.out]; simp only [R1.out, R2.out, R4.out, drop_tl, if_neg HCo.out, List.headD_cons, hr, Res.bind_ok, Res.bind_no]) hp (BB.out.trans hb) rfl)
          clear hr hp hb
          unfold WrongIs
          go_wp2_with fail
          exact ⟨rfl, HN.out⟩
        replace Kr := Lib.hid ((hb.block _ (Array.getElem?_eq_some_iff.1 Kr.out).1 Nr.out).trans Kr.out)
        replace Ke := Lib.hid ((hb.block _ (Array.getElem?_eq_some_iff.1 Ke.out).1 Ne.out).trans Ke.out)
        replace Fa1 := Lib.hid (Fa1.out.but hb Ga1.out Za1.out)
        replace Za1 := Lib.hid (Nat.le_trans Za1.out hb.size)
        replace Ya1 := Lib.hid Ya1.out
        replace Fa4 := Lib.hid (Fa4.out.but hb Ga4.out Za4.out)
        replace Za4 := Lib.hid (Nat.le_trans Za4.out hb.size)
        replace Ya4 := Lib.hid Ya4.out
        obtain rfl : z = .returned (.tuple #[]) := hz
        have R5 := Lib.hid hr
        replace SS := Lib.hid (And.intro hp hkk)
        replace BB := Lib.hid (BB.out.trans hb)
        clear hr hkk hp hb hR
        have hrz := (Array.getElem?_eq_some_iff.1 Kr.out).1
        have HRz := Lib.hid hrz
        clear hrz
        go_wp2_with (first | (refine wpl_load rfl 69 _ rfl (wd.heap.size) 0 rfl #[.int .i64 1, .string (str nm), .slice none 0 0, .int .i64 a4.op, .int .u64 (a4.word : Int), .string (str a4.name), .slice qa4 a4.args.len ca4, .int .i64 0, .int .u64 0, .string ⟨#[]⟩, .slice none 0 0, .slice none 0 0, .int .u64 0, .int .u64 0, .slice none 0 0, .slice none 0 0] _ (range_block Ke.out) Tryz.underlying69 rfl infoSt ?_) | (refine wpl_put rfl _ _ _ rfl rfl w.heap.size 0 (.agg #[.int .i64 1, .string (str nm), .slice none 0 0, .int .i64 a4.op, .int .u64 (a4.word : Int), .string (str a4.name), .slice qa4 a4.args.len ca4, .int .i64 0, .int .u64 0, .string ⟨#[]⟩, .slice none 0 0, .slice none 0 0, .int .u64 0, .int .u64 0, .slice none 0 0, .slice none 0 0]) rfl rfl _ _ Kr.out (by exact Nat.le_of_ble_eq_true rfl) infoSt rfl ?_; intro wF hF hbF hzF))
        have hG : wF.heap[w.heap.size]? = some (.cells #[.int .i64 1, .string (str nm), .slice none 0 0, .int .i64 a4.op, .int .u64 (a4.word : Int), .string (str a4.name), .slice qa4 a4.args.len ca4, .int .i64 0, .int .u64 0, .string ⟨#[]⟩, .slice none 0 0, .slice none 0 0, .int .u64 0, .int .u64 0, .slice none 0 0, .slice none 0 0] 69 (0, 0)) := hF.trans (congrArg (fun a => some (Obj.cells a 69 (0, 0))) (putA_all (cur := #[.int .i64 0, .string ⟨#[]⟩, .slice none 0 0, .int .i64 0, .int .u64 0, .string ⟨#[]⟩, .slice none 0 0, .int .i64 0, .int .u64 0, .string ⟨#[]⟩, .slice none 0 0, .slice none 0 0, .int .u64 0, .int .u64 0, .slice none 0 0, .slice none 0 0]) (vs := #[.int .i64 1, .string (str nm), .slice none 0 0, .int .i64 a4.op, .int .u64 (a4.word : Int), .string (str a4.name), .slice qa4 a4.args.len ca4, .int .i64 0, .int .u64 0, .string ⟨#[]⟩, .slice none 0 0, .slice none 0 0, .int .u64 0, .int .u64 0, .slice none 0 0, .slice none 0 0]) rfl))
        clear hF
        refine bodyPost_ret (v := .agg #[.int .i64 1, .string (str nm), .slice none 0 0, .int .i64 a4.op, .int .u64 (a4.word : Int), .string (str a4.name), .slice qa4 a4.args.len ca4, .int .i64 0, .int .u64 0, .string ⟨#[]⟩, .slice none 0 0, .slice none 0 0, .int .u64 0, .int .u64 0, .slice none 0 0, .slice none 0 0]) ?_ rfl ?_
        · have y0 := cell_blk hG (j := 0) rfl
          have y1 := cell_blk hG (j := 1) rfl
          have y2 := cell_blk hG (j := 2) rfl
          have y3 := cell_blk hG (j := 3) rfl
          have y4 := cell_blk hG (j := 4) rfl
          have y5 := cell_blk hG (j := 5) rfl
          have y6 := cell_blk hG (j := 6) rfl
          have y7 := cell_blk hG (j := 7) rfl
          have y8 := cell_blk hG (j := 8) rfl
          have y9 := cell_blk hG (j := 9) rfl
          have y10 := cell_blk hG (j := 10) rfl
          have y11 := cell_blk hG (j := 11) rfl
          have y12 := cell_blk hG (j := 12) rfl
          have y13 := cell_blk hG (j := 13) rfl
          have y14 := cell_blk hG (j := 14) rfl
          have y15 := cell_blk hG (j := 15) rfl
          simp [results, Tryz.results176, go_sem, y0, y1, y2, y3, y4, y5, y6, y7, y8, y9, y10, y11, y12, y13, y14, y15]
        · refine .ok k5 (.mk 1 nm [] a4 Z0 .nil 0 0 .nil .nil) ⟨none, qa4, none, none, none, none, 0, ca4, 0, 0, 0, 0⟩ (by rw [← HG.out]; first | rfl | simp only [R1.out, R2.out, R4.out, R5.out, Res.bind_ok, drop_tl, if_neg HCo.out, List.headD_cons] | trace_state) SS.out.2 (SS.out.1.aside hbF Nr.out Nr2.out) (BB.out.fin hbF (Nat.le_refl _)) rfl ?_
          intro W hW
          have oa4 := ((Fa4.out.asd hbF (by first | exact Or.inl Va4.out | exact Or.inr Va4.out) Za4.out).fin Ya4.out (Nat.le_trans Za4.out hbF.size) (fun W h => Ex.Ok.up h (Nat.le_trans Za4.out hbF.size))) W hW
          exact ⟨names_nil _ _ _, oa4, zero_ok _ _, Exs.In.nil _ _ _, sts_nil _ _, sts_nil _ _, zero_u64, zero_u64⟩
end Go.Proofs.YtchbnkepmeelkaaGreatDoor
