/- TE, TF as one. -/
import Derived.Test.YtihmibggonffdaaGreatTD
import Derived.Test.YtihmibggonffdaaGreatF2
/- The walker asks for a level. -/
namespace Go.Proofs.YtihmibggonffdaaGreat
open Go.RowKit Go.ChangeMaps

inductive LwEnd (r : Option Bool) (N wb cb pb : Nat) (x : Prg) (s : PrgP) (w0 : World) (n : Nat) (w : World) : Ending → World → Prop where
  | ok {t : Bool} {w' : World} (h : r = some t) (hW : Ws w' N wb cb pb x s w0 n) (hF : Fw (fun k => k = cb) w w') : LwEnd r N wb cb pb x s w0 n w (.returned (.bool t)) w'
  | no {w' : World} (h : r = none) (hF : Fw (fun k => k = cb) w w') : LwEnd r N wb cb pb x s w0 n w (Pn 10) w'
theorem Pln.later {w w' : World} {b : Nat} (h : Pln w b) (hB : Below w.heap.size w w') : Pln w' b := by
  obtain ⟨c, t, h⟩ := h
  exact ⟨c, t, (hB.block b (lt_blk h)).trans h⟩
theorem Pln.old {w w' : World} {N b : Nat} (h : Pln w b) (hB : Below N w w') (hb : b < N) : Pln w' b := by
  obtain ⟨c, t, h⟩ := h
  exact ⟨c, t, (hB.block b hb).trans h⟩
def putH (w : World) (b : Nat) (o : Obj) : World := { w with heap := w.heap.setIfInBounds b o }
theorem putH_fw (w : World) (b : Nat) (o : Obj) : Fw (fun k => k = b) w (putH w b o) := ⟨rfl, rfl, rfl, by simp [putH], fun k _ hn => by simp only [putH]; exact Array.getElem?_setIfInBounds_ne (Ne.symm hn)⟩
theorem putH_at {w : World} {b : Nat} {o o' : Obj} (h : w.heap[b]? = some o') : (putH w b o).heap[b]? = some o := by simp [putH, lt_blk h]
theorem bas_str (c c' : Array Value) (q : Nat × Nat) : Obj.cells c 93 q ≠ Obj.cells c' 9 (0, 0) := fun e => by injection e with _ e _; exact absurd e (by decide)
theorem Ws.putC {w : World} {N wb cb pb n : Nat} {x : Prg} {s : PrgP} {w0 : World} (h : Ws w N wb cb pb x s w0 n) {es : Array MapEntry} {clock : Nat} (hb : w.heap[cb]? = some (.map es clock)) {i : Nat} {fn : Fnc} {e : Ex} {eb eo c d : Nat} {p q : Option Addr} (hn : ∀ y ∈ es.toList, y.key ≠ keyV (i : Int) ⟨eb, eo, none⟩) (hi : x.fns[i]? = some fn) (he : e.At w0 N eb eo) (hlt : eb < N) (hpl : Pln w0 eb)
    (h1 : SRow w 0 (.slice p (e.bas x fn).words.length c) (e.bas x fn).words) (h2 : SRow w 0 (.slice q (e.bas x fn).places.length d) (e.bas x fn).places) :
    Ws (putH w cb (.map (es.push { key := keyV (i : Int) ⟨eb, eo, none⟩, val := .agg #[.slice p (e.bas x fn).words.length c, .slice q (e.bas x fn).places.length d, .bool (e.bas x fn).secret, .bool (e.bas x fn).refused], born := clock }) (clock + 1))) N wb cb pb x s w0 n := by
  have hF := putH_fw w cb (.map (es.push { key := keyV (i : Int) ⟨eb, eo, none⟩, val := .agg #[.slice p (e.bas x fn).words.length c, .slice q (e.bas x fn).places.length d, .bool (e.bas x fn).secret, .bool (e.bas x fn).refused], born := clock }) (clock + 1))
  have hA := putH_at (o := .map (es.push { key := keyV (i : Int) ⟨eb, eo, none⟩, val := .agg #[.slice p (e.bas x fn).words.length c, .slice q (e.bas x fn).places.length d, .bool (e.bas x fn).secret, .bool (e.bas x fn).refused], born := clock }) (clock + 1)) hb
  generalize putH w cb _ = W at hF hA ⊢
  have hs : ∀ k, k = cb → ∀ c, w.heap[k]? ≠ some (.cells c 9 (0, 0)) := fun k e c h' => by rw [e, hb] at h'; cases h'
  have nw : wb ≠ cb := fun e => by have := h.wk; rw [e, hb] at this; cases this
  have np : pb ≠ cb := fun e => by have := h.prg.cs; rw [e, hb] at this; cases this
  have hB := hF.below h.lts.2.2.1 (fun k e => by rw [e]; exact h.lts.2.1)
  refine ⟨(hF.block wb (lt_blk h.wk) nw).trans h.wk, ⟨_, _, hA, ?_, fun y hy => ?_⟩, ⟨(hF.block pb (lt_blk h.prg.cs) np).trans h.prg.cs, h.prg.ok.later hB (Nat.le_refl N)⟩, h.old.trans hB, h.z, h.lts.1, h.lts.2.1, Nat.le_trans h.lts.2.2.1 hF.size, h.lts.2.2.2⟩
  · obtain ⟨es', clock', hb', hnd, _⟩ := h.ca
    rw [hb] at hb'
    cases hb'
    rw [Array.toList_push, List.map_append, List.nodup_append]
    refine ⟨hnd, by simp, fun a ha b' hb' => ?_⟩
    simp at hb'
    subst hb'
    obtain ⟨y, hy, rfl⟩ := List.mem_map.1 ha
    exact hn y hy
  · obtain ⟨es', clock', hb', hnd, hE⟩ := h.ca
    rw [hb] at hb'
    cases hb'
    rw [Array.toList_push, List.mem_append, List.mem_singleton] at hy
    rcases hy with hy | rfl
    · obtain ⟨k, fn, e, b, o, p, q, c, d, e1, e2, e3, e4, e5, e6, e7, e8⟩ := hE y hy
      exact ⟨k, fn, e, b, o, p, q, c, d, e1, e2, e3, e4, e5, e6, e7.fw hF hs, e8.fw hF hs⟩
    · exact ⟨i, fn, e, eb, eo, p, q, c, d, rfl, hi, he, hlt, hpl, rfl, h1.fw hF hs, h2.fw hF hs⟩
theorem LvEnd.walk {r : Option Bool} {N wb cb pb n : Nat} {x : Prg} {s : PrgP} {w0 w w1 : World} {z : Ending} {w2 : World} (h : LvEnd r w1 z w2) (hW : Ws w1 N wb cb pb x s w0 n) (hF : Fw (fun k => k = cb) w w1) : LwEnd r N wb cb pb x s w0 n w z w2 := by
  rcases h with ⟨h, hB⟩ | ⟨h, hB⟩
  · exact .ok h (hW.later hB) (hF.new (Fw.of_below (S := fun _ => False) hB) (fun _ e => e.elim))
  · exact .no h (hF.new (Fw.of_below (S := fun _ => False) hB) (fun _ e => e.elim))
set_option maxRecDepth 100000 in
set_option maxHeartbeats 6400000 in
theorem level_walk (x : Prg) (s : PrgP) (i : Nat) (fn : Fnc) (e : Ex) (deep wb cb pb mb eb eo N n : Nat) (T : List (List UInt8)) (w0 w : World) (hW : Ws w N wb cb pb x s w0 n) (hi : x.fns[i]? = some fn) (hchk : e.chk x fn deep = 0) (he : e.At (zc w0) N eb eo) (hb : eb < N) (hsz : e.size ≤ 3000000) (hM : Mp w mb (mem T)) (hmc : mb ≠ cb) :
    Calls Tryz.prog 109 #[.pointer (some ⟨wb, 0, none⟩), .int .i64 (i : Int), .pointer (some ⟨eb, eo, none⟩), .map (some mb)] w (LwEnd (e.lev x fn T) N wb cb pb x s w0 n w) := by
  obtain ⟨W1, hW1, k1, hB1, hz1⟩ := one_alloc w (.cells #[.int .i64 (i : Int), .pointer (some ⟨eb, eo, none⟩)] 174)
  have h1 := hW.later hB1
  obtain ⟨es, clock, hcb, hnd, hE⟩ := h1.ca
  have hpl := he.pln
  have heW := Ex.At.later h1.old (Nat.le_refl N) e eb eo hb (he.leq (zc_le w0))
  have hk : KeysOf W1 es.toList := fun y hy => by
    obtain ⟨k, fn, e, b, o, p, q, c, d, e1, e2, e3, e4, e5, e6⟩ := hE y hy
    exact ⟨_, _, e1, e5.old h1.old e4⟩
  have hkL : ∀ W, Below W1.heap.size W1 W → KeysOf W es.toList := fun W hB y hy => by
    obtain ⟨k, a, h1, h2⟩ := hk y hy
    exact ⟨k, a, h1, h2.later hB⟩
  have hplW : Pln W1 eb := hpl.old h1.old hb
  by_cases hf : ∃ y ∈ es.toList, y.key = keyV (i : Int) ⟨eb, eo, none⟩
  · obtain ⟨y, hy, hyk⟩ := hf
    obtain ⟨k', fn', e', b', o', p, q, c, d, e1, e2, e3, e4, e5, e6, e7, e8⟩ := hE y hy
    have hkk := keyV_inj (e1.symm.trans hyk)
    have hkn : k' = i := by have := hkk.1; omega
    have hab := hkk.2
    simp only [Addr.mk.injEq, and_true] at hab
    obtain ⟨rfl, rfl⟩ := hab
    subst hkn
    rw [hi] at e2
    cases e2
    have hee := Ex.At.inj e' e b' o' e3 (he.leq (zc_le w0))
    subst hee
    have hval : y.val = .agg #[.slice p (e'.bas x fn).words.length c, .slice q (e'.bas x fn).places.length d, .bool (e'.bas x fn).secret, .bool (e'.bas x fn).refused] := e6
    have HLV := Lib.hid (show e'.lev x fn T = (e'.bas x fn).lev T from rfl)
    have hly := fun (W : World) (hB : Below W1.heap.size W1 W) => look_yes ((hB.block _ (lt_blk hcb)).trans hcb) (hkL W hB) hnd (k' : Int) ⟨b', o', none⟩ (hplW.later hB) hy hyk
    rw [hval] at hly
    have hwt : (e'.bas x fn).wt ≤ 4000000 := by
      have := e'.wit_wt x fn bas0
      unfold Ex.bas
      simp only [show bas0.wt = 0 from rfl] at this
      omega
    generalize e'.lev x fn T = r at HLV ⊢
    generalize e'.bas x fn = B at e7 e8 hly HLV hwt
    have HL2 := Lib.hid (fun (W : World) (hB : Below W1.heap.size W1 W) => show W.cell? ⟨wb, 2, none⟩ = some (.map (some cb)) ∧ W.cell? ⟨w.heap.size, 0, none⟩ = some (.int .i64 (k' : Int)) ∧ W.cell? ⟨w.heap.size, 1, none⟩ = some (.pointer (some ⟨b', o', none⟩)) ∧ (Instr.lookup 78 (.map (some cb)) (.agg #[.int .i64 (k' : Int), .pointer (some ⟨b', o', none⟩)]) true).run Tryz.prog W = .ok (.tuple #[.agg #[.slice p B.words.length c, .slice q B.places.length d, .bool B.secret, .bool B.refused], .bool true]) W from
      ⟨cell_blk ((hB.block _ (lt_blk h1.wk)).trans h1.wk) rfl, cell_blk ((hB.block _ (lt_blk k1)).trans k1) rfl, cell_blk ((hB.block _ (lt_blk k1)).trans k1) rfl, hly W hB⟩)
    have HW1 := Lib.hid hW1
    have HZ1 := Lib.hid hz1
    have H1 := Lib.hid h1
    have HF1 := Lib.hid (show Fw (fun k => k = cb) w W1 from Fw.of_below hB1)
    have HM1 := Lib.hid (hM.later hB1)
    have HR := Lib.hid (And.intro e7 (And.intro e8 hwt))
    clear hW1 k1 hB1 hz1 h1 hE hpl heW hk hkL hplW hy hyk e1 e3 e4 e5 e6 e7 e8 hkk hval hly hwt hW hi hchk he hM hcb hnd hb hsz
    go_enter Tryz.func109, Tryz.ntmps109
    go_upto_region 2 with fail
    rw [HW1.out]
    clear HW1
    refine wp_region_held_drew (S := fun W => W.cell? ⟨wb, 2, none⟩ = some (.map (some cb)) ∧ W.cell? ⟨w.heap.size, 0, none⟩ = some (.int .i64 (k' : Int)) ∧ W.cell? ⟨w.heap.size, 1, none⟩ = some (.pointer (some ⟨b', o', none⟩)) ∧ (Instr.lookup 78 (.map (some cb)) (.agg #[.int .i64 (k' : Int), .pointer (some ⟨b', o', none⟩)]) true).run Tryz.prog W = .ok (.tuple #[.agg #[.slice p B.words.length c, .slice q B.places.length d, .bool B.secret, .bool B.refused], .bool true]) W) (by kernel_rfl) ?_ (fun hHeld => ?_)
    · exact HL2.out _ (Below.refl _ _).drew
    refine tq 0 ?_
    refine tq 1 ?_
    refine tq 2 ?_
    refine tq 3 ?_
    refine tq 4 ?_
    refine tq 5 ?_
    refine tq 6 ?_
    refine tq 7 ?_
    refine tq 8 ?_
    refine wpAnyH_ready (rs := [9]) (by kernel_rfl) (by simp) ?_
    refine rdy rfl (fun K hK => ?_) AllReadyH.nil
    go_simp
    refine hK.out _ _ ?_ (fun hHeldN => ?_)
    · exact HL2.out _ ((Below.refl _ _).drew.alloc (Nat.le_refl _) _)
    clear hK K hHeld
    have hHeld := hHeldN
    clear hHeldN
    try simp only [Act.put, List.setIfInBounds_toArray, List.set_cons_zero, List.set_cons_succ]
    refine wpAnyH_ready (rs := [10]) (by kernel_rfl) (by simp) ?_
    refine rdy rfl (fun K hK => ?_) AllReadyH.nil
    go_simp
    have HB2 := Lib.hid (show Below W1.heap.size W1 (W1.alloc (.cells #[.slice p B.words.length c, .slice q B.places.length d, .bool B.secret, .bool B.refused] 93)).drew from ((Below.refl _ _).alloc (Nat.le_refl _) _).drew)
    have HK2 := Lib.hid (show (W1.alloc (.cells #[.slice p B.words.length c, .slice q B.places.length d, .bool B.secret, .bool B.refused] 93)).drew.heap[W1.heap.size]? = some (.cells #[.slice p B.words.length c, .slice q B.places.length d, .bool B.secret, .bool B.refused] 93 (0, 0)) from by have h0 := heap_alloc_new W1 (.cells #[.slice p B.words.length c, .slice q B.places.length d, .bool B.secret, .bool B.refused] 93); exact h0)
    generalize (W1.alloc (.cells #[.slice p B.words.length c, .slice q B.places.length d, .bool B.secret, .bool B.refused] 93)).drew = W2 at HB2 HK2 ⊢
    refine hK.out _ _ ?_ (fun hHeldN => ?_)
    · exact HL2.out _ HB2.out
    clear hK K hHeld
    have hHeld := hHeldN
    clear hHeldN
    try simp only [Act.put, List.setIfInBounds_toArray, List.set_cons_zero, List.set_cons_succ]
    refine tq 11 ?_
    refine wpAnyH_done (by kernel_rfl) ?_ _
    clear hHeld
    have HWs := Lib.hid (H1.out.later HB2.out)
    have HFw := Lib.hid (HF1.out.new (Fw.of_below (S := fun _ => False) HB2.out) (fun _ e => e.elim))
    have HRR := Lib.hid (show BVal W2 W2.heap.size (.agg #[.slice p B.words.length c, .slice q B.places.length d, .bool B.secret, .bool B.refused]) B from by
      obtain ⟨r1, r2, hwt⟩ := HR.out
      unfold Bas.wt at hwt
      obtain ⟨_, _, q1, s1⟩ := ownStrs (r1.kept (row := none) ⟨HB2.out.os, HB2.out.tape, HB2.out.output, HB2.out.size, fun k hk _ => HB2.out.block k hk⟩ (fun _ _ e => by cases e)) (by omega)
      obtain ⟨_, _, q2, s2⟩ := ownStrs (r2.kept (row := none) ⟨HB2.out.os, HB2.out.tape, HB2.out.output, HB2.out.size, fun k hk _ => HB2.out.block k hk⟩ (fun _ _ e => by cases e)) (by omega)
      cases q1
      cases q2
      exact ⟨_, _, _, _, rfl, s1, s2⟩)
    have HLv := Lib.hid (level_any B T W1.heap.size mb W2.heap.size _ W2 HRR.out ⟨_, _, _, _, rfl, HK2.out⟩ (Nat.le_refl _) (HM1.out.later HB2.out))
    rw [← HLV.out] at HLv
    go_wp2_with fail
    refine HLv.out.mono ?_
    intro z w9 h9
    have H9 := Lib.hid (h9.walk HWs.out HFw.out)
    rcases h9 with ⟨hr, hB9⟩ | ⟨hr, hB9⟩
    · clear hr hB9
      go_wp2_with fail
      go_ret
      exact H9.out
    · clear hr hB9
      unfold Pn at H9 ⊢
      go_wp2_with fail
      exact ⟨rfl, H9.out⟩
  · have hn : ∀ y ∈ es.toList, y.key ≠ keyV (i : Int) ⟨eb, eo, none⟩ := fun y hy e => hf ⟨y, hy, e⟩
    have HL2 := Lib.hid (fun (W : World) (hB : Below W1.heap.size W1 W) => show W.cell? ⟨wb, 2, none⟩ = some (.map (some cb)) ∧ W.cell? ⟨w.heap.size, 0, none⟩ = some (.int .i64 (i : Int)) ∧ W.cell? ⟨w.heap.size, 1, none⟩ = some (.pointer (some ⟨eb, eo, none⟩)) ∧ (Instr.lookup 78 (.map (some cb)) (.agg #[.int .i64 (i : Int), .pointer (some ⟨eb, eo, none⟩)]) true).run Tryz.prog W = .ok (.tuple #[.agg #[.slice none 0 0, .slice none 0 0, .bool false, .bool false], .bool false]) W from
      ⟨cell_blk ((hB.block _ (lt_blk h1.wk)).trans h1.wk) rfl, cell_blk ((hB.block _ (lt_blk k1)).trans k1) rfl, cell_blk ((hB.block _ (lt_blk k1)).trans k1) rfl, look_no ((hB.block _ (lt_blk hcb)).trans hcb) (hkL W hB) (i : Int) ⟨eb, eo, none⟩ (hplW.later hB) hn⟩)
    have HW1 := Lib.hid hW1
    have HZ1 := Lib.hid hz1
    have H1 := Lib.hid h1
    have HF1 := Lib.hid (show Fw (fun k => k = cb) w W1 from Fw.of_below hB1)
    have HM1 := Lib.hid (hM.later hB1)
    have HSz := Lib.hid (And.intro (lt_blk hW.wk) (And.intro (lt_blk hW.cb_map.choose_spec.choose_spec) (lt_blk hW.prg.cs)))
    have HK1 := Lib.hid k1
    have HNo := Lib.hid hn
    have HKL := Lib.hid hkL
    have HPl := Lib.hid (And.intro hpl hplW)
    have HCB := Lib.hid hcb
    have HE0 := Lib.hid (And.intro (he.leq (zc_le w0)) (And.intro hi hb))
    have HBs := Lib.hid (fun (W : World) (hB : Below W1.heap.size W1 W) => basisOf_any x s i fn e deep pb eb eo N W (h1.later hB).prg (Nat.le_trans h1.lts.2.2.1 hB.size) hi hchk (Ex.At.later (hB.mono h1.lts.2.2.1) (Nat.le_refl N) e eb eo hb heW) hb hsz)
    obtain ⟨lr, hlr⟩ : ∃ lr, lr = e.lev x fn T := ⟨_, rfl⟩
    rw [← hlr]
    have HLV := Lib.hid (show lr = (e.bas x fn).lev T from hlr)
    clear hlr
    have HWT := Lib.hid (show (e.bas x fn).wt ≤ 4000000 from by
      have := e.wit_wt x fn bas0
      unfold Ex.bas
      simp only [show bas0.wt = 0 from rfl] at this
      omega)
    clear hW1 k1 hB1 hz1 h1 hE hpl heW hk hkL hplW hW hchk he hM hcb hnd hb hsz hn hf
    go_enter Tryz.func109, Tryz.ntmps109
    go_upto_region 2 with fail
    rw [HW1.out]
    clear HW1
    refine wp_region_held_drew (S := fun W => W.cell? ⟨wb, 2, none⟩ = some (.map (some cb)) ∧ W.cell? ⟨w.heap.size, 0, none⟩ = some (.int .i64 (i : Int)) ∧ W.cell? ⟨w.heap.size, 1, none⟩ = some (.pointer (some ⟨eb, eo, none⟩)) ∧ (Instr.lookup 78 (.map (some cb)) (.agg #[.int .i64 (i : Int), .pointer (some ⟨eb, eo, none⟩)]) true).run Tryz.prog W = .ok (.tuple #[.agg #[.slice none 0 0, .slice none 0 0, .bool false, .bool false], .bool false]) W) (by kernel_rfl) ?_ (fun hHeld => ?_)
    · exact HL2.out _ (Below.refl _ _).drew
    refine tq 0 ?_
    refine tq 1 ?_
    refine tq 2 ?_
    refine tq 3 ?_
    refine tq 4 ?_
    refine tq 5 ?_
    refine tq 6 ?_
    refine tq 7 ?_
    refine tq 8 ?_
    refine wpAnyH_ready (rs := [9]) (by kernel_rfl) (by simp) ?_
    refine rdy rfl (fun K hK => ?_) AllReadyH.nil
    go_simp
    refine hK.out _ _ ?_ (fun hHeldN => ?_)
    · exact HL2.out _ ((Below.refl _ _).drew.alloc (Nat.le_refl _) _)
    clear hK K hHeld
    have hHeld := hHeldN
    clear hHeldN
    try simp only [Act.put, List.setIfInBounds_toArray, List.set_cons_zero, List.set_cons_succ]
    refine wpAnyH_ready (rs := [10]) (by kernel_rfl) (by simp) ?_
    refine rdy rfl (fun K hK => ?_) AllReadyH.nil
    go_simp
    have HB2 := Lib.hid (show Below W1.heap.size W1 (W1.alloc (.cells #[.slice none 0 0, .slice none 0 0, .bool false, .bool false] 93)).drew from ((Below.refl _ _).alloc (Nat.le_refl _) _).drew)
    have HK2 := Lib.hid (show (W1.alloc (.cells #[.slice none 0 0, .slice none 0 0, .bool false, .bool false] 93)).drew.heap[W1.heap.size]? = some (.cells #[.slice none 0 0, .slice none 0 0, .bool false, .bool false] 93 (0, 0)) from by have h0 := heap_alloc_new W1 (.cells #[.slice none 0 0, .slice none 0 0, .bool false, .bool false] 93); exact h0)
    generalize (W1.alloc (.cells #[.slice none 0 0, .slice none 0 0, .bool false, .bool false] 93)).drew = W2 at HB2 HK2 ⊢
    refine hK.out _ _ ?_ (fun hHeldN => ?_)
    · exact HL2.out _ HB2.out
    clear hK K hHeld
    have hHeld := hHeldN
    clear hHeldN
    try simp only [Act.put, List.setIfInBounds_toArray, List.set_cons_zero, List.set_cons_succ]
    refine tq 11 ?_
    refine wpAnyH_done (by kernel_rfl) ?_ _
    clear hHeld
    have c0 := cell_blk (H1.out.later HB2.out).wk (j := 0) rfl
    go_wp2_with fail
    refine (HBs.out W2 HB2.out).mono ?_
    rintro z w3 ⟨p, c, q, d, rfl, hr1, hr2, hB3⟩
    have HB3 := Lib.hid (HB2.out.trans (hB3.mono HB2.out.size))
    have kt := (hB3.block _ (lt_blk HK2.out)).trans HK2.out
    have HKT := Lib.hid kt
    obtain ⟨B, hBB⟩ : ∃ B, B = e.bas x fn := ⟨_, rfl⟩
    rw [← hBB] at hr1 hr2 ⊢
    have HBB := Lib.hid hBB
    have HR3 := Lib.hid (And.intro hr1 hr2)
    have z0 := cell_blk kt (j := 0) rfl
    have z1 := cell_blk kt (j := 1) rfl
    have z2 := cell_blk kt (j := 2) rfl
    have z3 := cell_blk kt (j := 3) rfl
    have fz : ∀ j, w3.frozen? ⟨W1.heap.size, j, none⟩ = false := fun j => by simp [World.frozen?, kt]
    have f0 := fz 0
    have f1 := fz 1
    have f2 := fz 2
    have f3 := fz 3
    clear hr1 hr2 hB3 kt hBB fz c0
    go_upto_region 5 with fail
    have hF4 := Fw.of_but (((((But.refl W1.heap.size w3).set 0 (.slice p B.words.length c)).set 1 (.slice q B.places.length d)).set 2 (.bool B.secret)).set 3 (.bool B.refused))
    have hk4 := set4 HKT.out (.slice p B.words.length c) (.slice q B.places.length d) (.bool B.secret) (.bool B.refused)
    generalize ((((w3.setCell ⟨W1.heap.size, 0, none⟩ (.slice p B.words.length c)).setCell ⟨W1.heap.size, 1, none⟩ (.slice q B.places.length d)).setCell ⟨W1.heap.size, 2, none⟩ (.bool B.secret)).setCell ⟨W1.heap.size, 3, none⟩ (.bool B.refused)) = W4 at hF4 hk4 ⊢
    have hst : ∀ k, k = W1.heap.size → ∀ c, w3.heap[k]? ≠ some (.cells c 9 (0, 0)) := fun k e c h => by rw [e, HKT.out] at h; injection h with h; exact bas_str _ _ _ h
    have hsz := HSz.out
    have hz1 := HZ1.out
    have hl1 := H1.out.lts
    have ws4 : Ws W4 N wb cb pb x s w0 n := (H1.out.later HB3.out).fw hF4 (fun k e => by omega) (fun k e => ⟨by omega, by omega, by omega, hst k e⟩)
    have hcb4 := (hF4.block cb (lt_blk ((HB3.out.block _ (lt_blk HCB.out)).trans HCB.out)) (by omega)).trans ((HB3.out.block _ (lt_blk HCB.out)).trans HCB.out)
    have r1 := HR3.out.1.fw hF4 hst
    have r2 := HR3.out.2.fw hF4 hst
    have hk1 := (hF4.block _ (lt_blk ((HB3.out.block _ (lt_blk HK1.out)).trans HK1.out)) (by omega)).trans ((HB3.out.block _ (lt_blk HK1.out)).trans HK1.out)
    have hB4 : Below W1.heap.size W1 W4 := HB3.out.trans (hF4.below HB3.out.size (fun k e => by omega))
    have HL5 := Lib.hid (show W4.drew.cell? ⟨wb, 2, none⟩ = some (.map (some cb)) ∧ W4.drew.cell? ⟨w.heap.size, 0, none⟩ = some (.int .i64 (i : Int)) ∧ W4.drew.cell? ⟨w.heap.size, 1, none⟩ = some (.pointer (some ⟨eb, eo, none⟩)) ∧ W4.drew.cell? ⟨W1.heap.size, 0, none⟩ = some (.slice p B.words.length c) ∧ W4.drew.cell? ⟨W1.heap.size, 1, none⟩ = some (.slice q B.places.length d) ∧ W4.drew.cell? ⟨W1.heap.size, 2, none⟩ = some (.bool B.secret) ∧ W4.drew.cell? ⟨W1.heap.size, 3, none⟩ = some (.bool B.refused) from
      ⟨cell_blk ws4.wk rfl, cell_blk hk1 rfl, cell_blk hk1 rfl, cell_blk hk4 rfl, cell_blk hk4 rfl, cell_blk hk4 rfl, cell_blk hk4 rfl⟩)
    have HPut := Lib.hid (show (Instr.mapUpdate 78 (.map (some cb)) (.agg #[.int .i64 (i : Int), .pointer (some ⟨eb, eo, none⟩)]) (.agg #[.slice p B.words.length c, .slice q B.places.length d, .bool B.secret, .bool B.refused])).run Tryz.prog W4.drew = .ok () (putH W4.drew cb (.map (es.push { key := keyV (i : Int) ⟨eb, eo, none⟩, val := .agg #[.slice p B.words.length c, .slice q B.places.length d, .bool B.secret, .bool B.refused], born := clock }) (clock + 1))) from
      put_part (w := W4.drew) hcb4 (HKL.out W4.drew hB4.drew) (i : Int) ⟨eb, eo, none⟩ (HPl.out.2.later hB4.drew) HNo.out _)
    have HWs := Lib.hid (show Ws (putH W4.drew cb (.map (es.push { key := keyV (i : Int) ⟨eb, eo, none⟩, val := .agg #[.slice p B.words.length c, .slice q B.places.length d, .bool B.secret, .bool B.refused], born := clock }) (clock + 1))) N wb cb pb x s w0 n from by
      have hBB := HBB.out
      subst hBB
      exact (ws4.later (Below.refl _ _).drew).putC hcb4 HNo.out HE0.out.2.1 HE0.out.1 HE0.out.2.2 HPl.out.1 r1 r2)
    have hFp := putH_fw W4.drew cb (.map (es.push { key := keyV (i : Int) ⟨eb, eo, none⟩, val := .agg #[.slice p B.words.length c, .slice q B.places.length d, .bool B.secret, .bool B.refused], born := clock }) (clock + 1))
    have HFw := Lib.hid (show Fw (fun k => k = cb) w (putH W4.drew cb (.map (es.push { key := keyV (i : Int) ⟨eb, eo, none⟩, val := .agg #[.slice p B.words.length c, .slice q B.places.length d, .bool B.secret, .bool B.refused], born := clock }) (clock + 1))) from
      (HF1.out.new (Fw.of_below (S := fun _ => False) (hB4.drew)) (fun _ e => e.elim)).trans hFp)
    have hcn : mb ≠ cb := hmc
    have HMp := Lib.hid (show Mp (putH W4.drew cb (.map (es.push { key := keyV (i : Int) ⟨eb, eo, none⟩, val := .agg #[.slice p B.words.length c, .slice q B.places.length d, .bool B.secret, .bool B.refused], born := clock }) (clock + 1))) mb (mem T) from
      (HM1.out.later (hB4.drew)).of_block (hFp.block mb ((HM1.out.later (hB4.drew)).lt) hcn))
    have kcb : ∀ k, k = cb → ∀ c, W4.drew.heap[k]? ≠ some (.cells c 9 (0, 0)) := fun k e c h => by rw [e] at h; have := hcb4.symm.trans h; cases this
    have q1 := (show SRow W4.drew 0 _ _ from r1).fw hFp kcb
    have q2 := (show SRow W4.drew 0 _ _ from r2).fw hFp kcb
    have k9 := (hFp.block _ (lt_blk hk4) (show W1.heap.size ≠ cb by omega)).trans hk4
    generalize putH W4.drew cb _ = W5 at HPut HWs HFw HMp q1 q2 k9
    have HLv := Lib.hid (show Calls Tryz.prog 41 #[.pointer (some ⟨W1.heap.size, 0, none⟩), .map (some mb)] W5 (LvEnd lr W5) from by
      have hwt := HWT.out
      rw [← HBB.out] at hwt
      unfold Bas.wt at hwt
      obtain ⟨_, _, e1, s1⟩ := ownStrs q1 (by omega)
      obtain ⟨_, _, e2, s2⟩ := ownStrs q2 (by omega)
      cases e1
      cases e2
      rw [HLV.out, ← HBB.out]
      exact level_any B T W1.heap.size mb W5.heap.size _ W5 ⟨_, _, _, _, rfl, s1, s2⟩ ⟨_, _, _, _, rfl, k9⟩ (Nat.le_refl _) HMp.out)
    clear hF4 hk4 hst hsz hz1 hl1 ws4 hcb4 r1 r2 hk1 hB4 hFp hcn kcb q1 q2 k9 z0 z1 z2 z3 f0 f1 f2 f3
    refine bgk 6 (fun W => W.cell? ⟨wb, 2, none⟩ = some (.map (some cb)) ∧ W.cell? ⟨w.heap.size, 0, none⟩ = some (.int .i64 (i : Int)) ∧ W.cell? ⟨w.heap.size, 1, none⟩ = some (.pointer (some ⟨eb, eo, none⟩)) ∧ W.cell? ⟨W1.heap.size, 0, none⟩ = some (.slice p B.words.length c) ∧ W.cell? ⟨W1.heap.size, 1, none⟩ = some (.slice q B.places.length d) ∧ W.cell? ⟨W1.heap.size, 2, none⟩ = some (.bool B.secret) ∧ W.cell? ⟨W1.heap.size, 3, none⟩ = some (.bool B.refused)) (HL5.out) (fun hHeld => ?_)
    refine tk0 0 ?_ rfl (.inl ⟨by rfl, ?_⟩) ?_
    rotate_left
    · (intro w hSw; (try dsimp only at hSw); go_simp; try with_reducible rfl)
    try simp only [Act.put, List.setIfInBounds_toArray, List.set_cons_zero, List.set_cons_succ]
    refine tk0 1 ?_ rfl (.inl ⟨by rfl, ?_⟩) ?_
    rotate_left
    · (intro w hSw; (try dsimp only at hSw); go_simp; try with_reducible rfl)
    try simp only [Act.put, List.setIfInBounds_toArray, List.set_cons_zero, List.set_cons_succ]
    refine tk0 2 ?_ rfl (.inl ⟨by rfl, ?_⟩) ?_
    rotate_left
    · (intro w hSw; (try dsimp only at hSw); go_simp; try with_reducible rfl)
    try simp only [Act.put, List.setIfInBounds_toArray, List.set_cons_zero, List.set_cons_succ]
    refine tkl 3 ?_ rfl (.inl ⟨by rfl, ?_⟩) ?_
    rotate_left
    · (intro w hSw; (try dsimp only at hSw); go_simp; try with_reducible rfl)
    try simp only [Act.put, List.setIfInBounds_toArray, List.set_cons_zero, List.set_cons_succ]
    refine tkl 4 ?_ rfl (.inl ⟨by rfl, ?_⟩) ?_
    rotate_left
    · (intro w hSw; (try dsimp only at hSw); go_simp; try with_reducible rfl)
    try simp only [Act.put, List.setIfInBounds_toArray, List.set_cons_zero, List.set_cons_succ]
    refine tkl 5 ?_ rfl (.inl ⟨by rfl, ?_⟩) ?_
    rotate_left
    · (intro w hSw; (try dsimp only at hSw); go_simp; try with_reducible rfl)
    try simp only [Act.put, List.setIfInBounds_toArray, List.set_cons_zero, List.set_cons_succ]
    refine rdb 6 rfl (fun K hK => ?_)
    have hput := HPut.out
    go_simp
    refine hK.out _ _ ?_
    clear hK K
    try simp only [Act.put, List.setIfInBounds_toArray, List.set_cons_zero, List.set_cons_succ]
    refine dnk ?_ (by kernel_rfl) _
    clear hHeld
    go_wp2_with fail
    refine HLv.out.mono ?_
    intro z w9 h9
    have H9 := Lib.hid (h9.walk HWs.out HFw.out)
    rcases h9 with ⟨hr, hB9⟩ | ⟨hr, hB9⟩
    · clear hr hB9
      go_wp2_with fail
      go_ret
      exact H9.out
    · clear hr hB9
      unfold Pn at H9 ⊢
      go_wp2_with fail
      exact ⟨rfl, H9.out⟩
/- The walker: what must be public; how its calls end. -/
open Go.RowKit

inductive PubEnd (r : Bool) (N wb cb pb : Nat) (x : Prg) (s : PrgP) (w0 : World) (n : Nat) (w : World) : Ending → World → Prop where
  | ok {w' : World} (h : r = true) (hW : Ws w' N wb cb pb x s w0 n) (hF : Fw (fun k => k = cb) w w') : PubEnd r N wb cb pb x s w0 n w (.returned (.tuple #[])) w'
  | no {w' : World} (h : r = false) (hF : Fw (fun k => k = cb) w w') : PubEnd r N wb cb pb x s w0 n w (Pn 10) w'
set_option maxHeartbeats 1600000 in
theorem mustPub_walk (x : Prg) (s : PrgP) (i : Nat) (fn : Fnc) (e : Ex) (deep wb cb pb mb eb eo N n : Nat) (T : List (List UInt8)) (w0 w : World) (hW : Ws w N wb cb pb x s w0 n) (hi : x.fns[i]? = some fn) (hchk : e.chk x fn deep = 0) (he : e.At (zc w0) N eb eo) (hb : eb < N) (hsz : e.size ≤ 3000000) (hM : Mp w mb (mem T)) (hmc : mb ≠ cb) :
    Calls Tryz.prog 110 #[.pointer (some ⟨wb, 0, none⟩), .int .i64 (i : Int), .pointer (some ⟨eb, eo, none⟩), .map (some mb)] w (PubEnd (pub x fn e T) N wb cb pb x s w0 n w) := by
  have HL := Lib.hid (level_walk x s i fn e deep wb cb pb mb eb eo N n T w0 w hW hi hchk he hb hsz hM hmc)
  have HP := Lib.hid (show pub x fn e T = (match e.lev x fn T with | some b => !b | none => false) from rfl)
  generalize pub x fn e T = r at HP ⊢
  generalize e.lev x fn T = l at HL HP
  clear hW hi hchk he hb hsz hM hmc
  go_enter Tryz.func110, Tryz.ntmps110
  go_wp2_with fail
  refine HL.out.mono ?_
  intro z w2 h2
  rcases h2 with ⟨hr, hW2, hF2⟩ | ⟨hr, hF2⟩
  · rename_i t
    subst hr
    have HF := Lib.hid hF2
    have HW2 := Lib.hid hW2
    clear hF2 hW2
    cases t with
    | true =>
      have HR := Lib.hid (show r = false from HP.out)
      go_wp2_with fail
      refine (smust_no 10 _).mono ?_
      rintro z w3 ⟨rfl, rfl⟩
      unfold Pn
      go_wp2_with fail
      exact ⟨rfl, .no HR.out HF.out⟩
    | false =>
      have HR := Lib.hid (show r = true from HP.out)
      go_wp2_with fail
      refine (smust_yes 10 _).mono ?_
      rintro z w3 ⟨rfl, rfl⟩
      go_wp2_with fail
      go_end0
      exact .ok HR.out HW2.out HF.out
  · subst hr
    have HR := Lib.hid (show r = false from HP.out)
    have HF := Lib.hid hF2
    clear hF2
    unfold Pn
    go_wp2_with fail
    exact ⟨rfl, .no HR.out HF.out⟩
inductive GoEnd (r : Re) (N wb cb mb pb : Nat) (x : Prg) (s : PrgP) (w0 : World) (w : World) : Ending → World → Prop where
  | ok {T : List (List UInt8)} {n : Nat} {w' : World} (h : r = .ok T n) (hW : Ws w' N wb cb pb x s w0 n) (hM : Mp w' mb (mem T)) (hF : Fw (fun k => k = wb ∨ k = cb ∨ k = mb) w w') : GoEnd r N wb cb mb pb x s w0 w (.returned (.tuple #[])) w'
  | no {e : Nat} {w' : World} (h : r = .no e) (hF : Fw (fun k => k = wb ∨ k = cb ∨ k = mb) w w') : GoEnd r N wb cb mb pb x s w0 w (Pn (e : Int)) w'
def boolCells (l : List Bool) : List Value := l.map .bool
inductive FnEnd (r : Rc) (N wb cb pb : Nat) (x : Prg) (s : PrgP) (w0 : World) (w : World) : Ending → World → Prop where
  | ok {l : List Bool} {n : Nat} {v : Value} {w' : World} (h : r = .ok l n) (hv : w'.ownsRow w.heap.size 4 1 v l.length (boolCells l)) (hW : Ws w' N wb cb pb x s w0 n) (hF : Fw (fun k => k = wb ∨ k = cb) w w') : FnEnd r N wb cb pb x s w0 w (.returned v) w'
  | no {e : Nat} {w' : World} (h : r = .no e) (hF : Fw (fun k => k = wb ∨ k = cb) w w') : FnEnd r N wb cb pb x s w0 w (Pn (e : Int)) w'
theorem mem_set (T : List (List UInt8)) (s : List UInt8) (t : Bool) : mem (setT T s t) = withT (mem T) s t := by
  funext z
  unfold mem setT withT
  cases t with
  | true =>
    simp only [if_true, List.any_cons]
    by_cases h : z = s
    · subst h; simp
    · rw [if_neg h]; have : (s == z) = false := by simpa using fun e => h e.symm
      rw [this]; rfl
  | false =>
    simp only [Bool.false_eq_true, if_false, List.any_filter]
    by_cases h : z = s
    · subst h
      rw [if_pos rfl, List.any_eq_false]
      intro y _; simp
    · rw [if_neg h]
      congr 1
      funext y
      by_cases hy : y = z
      · subst hy; simp [h]
      · have : (y == z) = false := by simpa using hy
        rw [this, Bool.and_false]
theorem mem_app (T U : List (List UInt8)) : mem (T ++ U) = fun z => mem T z || mem U z := by
  funext z
  simp [mem, List.any_append]
theorem Mp.fw {S : Nat → Prop} {w w' : World} {b : Nat} {f : List UInt8 → Bool} (h : Mp w b f) (hF : Fw S w w') (hb : ¬ S b) : Mp w' b f := h.of_block (hF.block b h.lt hb)
theorem Mp.no_str {w : World} {b : Nat} {f : List UInt8 → Bool} (h : Mp w b f) : ∀ k, k = b → ∀ c, w.heap[k]? ≠ some (.cells c 9 (0, 0)) := fun k e c h' => by
  obtain ⟨es, clock, hb, _⟩ := h
  rw [e, hb] at h'
  cases h'
theorem Ws.ne_map {w : World} {N wb cb pb n : Nat} {x : Prg} {s : PrgP} {w0 : World} (h : Ws w N wb cb pb x s w0 n) {b : Nat} {f : List UInt8 → Bool} (hM : Mp w b f) : b ≠ wb ∧ b ≠ pb := by
  obtain ⟨es, clock, hb, _⟩ := hM
  exact ⟨fun e => (by have := h.wk; rw [← e, hb] at this; cases this), fun e => (by have := h.prg.cs; rw [← e, hb] at this; cases this)⟩
theorem Ws.set {w w' : World} {N wb cb pb n mb : Nat} {x : Prg} {s : PrgP} {w0 : World} (h : Ws w N wb cb pb x s w0 n) {f : List UInt8 → Bool} (hM : Mp w mb f) (hmc : mb ≠ cb) (hmN : N ≤ mb) (hF : Fw (fun k => k = mb) w w') : Ws w' N wb cb pb x s w0 n :=
  h.fw hF (fun k e => by omega) (fun k e => ⟨by rw [e]; exact (h.ne_map hM).1, by omega, by rw [e]; exact (h.ne_map hM).2, hM.no_str k e⟩)
end Go.Proofs.YtihmibggonffdaaGreat
