/- TSB, TS3, TS4, TS5 as one. -/
import Derived.Test.YtihmibggonffdaaGreatTJ0
import Derived.Test.YtihmibggonffdaaGreatF1
/- The bodies of the fixpoint loops, as the walker gives them. -/
namespace Go.Proofs.YtihmibggonffdaaGreat
open Go.RowKit Go.ChangeMaps

set_option maxRecDepth 100000 in
set_option maxHeartbeats 12800000 in
theorem wbody1 (x : Prg) (s : PrgP) (i : Nat) (fn : Fnc) (f : List UInt8 → Nat) (cf : Nat → Nat → Rc) (wb cb pb N : Nat) (w0 : World) (hi : x.fns[i]? = some fn) (y : St) (st : StP) (b4 b5 b6 deep dp : Nat) (ar : List (List UInt8)) (b o mb n q : Nat) (T : List (List UInt8)) (W1 : World) (ih : StsTo x s i fn f cf wb cb pb N w0 q) (hq : y.body.size < q) (hS : ∀ W, Fw (fun k => k = wb ∨ k = cb ∨ k = mb) W1 W → W.cell? ⟨b4, 0, none⟩ = some (.pointer (some ⟨wb, 0, none⟩)) ∧ W.cell? ⟨b5, 0, none⟩ = some (.int .i64 (i : Int)) ∧ W.cell? ⟨b6, 0, none⟩ = some (.pointer (some ⟨b, o, none⟩)) ∧ W.cell? ⟨b, o, none⟩ = some (.int .i64 y.kind) ∧ W.cell? ⟨b, o + 1, none⟩ = some (.string (str y.name)) ∧ W.cell? ⟨b, o + 14, none⟩ = some (.slice st.pb y.body.len st.cb) ∧ W.cell? ⟨b, o + 15, none⟩ = some (.slice st.pl y.els.len st.cl)) (hcke : y.e.chk x fn deep = 0) (hea : y.e.At (zc w0) N b (o + 3)) (hz : y.e.size ≤ 3000000) (hckb : y.body.chk x fn f i dp ar = 0) (hin : y.body.In (zc w0) N st.pb) (hb : b < N) (hbig : y.body.big ≤ 1048576) (hW : Ws W1 N wb cb pb x s w0 n) (hM : Mp W1 mb (mem T)) (hmN : N ≤ mb) (hmc : mb ≠ cb) (hn : n ≤ 65536) :
   Calls Tryz.prog 114 #[.map (some mb), .pointer (some ⟨b4, 0, none⟩), .pointer (some ⟨b5, 0, none⟩), .pointer (some ⟨b6, 0, none⟩)] W1 (GoEnd (if pub x fn y.e T then y.body.go x fn cf T n else .no 10) N wb cb mb pb x s w0 W1) := by

 have HS := Lib.hid hS
 have IH := Lib.hid ih
 have HCB := Lib.hid hckb
 have HIN := Lib.hid hin
 have HBG := Lib.hid (And.intro hbig hq)
 have HCK := Lib.hid hcke
 have HEA := Lib.hid (And.intro hea hz)
 have HN := Lib.hid (And.intro hmN (And.intro hmc (And.intro hb hn)))
 have HW_1 := Lib.hid hW
 have HM_1 := Lib.hid hM
 have HF0 := Lib.hid (Fw.refl (fun k => k = wb ∨ k = cb ∨ k = mb) W1)
 have HF1 := Lib.hid (Fw.refl (fun k => k = wb ∨ k = cb ∨ k = mb) W1)
 obtain ⟨R, hR⟩ : ∃ R, R = (if pub x fn y.e T then y.body.go x fn cf T n else .no 10) := ⟨_, rfl⟩
 rw [← hR]
 clear hS ih hckb hin hbig hq hcke hea hz hmN hmc hb hn hW hM

 cases hp : pub x fn y.e T with
 | false =>
   rw [hp, if_neg (by decide)] at hR
   have HR := Lib.hid hR
   clear hR
   obtain ⟨c4, c5, c6, c0, c1, c14, c15⟩ := HS.out W1 (Fw.refl _ _)
   go_enter Tryz.func114, Tryz.ntmps114
   go_upto_region 0 with fail
   refine wp_region_held_drew (S := fun W => W.cell? ⟨b4, 0, none⟩ = some (.pointer (some ⟨wb, 0, none⟩)) ∧ W.cell? ⟨b5, 0, none⟩ = some (.int .i64 (i : Int)) ∧ W.cell? ⟨b6, 0, none⟩ = some (.pointer (some ⟨b, o, none⟩)) ∧ W.cell? ⟨b, o, none⟩ = some (.int .i64 y.kind) ∧ W.cell? ⟨b, o + 1, none⟩ = some (.string (str y.name)) ∧ W.cell? ⟨b, o + 14, none⟩ = some (.slice st.pb y.body.len st.cb) ∧ W.cell? ⟨b, o + 15, none⟩ = some (.slice st.pl y.els.len st.cl)) (by kernel_rfl) ?_ (fun hHeld => ?_)
   · exact HS.out _ HF1.out.drew
   refine tq 0 ?_
   refine tq 1 ?_
   refine tq 2 ?_
   refine tq 3 ?_
   refine tq 4 ?_
   refine tq 5 ?_
   refine wpAnyH_ready (rs := [6]) (by kernel_rfl) (by simp) ?_
   refine rdy rfl (fun K hK => ?_) AllReadyH.nil
   go_simp
   refine (mustPub_walk x s i fn y.e deep wb cb pb mb b (o + 3) N n T w0 _ (HW_1.out.later (Below.refl _ _).drew) hi HCK.out HEA.out.1 HN.out.2.2.1 HEA.out.2 (HM_1.out.later (Below.refl _ _).drew) HN.out.2.1).mono ?_
   intro z w2 h2
   rw [hp] at h2
   rcases h2 with ⟨hr, _, _⟩ | ⟨hr, hFx⟩
   · cases hr
   have HEnd := Lib.hid (show GoEnd R N wb cb mb pb x s w0 W1 (Pn 10) w2 from .no (e := 10) HR.out (HF0.out.trans (HF1.out.drew.new hFx (fun j e => .inl (.inr (.inl e))))))
   unfold Pn at HEnd ⊢
   exact ⟨rfl, HEnd.out⟩

 | true =>
   rw [hp, if_pos rfl] at hR
   have HR := Lib.hid hR
   clear hR
   obtain ⟨c4, c5, c6, c0, c1, c14, c15⟩ := HS.out W1 (Fw.refl _ _)
   go_enter Tryz.func114, Tryz.ntmps114
   go_upto_region 0 with fail
   refine wp_region_held_drew (S := fun W => W.cell? ⟨b4, 0, none⟩ = some (.pointer (some ⟨wb, 0, none⟩)) ∧ W.cell? ⟨b5, 0, none⟩ = some (.int .i64 (i : Int)) ∧ W.cell? ⟨b6, 0, none⟩ = some (.pointer (some ⟨b, o, none⟩)) ∧ W.cell? ⟨b, o, none⟩ = some (.int .i64 y.kind) ∧ W.cell? ⟨b, o + 1, none⟩ = some (.string (str y.name)) ∧ W.cell? ⟨b, o + 14, none⟩ = some (.slice st.pb y.body.len st.cb) ∧ W.cell? ⟨b, o + 15, none⟩ = some (.slice st.pl y.els.len st.cl)) (by kernel_rfl) ?_ (fun hHeld => ?_)
   · exact HS.out _ HF1.out.drew
   refine tq 0 ?_
   refine tq 1 ?_
   refine tq 2 ?_
   refine tq 3 ?_
   refine tq 4 ?_
   refine tq 5 ?_
   refine wpAnyH_ready (rs := [6]) (by kernel_rfl) (by simp) ?_
   refine rdy rfl (fun K hK => ?_) AllReadyH.nil
   go_simp
   refine (mustPub_walk x s i fn y.e deep wb cb pb mb b (o + 3) N n T w0 _ (HW_1.out.later (Below.refl _ _).drew) hi HCK.out HEA.out.1 HN.out.2.2.1 HEA.out.2 (HM_1.out.later (Below.refl _ _).drew) HN.out.2.1).mono ?_
   intro z w2 h2
   rw [hp] at h2
   rcases h2 with ⟨hr, hWx, hFx⟩ | ⟨hr, _⟩
   rotate_left
   · cases hr
   cases hr
   have HW_2 := Lib.hid hWx
   have HM_2 := Lib.hid ((HM_1.out.later (Below.refl _ _).drew).fw hFx HN.out.2.1)
   have HF2 := Lib.hid (show Fw (fun k => k = wb ∨ k = cb ∨ k = mb) W1 w2 from HF1.out.drew.new hFx (fun j e => .inl (.inr (.inl e))))
   clear hWx hFx
   refine hK.out _ _ ?_ (fun hHeldN => ?_)
   · exact HS.out _ HF2.out
   clear hK K hHeld
   have hHeld := hHeldN
   clear hHeldN
   try simp only [Act.put, List.setIfInBounds_toArray, List.set_cons_zero, List.set_cons_succ]
   refine wpAnyH_done (by kernel_rfl) ?_ _
   clear hHeld
   go_upto_region 1 with fail

   refine wp_region_held_drew (S := fun W => W.cell? ⟨b4, 0, none⟩ = some (.pointer (some ⟨wb, 0, none⟩)) ∧ W.cell? ⟨b5, 0, none⟩ = some (.int .i64 (i : Int)) ∧ W.cell? ⟨b6, 0, none⟩ = some (.pointer (some ⟨b, o, none⟩)) ∧ W.cell? ⟨b, o, none⟩ = some (.int .i64 y.kind) ∧ W.cell? ⟨b, o + 1, none⟩ = some (.string (str y.name)) ∧ W.cell? ⟨b, o + 14, none⟩ = some (.slice st.pb y.body.len st.cb) ∧ W.cell? ⟨b, o + 15, none⟩ = some (.slice st.pl y.els.len st.cl)) (by kernel_rfl) ?_ (fun hHeld => ?_)
   · exact HS.out _ HF2.out.drew
   refine tq 0 ?_
   refine tq 1 ?_
   refine tq 2 ?_
   refine tq 3 ?_
   refine tq 4 ?_
   refine tq 5 ?_
   refine tq 6 ?_
   refine wpAnyH_ready (rs := [7]) (by kernel_rfl) (by simp) ?_
   refine rdy rfl (fun K hK => ?_) AllReadyH.nil
   go_simp
   refine (IH.out y.body HBG.out.2 dp ar st.pb st.cb mb n T _ HCB.out HIN.out HBG.out.1 (HW_2.out.later (Below.refl _ _).drew) (HM_2.out.later (Below.refl _ _).drew) HN.out.1 HN.out.2.1 HN.out.2.2.2).mono ?_
   intro z w3 h3
   rcases h3 with ⟨hr, hWx, hMx, hFx⟩ | ⟨hr, hFx⟩
   rotate_left
   · have HEnd := Lib.hid (show GoEnd R N wb cb mb pb x s w0 W1 (Pn _) w3 from .no (HR.out.trans hr) (HF2.out.drew.trans hFx))
     unfold Pn at HEnd ⊢
     exact ⟨rfl, HEnd.out⟩
   have HR2 := Lib.hid (HR.out.trans hr)
   have HW_3 := Lib.hid hWx
   have HM_3 := Lib.hid hMx
   have HF3 := Lib.hid (HF2.out.drew.trans hFx)
   clear hWx hMx hFx hr
   refine hK.out _ _ ?_ (fun hHeldN => ?_)
   · exact HS.out _ HF3.out
   clear hK K hHeld
   have hHeld := hHeldN
   clear hHeldN
   try simp only [Act.put, List.setIfInBounds_toArray, List.set_cons_zero, List.set_cons_succ]
   refine wpAnyH_done (by kernel_rfl) ?_ _
   clear hHeld
   go_wp2_with fail
   go_end0
   exact .ok HR2.out HW_3.out HM_3.out HF3.out

set_option maxRecDepth 100000 in
set_option maxHeartbeats 12800000 in
theorem wbody2 (x : Prg) (s : PrgP) (i : Nat) (fn : Fnc) (f : List UInt8 → Nat) (cf : Nat → Nat → Rc) (wb cb pb N : Nat) (w0 : World) (_hi : x.fns[i]? = some fn) (y : St) (st : StP) (b4 b5 b6 dp : Nat) (ar : List (List UInt8)) (b o mb n q : Nat) (T : List (List UInt8)) (W1 : World) (ih : StsTo x s i fn f cf wb cb pb N w0 q) (hq : y.body.size < q) (hS : ∀ W, Fw (fun k => k = wb ∨ k = cb ∨ k = mb) W1 W → W.cell? ⟨b4, 0, none⟩ = some (.pointer (some ⟨wb, 0, none⟩)) ∧ W.cell? ⟨b5, 0, none⟩ = some (.int .i64 (i : Int)) ∧ W.cell? ⟨b6, 0, none⟩ = some (.pointer (some ⟨b, o, none⟩)) ∧ W.cell? ⟨b, o, none⟩ = some (.int .i64 y.kind) ∧ W.cell? ⟨b, o + 1, none⟩ = some (.string (str y.name)) ∧ W.cell? ⟨b, o + 14, none⟩ = some (.slice st.pb y.body.len st.cb) ∧ W.cell? ⟨b, o + 15, none⟩ = some (.slice st.pl y.els.len st.cl)) (hckb : y.body.chk x fn f i dp ar = 0) (hin : y.body.In (zc w0) N st.pb) (hb : b < N) (hbig : y.body.big ≤ 1048576) (hW : Ws W1 N wb cb pb x s w0 n) (hM : Mp W1 mb (mem T)) (hmN : N ≤ mb) (hmc : mb ≠ cb) (hn : n ≤ 65536) :
   Calls Tryz.prog 115 #[.map (some mb), .pointer (some ⟨b4, 0, none⟩), .pointer (some ⟨b5, 0, none⟩), .pointer (some ⟨b6, 0, none⟩)] W1 (GoEnd (y.body.go x fn cf T n) N wb cb mb pb x s w0 W1) := by

 have HS := Lib.hid hS
 have IH := Lib.hid ih
 have HCB := Lib.hid hckb
 have HIN := Lib.hid hin
 have HBG := Lib.hid (And.intro hbig hq)
 have HN := Lib.hid (And.intro hmN (And.intro hmc (And.intro hb hn)))
 have HW_1 := Lib.hid hW
 have HM_1 := Lib.hid hM
 have HF0 := Lib.hid (Fw.refl (fun k => k = wb ∨ k = cb ∨ k = mb) W1)
 have HF1 := Lib.hid (Fw.refl (fun k => k = wb ∨ k = cb ∨ k = mb) W1)
 obtain ⟨R, hR⟩ : ∃ R, R = (y.body.go x fn cf T n) := ⟨_, rfl⟩
 rw [← hR]
 clear hS ih hckb hin hbig hq hmN hmc hb hn hW hM

 have HR := Lib.hid hR
 clear hR
 obtain ⟨c4, c5, c6, c0, c1, c14, c15⟩ := HS.out W1 (Fw.refl _ _)
 go_enter Tryz.func115, Tryz.ntmps115
 go_upto_region 0 with fail

 refine wp_region_held_drew (S := fun W => W.cell? ⟨b4, 0, none⟩ = some (.pointer (some ⟨wb, 0, none⟩)) ∧ W.cell? ⟨b5, 0, none⟩ = some (.int .i64 (i : Int)) ∧ W.cell? ⟨b6, 0, none⟩ = some (.pointer (some ⟨b, o, none⟩)) ∧ W.cell? ⟨b, o, none⟩ = some (.int .i64 y.kind) ∧ W.cell? ⟨b, o + 1, none⟩ = some (.string (str y.name)) ∧ W.cell? ⟨b, o + 14, none⟩ = some (.slice st.pb y.body.len st.cb) ∧ W.cell? ⟨b, o + 15, none⟩ = some (.slice st.pl y.els.len st.cl)) (by kernel_rfl) ?_ (fun hHeld => ?_)
 · exact HS.out _ HF1.out.drew
 refine tq 0 ?_
 refine tq 1 ?_
 refine tq 2 ?_
 refine tq 3 ?_
 refine tq 4 ?_
 refine tq 5 ?_
 refine tq 6 ?_
 refine wpAnyH_ready (rs := [7]) (by kernel_rfl) (by simp) ?_
 refine rdy rfl (fun K hK => ?_) AllReadyH.nil
 go_simp
 refine (IH.out y.body HBG.out.2 dp ar st.pb st.cb mb n T _ HCB.out HIN.out HBG.out.1 (HW_1.out.later (Below.refl _ _).drew) (HM_1.out.later (Below.refl _ _).drew) HN.out.1 HN.out.2.1 HN.out.2.2.2).mono ?_
 intro z w2 h2
 rcases h2 with ⟨hr, hWx, hMx, hFx⟩ | ⟨hr, hFx⟩
 rotate_left
 · have HEnd := Lib.hid (show GoEnd R N wb cb mb pb x s w0 W1 (Pn _) w2 from .no (HR.out.trans hr) (HF1.out.drew.trans hFx))
   unfold Pn at HEnd ⊢
   exact ⟨rfl, HEnd.out⟩
 have HR2 := Lib.hid (HR.out.trans hr)
 have HW_2 := Lib.hid hWx
 have HM_2 := Lib.hid hMx
 have HF2 := Lib.hid (HF1.out.drew.trans hFx)
 clear hWx hMx hFx hr
 refine hK.out _ _ ?_ (fun hHeldN => ?_)
 · exact HS.out _ HF2.out
 clear hK K hHeld
 have hHeld := hHeldN
 clear hHeldN
 try simp only [Act.put, List.setIfInBounds_toArray, List.set_cons_zero, List.set_cons_succ]
 refine wpAnyH_done (by kernel_rfl) ?_ _
 clear hHeld
 go_wp2_with fail
 go_end0
 exact .ok HR2.out HW_2.out HM_2.out HF2.out

theorem go_stay (x : Prg) (fn : Fnc) (cf : Nat → Nat → Rc) (hcf : CfGe cf) (l : Sts) (T : List (List UInt8)) (n : Nat) (T' : List (List UInt8)) (h : l.go x fn cf T n = .ok T' n) : T' = T := by
 cases l with
 | nil => rw [Sts.go] at h; cases h; rfl
 | cons y r =>
   rw [Sts.go] at h
   by_cases hl : n < 65536
   · rw [if_pos hl] at h
     have g := (St.go_ge x fn cf hcf y T (n + 1) (by omega)).bind (k := r.go x fn cf) (fun T1 n1 h1 h2 => fun T2 n2 e => by
       have := Sts.go_ge x fn cf hcf r T1 n1 h2 T2 n2 e
       exact ⟨by omega, this.2⟩)
     have := (g T' n h).1
     omega
   · rw [if_neg hl] at h; cases h
theorem y_parts (y : St) : y.body.size < y.size ∧ y.els.size < y.size := by
 obtain ⟨kd, nm, ns, e, a, as', lo, hi, bd, el⟩ := y
 constructor <;> (show _ < St.size _; rw [St.size]; simp only [St.body, St.els]; omega)
/- The walker goes through a branch. -/
open Go.RowKit Go.ChangeMaps

set_option maxRecDepth 100000 in
set_option maxHeartbeats 12800000 in
theorem stmt3_walk (x : Prg) (s : PrgP) (i : Nat) (fn : Fnc) (f : List UInt8 → Nat) (cf : Nat → Nat → Rc) (wb cb pb N : Nat) (w0 : World) (hi : x.fns[i]? = some fn) (y : St) (hkd : y.kind = 3) (hcf : CfGe cf) (q : Nat) (ihs : StsTo x s i fn f cf wb cb pb N w0 q) (hq : y.size ≤ q) (deep : Nat) (ar : List (List UInt8)) (b o mb n : Nat) (T : List (List UInt8)) (w : World) (hchk : y.chk x fn f i deep ar = 0) (hy : y.At (zc w0) N b o) (hb : b < N) (hbig : y.big ≤ 1048576) (hW : Ws w N wb cb pb x s w0 n) (hM : Mp w mb (mem T)) (hmN : N ≤ mb) (hmc : mb ≠ cb) (hn : n ≤ 65536) :
   Calls Tryz.prog 87 #[.pointer (some ⟨wb, 0, none⟩), .int .i64 (i : Int), .pointer (some ⟨b, o, none⟩), .map (some mb)] w (GoEnd (y.go x fn cf T n) N wb cb mb pb x s w0 w) := by

 obtain ⟨st, hcl, hok⟩ := hy.open
 have heA : y.e.At (zc w0) N b (o + 3) ∧ y.a.At (zc w0) N b (o + 7) := by obtain ⟨kd, nm, ns, e, a, as', lo, hi, bd, el⟩ := y; exact ⟨hy.2.2.1, hy.2.2.2.1⟩
 obtain ⟨W1, hW1, k0, k1, k2, hB1, hz1⟩ := alloc3 w (.cells #[.pointer (some ⟨wb, 0, none⟩)] 115) (.cells #[.int .i64 (i : Int)] 3) (.cells #[.pointer (some ⟨b, o, none⟩)] 140)
 have hlt := And.intro (lt_blk hW.wk) (And.intro (lt_blk hW.cb_map.choose_spec.choose_spec) hM.lt)
 have hl := hW.lts
 have HS := Lib.hid (fun (W : World) (h : Fw (fun k => k = wb ∨ k = cb ∨ k = mb) W1 W) => show W.cell? ⟨w.heap.size, 0, none⟩ = some (.pointer (some ⟨wb, 0, none⟩)) ∧ W.cell? ⟨w.heap.size + 1, 0, none⟩ = some (.int .i64 (i : Int)) ∧ W.cell? ⟨w.heap.size + 1 + 1, 0, none⟩ = some (.pointer (some ⟨b, o, none⟩)) ∧ W.cell? ⟨b, o, none⟩ = some (.int .i64 y.kind) ∧ W.cell? ⟨b, o + 1, none⟩ = some (.string (str y.name)) ∧ W.cell? ⟨b, o + 14, none⟩ = some (.slice st.pb y.body.len st.cb) ∧ W.cell? ⟨b, o + 15, none⟩ = some (.slice st.pl y.els.len st.cl) from by
   have hold : Below N w0 W := (hW.old.trans (hB1.mono hl.2.2.1)).trans (h.below (by omega) (fun k e => by omega))
   have hc : ∀ j v, (y.cells st)[j]? = some v → W.cell? ⟨b, o + j, none⟩ = some v := fun j v hv => (hold.cell (p := ⟨b, o + j, none⟩) hb).trans (zc_cell (hcl j v hv)).1
   exact ⟨cell_blk ((h.block _ (lt_blk k0) (by omega)).trans k0) rfl, cell_blk ((h.block _ (lt_blk k1) (by omega)).trans k1) rfl, cell_blk ((h.block _ (lt_blk k2) (by omega)).trans k2) rfl, hc 0 _ rfl, hc 1 _ rfl, hc 14 _ rfl, hc 15 _ rfl⟩)
 have HW1 := Lib.hid hW1
 have HW_1 := Lib.hid (hW.later hB1)
 have HM_1 := Lib.hid (hM.later hB1)
 have HF0 := Lib.hid (show Fw (fun k => k = wb ∨ k = cb ∨ k = mb) w W1 from Fw.of_below hB1)
 have HF1 := Lib.hid (Fw.refl (fun k => k = wb ∨ k = cb ∨ k = mb) W1)
 have HW1x := Lib.hid (And.intro (hW.later hB1) (hM.later hB1))
 have HEA := Lib.hid heA
 have HOK := Lib.hid hok
 have HBG := Lib.hid (show y.e.size ≤ 3000000 ∧ y.a.size ≤ 3000000 ∧ y.body.big ≤ 1048576 ∧ y.els.big ≤ 1048576 from by have := y.big_eq; omega)
 have HN := Lib.hid (And.intro hmN (And.intro hmc (And.intro hb hn)))
 have HNe := Lib.hid (hW.ne_map hM)
 have HZ := Lib.hid (And.intro hz1 hlt)
 have hgo := St.go_eq x fn cf y T n
 obtain ⟨R, hR⟩ : ∃ R, R = y.go x fn cf T n := ⟨_, rfl⟩
 rw [← hR] at hgo ⊢
 have HCH := Lib.hid hchk
 have HIN := Lib.hid (show y.body.In (zc w0) N st.pb ∧ y.els.In (zc w0) N st.pl from ⟨hok.2.2.2.2.1, hok.2.2.2.2.2.1⟩)
 have HCB := Lib.hid (And.intro (chkS_parts hchk).2.2.2.2.1 (chkS_parts hchk).2.2.2.2.2)
 have HCK := Lib.hid ((chkS_parts hchk).2.2.1 (.inr (.inr (.inl hkd))))
 have HQ := Lib.hid (show y.body.size < q ∧ y.els.size < q from by have := y_parts y; omega)
 have IH := Lib.hid ihs
 have HCF := Lib.hid hcf
 clear ihs hq hcf
 rw [if_neg (show ¬ y.kind = 1 by omega), if_neg (show ¬ y.kind = 2 by omega), if_pos hkd] at hgo
 have e1 : (y.kind == 1) = false := by simp [hkd]
 have e2 : (y.kind == 2) = false := by simp [hkd]
 have e3 : (y.kind == 3) = true := by simp [hkd]
 clear hW1 k0 k1 k2 hB1 hz1 hlt hl heA hok hcl hy hW hM hmN hmc hn hchk hb hbig hR

 cases hp : pub x fn y.e T with
 | false =>
   rw [hp, if_neg (by decide)] at hgo
   have HR := Lib.hid hgo
   clear hgo
   obtain ⟨b4, b5, b6, c0, c1, c14, c15⟩ := HS.out W1 (Fw.refl _ _)
   go_enter Tryz.func87, Tryz.ntmps87
   go_upto_region 1 with fail
   rw [HW1.out]
   clear HW1
   go_upto_region 9 with fail
   refine wp_region_held_drew (S := fun W => W.cell? ⟨w.heap.size, 0, none⟩ = some (.pointer (some ⟨wb, 0, none⟩)) ∧ W.cell? ⟨w.heap.size + 1, 0, none⟩ = some (.int .i64 (i : Int)) ∧ W.cell? ⟨w.heap.size + 1 + 1, 0, none⟩ = some (.pointer (some ⟨b, o, none⟩)) ∧ W.cell? ⟨b, o, none⟩ = some (.int .i64 y.kind) ∧ W.cell? ⟨b, o + 1, none⟩ = some (.string (str y.name)) ∧ W.cell? ⟨b, o + 14, none⟩ = some (.slice st.pb y.body.len st.cb) ∧ W.cell? ⟨b, o + 15, none⟩ = some (.slice st.pl y.els.len st.cl)) (by kernel_rfl) ?_ (fun hHeld => ?_)
   · exact HS.out _ HF1.out.drew
   refine tq 0 ?_
   refine tq 1 ?_
   refine tq 2 ?_
   refine tq 3 ?_
   refine tq 4 ?_
   refine tq 5 ?_
   refine wpAnyH_ready (rs := [6]) (by kernel_rfl) (by simp) ?_
   refine rdy rfl (fun K hK => ?_) AllReadyH.nil
   go_simp
   refine (mustPub_walk x s i fn y.e deep wb cb pb mb b (o + 3) N n T w0 _ (HW_1.out.later (Below.refl _ _).drew) hi HCK.out HEA.out.1 HN.out.2.2.1 HBG.out.1 (HM_1.out.later (Below.refl _ _).drew) HN.out.2.1).mono ?_
   intro z w2 h2
   rw [hp] at h2
   rcases h2 with ⟨hr, _, _⟩ | ⟨hr, hFx⟩
   · cases hr
   have HEnd := Lib.hid (show GoEnd R N wb cb mb pb x s w0 w (Pn 10) w2 from .no (e := 10) HR.out (HF0.out.trans (HF1.out.drew.new hFx (fun j e => .inl (.inr (.inl e))))))
   unfold Pn at HEnd ⊢
   exact ⟨rfl, HEnd.out⟩

 | true =>
   rw [hp, if_pos rfl] at hgo
   have HR := Lib.hid hgo
   clear hgo
   obtain ⟨b4, b5, b6, c0, c1, c14, c15⟩ := HS.out W1 (Fw.refl _ _)
   go_enter Tryz.func87, Tryz.ntmps87
   go_upto_region 1 with fail
   rw [HW1.out]
   clear HW1
   go_upto_region 9 with fail
   refine wp_region_held_drew (S := fun W => W.cell? ⟨w.heap.size, 0, none⟩ = some (.pointer (some ⟨wb, 0, none⟩)) ∧ W.cell? ⟨w.heap.size + 1, 0, none⟩ = some (.int .i64 (i : Int)) ∧ W.cell? ⟨w.heap.size + 1 + 1, 0, none⟩ = some (.pointer (some ⟨b, o, none⟩)) ∧ W.cell? ⟨b, o, none⟩ = some (.int .i64 y.kind) ∧ W.cell? ⟨b, o + 1, none⟩ = some (.string (str y.name)) ∧ W.cell? ⟨b, o + 14, none⟩ = some (.slice st.pb y.body.len st.cb) ∧ W.cell? ⟨b, o + 15, none⟩ = some (.slice st.pl y.els.len st.cl)) (by kernel_rfl) ?_ (fun hHeld => ?_)
   · exact HS.out _ HF1.out.drew
   refine tq 0 ?_
   refine tq 1 ?_
   refine tq 2 ?_
   refine tq 3 ?_
   refine tq 4 ?_
   refine tq 5 ?_
   refine wpAnyH_ready (rs := [6]) (by kernel_rfl) (by simp) ?_
   refine rdy rfl (fun K hK => ?_) AllReadyH.nil
   go_simp
   refine (mustPub_walk x s i fn y.e deep wb cb pb mb b (o + 3) N n T w0 _ (HW_1.out.later (Below.refl _ _).drew) hi HCK.out HEA.out.1 HN.out.2.2.1 HBG.out.1 (HM_1.out.later (Below.refl _ _).drew) HN.out.2.1).mono ?_
   intro z w2 h2
   rw [hp] at h2
   rcases h2 with ⟨hr, hWx, hFx⟩ | ⟨hr, _⟩
   rotate_left
   · cases hr
   cases hr
   have HW_2 := Lib.hid hWx
   have HM_2 := Lib.hid ((HM_1.out.later (Below.refl _ _).drew).fw hFx HN.out.2.1)
   have HF2 := Lib.hid (show Fw (fun k => k = wb ∨ k = cb ∨ k = mb) W1 w2 from HF1.out.drew.new hFx (fun j e => .inl (.inr (.inl e))))
   clear hWx hFx
   refine hK.out _ _ ?_ (fun hHeldN => ?_)
   · exact HS.out _ HF2.out
   clear hK K hHeld
   have hHeld := hHeldN
   clear hHeldN
   try simp only [Act.put, List.setIfInBounds_toArray, List.set_cons_zero, List.set_cons_succ]
   refine wpAnyH_done (by kernel_rfl) ?_ _
   clear hHeld
   go_wp2_with fail
   refine (lvCopied_any (mem T) mb _ HM_2.out).mono ?_
   rintro z w3 ⟨rfl, hCx, hBx⟩
   have HNC := Lib.hid (show w2.heap.size ≠ wb ∧ w2.heap.size ≠ cb ∧ w2.heap.size ≠ mb ∧ N ≤ w2.heap.size ∧ W1.heap.size ≤ w2.heap.size from by
     have h1 := HW_2.out.lts.2.2.1
     have h2 := lt_blk HW_2.out.wk
     obtain ⟨_, _, h3⟩ := HW_2.out.cb_map
     have h3 := lt_blk h3
     have h4 := HM_2.out.lt
     have h5 := HF2.out.size
     exact ⟨by omega, by omega, by omega, h1, h5⟩)
   have HC_3 := Lib.hid hCx
   have HW_3 := Lib.hid (HW_2.out.later hBx)
   have HM_3 := Lib.hid (HM_2.out.later hBx)
   have HF3 := Lib.hid (HF2.out.new (Fw.of_below (S := fun _ => False) hBx) (fun _ e => e.elim))
   clear hCx hBx
   go_upto_region 11 with fail
   refine wp_region_held_drew (S := fun W => W.cell? ⟨w.heap.size, 0, none⟩ = some (.pointer (some ⟨wb, 0, none⟩)) ∧ W.cell? ⟨w.heap.size + 1, 0, none⟩ = some (.int .i64 (i : Int)) ∧ W.cell? ⟨w.heap.size + 1 + 1, 0, none⟩ = some (.pointer (some ⟨b, o, none⟩)) ∧ W.cell? ⟨b, o, none⟩ = some (.int .i64 y.kind) ∧ W.cell? ⟨b, o + 1, none⟩ = some (.string (str y.name)) ∧ W.cell? ⟨b, o + 14, none⟩ = some (.slice st.pb y.body.len st.cb) ∧ W.cell? ⟨b, o + 15, none⟩ = some (.slice st.pl y.els.len st.cl)) (by kernel_rfl) ?_ (fun hHeld => ?_)
   · exact HS.out _ HF3.out.drew
   refine tq 0 ?_
   refine tq 1 ?_
   refine tq 2 ?_
   refine tq 3 ?_
   refine tq 4 ?_
   refine tq 5 ?_
   refine tq 6 ?_
   refine wpAnyH_ready (rs := [7]) (by kernel_rfl) (by simp) ?_
   refine rdy rfl (fun K hK => ?_) AllReadyH.nil
   go_simp
   refine (IH.out y.body HQ.out.1 (deep + 1) (arOf ar y.kind y.name) st.pb st.cb mb n T _ HCB.out.1 HIN.out.1 HBG.out.2.2.1 (HW_3.out.later (Below.refl _ _).drew) (HM_3.out.later (Below.refl _ _).drew) HN.out.1 HN.out.2.1 HN.out.2.2.2).mono ?_
   intro z w4 h4
   rcases h4 with ⟨hr, hWx, hMx, hFx⟩ | ⟨hr, hFx⟩
   rotate_left
   · have hr2 := HR.out
     rw [hr] at hr2
     have HEnd := Lib.hid (show GoEnd R N wb cb mb pb x s w0 w (Pn _) w4 from .no (hr2) (HF0.out.trans (HF3.out.drew.trans hFx)))
     unfold Pn at HEnd ⊢
     exact ⟨rfl, HEnd.out⟩
   rename_i T1 n1
   have HN1 := Lib.hid (show n1 ≤ 65536 from (Sts.go_ge x fn cf HCF.out y.body T n HN.out.2.2.2 T1 n1 hr).2)
   have hR1 : R = (y.els.go x fn cf T n1).bind fun T2 n2 => .ok (T1 ++ T2) n2 := by have := HR.out; rw [hr] at this; exact this
   clear HR
   have HR := Lib.hid hR1
   have HW_4 := Lib.hid hWx
   have HM_4 := Lib.hid hMx
   have HC_4 := Lib.hid ((HC_3.out.later (Below.refl _ _).drew).fw hFx (fun e => by rcases e with e | e | e; exact HNC.out.1 e; exact HNC.out.2.1 e; exact HNC.out.2.2.1 e))
   have HF4 := Lib.hid (HF3.out.drew.trans hFx)
   clear hWx hMx hFx hr hR1
   refine hK.out _ _ ?_ (fun hHeldN => ?_)
   · exact HS.out _ HF4.out
   clear hK K hHeld
   have hHeld := hHeldN
   clear hHeldN
   try simp only [Act.put, List.setIfInBounds_toArray, List.set_cons_zero, List.set_cons_succ]
   refine wpAnyH_done (by kernel_rfl) ?_ _
   clear hHeld
   go_upto_region 12 with fail
   refine wp_region_held_drew (S := fun W => W.cell? ⟨w.heap.size, 0, none⟩ = some (.pointer (some ⟨wb, 0, none⟩)) ∧ W.cell? ⟨w.heap.size + 1, 0, none⟩ = some (.int .i64 (i : Int)) ∧ W.cell? ⟨w.heap.size + 1 + 1, 0, none⟩ = some (.pointer (some ⟨b, o, none⟩)) ∧ W.cell? ⟨b, o, none⟩ = some (.int .i64 y.kind) ∧ W.cell? ⟨b, o + 1, none⟩ = some (.string (str y.name)) ∧ W.cell? ⟨b, o + 14, none⟩ = some (.slice st.pb y.body.len st.cb) ∧ W.cell? ⟨b, o + 15, none⟩ = some (.slice st.pl y.els.len st.cl)) (by kernel_rfl) ?_ (fun hHeld => ?_)
   · exact HS.out _ HF4.out.drew
   refine tq 0 ?_
   refine tq 1 ?_
   refine tq 2 ?_
   refine tq 3 ?_
   refine tq 4 ?_
   refine tq 5 ?_
   refine tq 6 ?_
   refine wpAnyH_ready (rs := [7]) (by kernel_rfl) (by simp) ?_
   refine rdy rfl (fun K hK => ?_) AllReadyH.nil
   go_simp
   refine (IH.out y.els HQ.out.2 (deep + 1) (arOf ar y.kind y.name) st.pl st.cl w2.heap.size n1 T _ HCB.out.2 HIN.out.2 HBG.out.2.2.2 (HW_4.out.later (Below.refl _ _).drew) (HC_4.out.later (Below.refl _ _).drew) HNC.out.2.2.2.1 HNC.out.2.1 HN1.out).mono ?_
   intro z w5 h5
   rcases h5 with ⟨hr, hWx, hMx, hFx⟩ | ⟨hr, hFx⟩
   rotate_left
   · have hr2 := HR.out
     rw [hr] at hr2
     have HEnd := Lib.hid (show GoEnd R N wb cb mb pb x s w0 w (Pn _) w5 from .no (hr2) (HF0.out.trans (HF4.out.drew.new hFx (fun j e => by rcases e with e | e | e; exact .inl (.inl e); exact .inl (.inr (.inl e)); exact .inr (by have := HNC.out.2.2.2.2; omega)))))
     unfold Pn at HEnd ⊢
     exact ⟨rfl, HEnd.out⟩
   rename_i T2 n2
   have hR1 : R = .ok (T1 ++ T2) n2 := by have := HR.out; rw [hr] at this; exact this
   clear HR
   have HR := Lib.hid hR1
   have HW_5 := Lib.hid hWx
   have HC_5 := Lib.hid hMx
   have HM_5 := Lib.hid ((HM_4.out.later (Below.refl _ _).drew).fw hFx (fun e => by rcases e with e | e | e; exact HNe.out.1 e; exact HN.out.2.1 e; exact HNC.out.2.2.1 e.symm))
   have HF5 := Lib.hid (HF4.out.drew.new hFx (fun j e => by rcases e with e | e | e; exact .inl (.inl e); exact .inl (.inr (.inl e)); exact .inr (by have := HNC.out.2.2.2.2; omega)))
   clear hWx hMx hFx hr hR1
   refine hK.out _ _ ?_ (fun hHeldN => ?_)
   · exact HS.out _ HF5.out
   clear hK K hHeld
   have hHeld := hHeldN
   clear hHeldN
   try simp only [Act.put, List.setIfInBounds_toArray, List.set_cons_zero, List.set_cons_succ]
   refine wpAnyH_done (by kernel_rfl) ?_ _
   clear hHeld
   have HJ := Lib.hid (lvJoin_any (mem T1) (mem T2) mb w2.heap.size w5 HM_5.out HC_5.out (fun e => HNC.out.2.2.1 e.symm))
   go_wp2_with fail
   refine HJ.out.mono ?_
   rintro z w6 ⟨rfl, hMx, hBx⟩
   have HEnd := Lib.hid (show GoEnd R N wb cb mb pb x s w0 w (.returned (.tuple #[])) w6 from .ok HR.out (HW_5.out.set HM_5.out HN.out.2.1 HN.out.1 (Fw.of_but hBx)) (by rw [mem_app]; exact hMx) (HF0.out.trans (HF5.out.trans ((Fw.of_but hBx).imp (fun j e => .inr (.inr e))))))
   clear hMx hBx
   go_wp2_with fail
   go_end0
   exact HEnd.out
/- The walker goes through a loop with a condition. -/
open Go.RowKit Go.ChangeMaps

set_option maxRecDepth 100000 in
set_option maxHeartbeats 12800000 in
theorem stmt4_walk (x : Prg) (s : PrgP) (i : Nat) (fn : Fnc) (f : List UInt8 → Nat) (cf : Nat → Nat → Rc) (wb cb pb N : Nat) (w0 : World) (hi : x.fns[i]? = some fn) (y : St) (hkd : y.kind = 4) (hcf : CfGe cf) (q : Nat) (ihs : StsTo x s i fn f cf wb cb pb N w0 q) (hq : y.size ≤ q) (deep : Nat) (ar : List (List UInt8)) (b o mb n : Nat) (T : List (List UInt8)) (w : World) (hchk : y.chk x fn f i deep ar = 0) (hy : y.At (zc w0) N b o) (hb : b < N) (hbig : y.big ≤ 1048576) (hW : Ws w N wb cb pb x s w0 n) (hM : Mp w mb (mem T)) (hmN : N ≤ mb) (hmc : mb ≠ cb) (hn : n ≤ 65536) :
   Calls Tryz.prog 87 #[.pointer (some ⟨wb, 0, none⟩), .int .i64 (i : Int), .pointer (some ⟨b, o, none⟩), .map (some mb)] w (GoEnd (y.go x fn cf T n) N wb cb mb pb x s w0 w) := by

 obtain ⟨st, hcl, hok⟩ := hy.open
 have heA : y.e.At (zc w0) N b (o + 3) ∧ y.a.At (zc w0) N b (o + 7) := by obtain ⟨kd, nm, ns, e, a, as', lo, hi, bd, el⟩ := y; exact ⟨hy.2.2.1, hy.2.2.2.1⟩
 obtain ⟨W1, hW1, k0, k1, k2, hB1, hz1⟩ := alloc3 w (.cells #[.pointer (some ⟨wb, 0, none⟩)] 115) (.cells #[.int .i64 (i : Int)] 3) (.cells #[.pointer (some ⟨b, o, none⟩)] 140)
 have hlt := And.intro (lt_blk hW.wk) (And.intro (lt_blk hW.cb_map.choose_spec.choose_spec) hM.lt)
 have hl := hW.lts
 have HS := Lib.hid (fun (W : World) (h : Fw (fun k => k = wb ∨ k = cb ∨ k = mb) W1 W) => show W.cell? ⟨w.heap.size, 0, none⟩ = some (.pointer (some ⟨wb, 0, none⟩)) ∧ W.cell? ⟨w.heap.size + 1, 0, none⟩ = some (.int .i64 (i : Int)) ∧ W.cell? ⟨w.heap.size + 1 + 1, 0, none⟩ = some (.pointer (some ⟨b, o, none⟩)) ∧ W.cell? ⟨b, o, none⟩ = some (.int .i64 y.kind) ∧ W.cell? ⟨b, o + 1, none⟩ = some (.string (str y.name)) ∧ W.cell? ⟨b, o + 14, none⟩ = some (.slice st.pb y.body.len st.cb) ∧ W.cell? ⟨b, o + 15, none⟩ = some (.slice st.pl y.els.len st.cl) from by
   have hold : Below N w0 W := (hW.old.trans (hB1.mono hl.2.2.1)).trans (h.below (by omega) (fun k e => by omega))
   have hc : ∀ j v, (y.cells st)[j]? = some v → W.cell? ⟨b, o + j, none⟩ = some v := fun j v hv => (hold.cell (p := ⟨b, o + j, none⟩) hb).trans (zc_cell (hcl j v hv)).1
   exact ⟨cell_blk ((h.block _ (lt_blk k0) (by omega)).trans k0) rfl, cell_blk ((h.block _ (lt_blk k1) (by omega)).trans k1) rfl, cell_blk ((h.block _ (lt_blk k2) (by omega)).trans k2) rfl, hc 0 _ rfl, hc 1 _ rfl, hc 14 _ rfl, hc 15 _ rfl⟩)
 have HW1 := Lib.hid hW1
 have HW_1 := Lib.hid (hW.later hB1)
 have HM_1 := Lib.hid (hM.later hB1)
 have HF0 := Lib.hid (show Fw (fun k => k = wb ∨ k = cb ∨ k = mb) w W1 from Fw.of_below hB1)
 have HF1 := Lib.hid (Fw.refl (fun k => k = wb ∨ k = cb ∨ k = mb) W1)
 have HW1x := Lib.hid (And.intro (hW.later hB1) (hM.later hB1))
 have HEA := Lib.hid heA
 have HOK := Lib.hid hok
 have HBG := Lib.hid (show y.e.size ≤ 3000000 ∧ y.a.size ≤ 3000000 ∧ y.body.big ≤ 1048576 ∧ y.els.big ≤ 1048576 from by have := y.big_eq; omega)
 have HN := Lib.hid (And.intro hmN (And.intro hmc (And.intro hb hn)))
 have HNe := Lib.hid (hW.ne_map hM)
 have HZ := Lib.hid (And.intro hz1 hlt)
 have hgo := St.go_eq x fn cf y T n
 obtain ⟨R, hR⟩ : ∃ R, R = y.go x fn cf T n := ⟨_, rfl⟩
 rw [← hR] at hgo ⊢
 have HCH := Lib.hid hchk
 have HIN := Lib.hid (show y.body.In (zc w0) N st.pb from hok.2.2.2.2.1)
 have HCB := Lib.hid (chkS_parts hchk).2.2.2.2.1
 have HCK := Lib.hid ((chkS_parts hchk).2.2.1 (.inr (.inr (.inr hkd))))
 have HQ := Lib.hid (show y.body.size < q from by have := (y_parts y).1; omega)
 have IH := Lib.hid ihs
 have HCF := Lib.hid hcf
 clear ihs hq hcf
 rw [if_neg (show ¬ y.kind = 1 by omega), if_neg (show ¬ y.kind = 2 by omega), if_neg (show ¬ y.kind = 3 by omega), if_pos hkd] at hgo
 have e1 : (y.kind == 1) = false := by simp [hkd]
 have e2 : (y.kind == 2) = false := by simp [hkd]
 have e3 : (y.kind == 3) = false := by simp [hkd]
 have e4 : (y.kind == 4) = true := by simp [hkd]
 clear hW1 k0 k1 k2 hB1 hz1 hlt hl heA hok hcl hy hW hM hmN hmc hn hchk hb hbig hR

 have HR := Lib.hid hgo
 clear hgo
 have HC := Lib.hid (fun (W : World) (m : Nat) (T : List (List UInt8)) (n : Nat) (hF : Fw (fun k => k = wb ∨ k = cb ∨ k = mb) W1 W) (hW : Ws W N wb cb pb x s w0 n) (hM : Mp W m (mem T)) (hm : W1.heap.size ≤ m) (hn : n ≤ 65536) => wbody1 x s i fn f cf wb cb pb N w0 hi y st _ _ _ deep (deep + 1) (arOf ar y.kind y.name) b o m n q T W IH.out HQ.out (fun W2 hF2 => HS.out W2 (hF.new hF2 (fun k e => by rcases e with e | e | e; exact .inl (.inl e); exact .inl (.inr (.inl e)); exact .inr (by omega)))) HCK.out HEA.out.1 HBG.out.1 HCB.out HIN.out HN.out.2.2.1 HBG.out.2.2.1 hW hM (by have := HW_1.out.lts.2.2.1; omega) (by have := HW_1.out.lts; have := HW_1.out.cb_map; obtain ⟨_, _, hcc⟩ := this; have := lt_blk hcc; omega) hn)
 have HL := Lib.hid (settle1 (fun T n => if pub x fn y.e T then y.body.go x fn cf T n else .no 10) (fun T n h => by split; exact Sts.go_ge x fn cf HCF.out y.body T n h; exact fun _ _ e => by cases e) (fun T n T' h => by split at h; exact go_stay x fn cf HCF.out y.body T n T' h; cases h) w.heap.size (w.heap.size + 1) (w.heap.size + 1 + 1) N wb cb mb pb n 65538 x s T w0 W1 HC.out HW_1.out HM_1.out HN.out.1 HN.out.2.1 HN.out.2.2.2 (by omega))
 generalize iterL (fun T n => if pub x fn y.e T then y.body.go x fn cf T n else .no 10) 65538 T n = rl at HL HR
 obtain ⟨b4, b5, b6, c0, c1, c14, c15⟩ := HS.out W1 (Fw.refl _ _)
 go_enter Tryz.func87, Tryz.ntmps87
 go_upto_region 1 with fail
 rw [HW1.out]
 clear HW1 HC
 go_wp2_with fail
 refine HL.out.mono ?_
 intro z w2 h2
 rcases h2 with ⟨hr, hWx, hMx, hFx⟩ | ⟨hr, hFx⟩
 rotate_left
 · have HEnd := Lib.hid (show GoEnd R N wb cb mb pb x s w0 w (Pn _) w2 from .no (HR.out.trans hr) (HF0.out.trans hFx))
   unfold Pn at HEnd ⊢
   go_wp2_with fail
   exact ⟨rfl, HEnd.out⟩
 have HEnd := Lib.hid (show GoEnd R N wb cb mb pb x s w0 w (.returned (.tuple #[])) w2 from .ok (HR.out.trans hr) hWx hMx (HF0.out.trans hFx))
 clear hWx hMx hFx hr
 go_wp2_with fail
 go_end0
 exact HEnd.out
/- The walker goes through a loop without one. -/
open Go.RowKit Go.ChangeMaps

set_option maxRecDepth 100000 in
set_option maxHeartbeats 12800000 in
theorem stmt5_walk (x : Prg) (s : PrgP) (i : Nat) (fn : Fnc) (f : List UInt8 → Nat) (cf : Nat → Nat → Rc) (wb cb pb N : Nat) (w0 : World) (hi : x.fns[i]? = some fn) (y : St) (hkd : y.kind = 5) (hcf : CfGe cf) (q : Nat) (ihs : StsTo x s i fn f cf wb cb pb N w0 q) (hq : y.size ≤ q) (deep : Nat) (ar : List (List UInt8)) (b o mb n : Nat) (T : List (List UInt8)) (w : World) (hchk : y.chk x fn f i deep ar = 0) (hy : y.At (zc w0) N b o) (hb : b < N) (hbig : y.big ≤ 1048576) (hW : Ws w N wb cb pb x s w0 n) (hM : Mp w mb (mem T)) (hmN : N ≤ mb) (hmc : mb ≠ cb) (hn : n ≤ 65536) :
   Calls Tryz.prog 87 #[.pointer (some ⟨wb, 0, none⟩), .int .i64 (i : Int), .pointer (some ⟨b, o, none⟩), .map (some mb)] w (GoEnd (y.go x fn cf T n) N wb cb mb pb x s w0 w) := by

 obtain ⟨st, hcl, hok⟩ := hy.open
 have heA : y.e.At (zc w0) N b (o + 3) ∧ y.a.At (zc w0) N b (o + 7) := by obtain ⟨kd, nm, ns, e, a, as', lo, hi, bd, el⟩ := y; exact ⟨hy.2.2.1, hy.2.2.2.1⟩
 obtain ⟨W1, hW1, k0, k1, k2, hB1, hz1⟩ := alloc3 w (.cells #[.pointer (some ⟨wb, 0, none⟩)] 115) (.cells #[.int .i64 (i : Int)] 3) (.cells #[.pointer (some ⟨b, o, none⟩)] 140)
 have hlt := And.intro (lt_blk hW.wk) (And.intro (lt_blk hW.cb_map.choose_spec.choose_spec) hM.lt)
 have hl := hW.lts
 have HS := Lib.hid (fun (W : World) (h : Fw (fun k => k = wb ∨ k = cb ∨ k = mb) W1 W) => show W.cell? ⟨w.heap.size, 0, none⟩ = some (.pointer (some ⟨wb, 0, none⟩)) ∧ W.cell? ⟨w.heap.size + 1, 0, none⟩ = some (.int .i64 (i : Int)) ∧ W.cell? ⟨w.heap.size + 1 + 1, 0, none⟩ = some (.pointer (some ⟨b, o, none⟩)) ∧ W.cell? ⟨b, o, none⟩ = some (.int .i64 y.kind) ∧ W.cell? ⟨b, o + 1, none⟩ = some (.string (str y.name)) ∧ W.cell? ⟨b, o + 14, none⟩ = some (.slice st.pb y.body.len st.cb) ∧ W.cell? ⟨b, o + 15, none⟩ = some (.slice st.pl y.els.len st.cl) from by
   have hold : Below N w0 W := (hW.old.trans (hB1.mono hl.2.2.1)).trans (h.below (by omega) (fun k e => by omega))
   have hc : ∀ j v, (y.cells st)[j]? = some v → W.cell? ⟨b, o + j, none⟩ = some v := fun j v hv => (hold.cell (p := ⟨b, o + j, none⟩) hb).trans (zc_cell (hcl j v hv)).1
   exact ⟨cell_blk ((h.block _ (lt_blk k0) (by omega)).trans k0) rfl, cell_blk ((h.block _ (lt_blk k1) (by omega)).trans k1) rfl, cell_blk ((h.block _ (lt_blk k2) (by omega)).trans k2) rfl, hc 0 _ rfl, hc 1 _ rfl, hc 14 _ rfl, hc 15 _ rfl⟩)
 have HW1 := Lib.hid hW1
 have HW_1 := Lib.hid (hW.later hB1)
 have HM_1 := Lib.hid (hM.later hB1)
 have HF0 := Lib.hid (show Fw (fun k => k = wb ∨ k = cb ∨ k = mb) w W1 from Fw.of_below hB1)
 have HF1 := Lib.hid (Fw.refl (fun k => k = wb ∨ k = cb ∨ k = mb) W1)
 have HW1x := Lib.hid (And.intro (hW.later hB1) (hM.later hB1))
 have HEA := Lib.hid heA
 have HOK := Lib.hid hok
 have HBG := Lib.hid (show y.e.size ≤ 3000000 ∧ y.a.size ≤ 3000000 ∧ y.body.big ≤ 1048576 ∧ y.els.big ≤ 1048576 from by have := y.big_eq; omega)
 have HN := Lib.hid (And.intro hmN (And.intro hmc (And.intro hb hn)))
 have HNe := Lib.hid (hW.ne_map hM)
 have HZ := Lib.hid (And.intro hz1 hlt)
 have hgo := St.go_eq x fn cf y T n
 obtain ⟨R, hR⟩ : ∃ R, R = y.go x fn cf T n := ⟨_, rfl⟩
 rw [← hR] at hgo ⊢
 have HCH := Lib.hid hchk
 have HIN := Lib.hid (show y.body.In (zc w0) N st.pb from hok.2.2.2.2.1)
 have HCB := Lib.hid (chkS_parts hchk).2.2.2.2.1
 have HQ := Lib.hid (show y.body.size < q from by have := (y_parts y).1; omega)
 have IH := Lib.hid ihs
 have HCF := Lib.hid hcf
 clear ihs hq hcf
 rw [if_neg (show ¬ y.kind = 1 by omega), if_neg (show ¬ y.kind = 2 by omega), if_neg (show ¬ y.kind = 3 by omega), if_neg (show ¬ y.kind = 4 by omega), if_pos hkd] at hgo
 have e1 : (y.kind == 1) = false := by simp [hkd]
 have e2 : (y.kind == 2) = false := by simp [hkd]
 have e3 : (y.kind == 3) = false := by simp [hkd]
 have e4 : (y.kind == 4) = false := by simp [hkd]
 have e5 : (y.kind == 5) = true := by simp [hkd]
 clear hW1 k0 k1 k2 hB1 hz1 hlt hl heA hok hcl hy hW hM hmN hmc hn hchk hb hbig hR

 have HR := Lib.hid hgo
 clear hgo
 have HC := Lib.hid (fun (W : World) (m : Nat) (T : List (List UInt8)) (n : Nat) (hF : Fw (fun k => k = wb ∨ k = cb ∨ k = mb) W1 W) (hW : Ws W N wb cb pb x s w0 n) (hM : Mp W m (mem T)) (hm : W1.heap.size ≤ m) (hn : n ≤ 65536) => wbody2 x s i fn f cf wb cb pb N w0 hi y st _ _ _ (deep + 1) (arOf ar y.kind y.name) b o m n q T W IH.out HQ.out (fun W2 hF2 => HS.out W2 (hF.new hF2 (fun k e => by rcases e with e | e | e; exact .inl (.inl e); exact .inl (.inr (.inl e)); exact .inr (by omega)))) HCB.out HIN.out HN.out.2.2.1 HBG.out.2.2.1 hW hM (by have := HW_1.out.lts.2.2.1; omega) (by have := HW_1.out.lts; have := HW_1.out.cb_map; obtain ⟨_, _, hcc⟩ := this; have := lt_blk hcc; omega) hn)
 have HL := Lib.hid (settle2 (fun T n => y.body.go x fn cf T n) (fun T n h => Sts.go_ge x fn cf HCF.out y.body T n h) (fun T n T' h => go_stay x fn cf HCF.out y.body T n T' h) w.heap.size (w.heap.size + 1) (w.heap.size + 1 + 1) N wb cb mb pb n 65538 x s T w0 W1 HC.out HW_1.out HM_1.out HN.out.1 HN.out.2.1 HN.out.2.2.2 (by omega))
 generalize iterL (fun T n => y.body.go x fn cf T n) 65538 T n = rl at HL HR
 obtain ⟨b4, b5, b6, c0, c1, c14, c15⟩ := HS.out W1 (Fw.refl _ _)
 go_enter Tryz.func87, Tryz.ntmps87
 go_upto_region 1 with fail
 rw [HW1.out]
 clear HW1 HC
 go_wp2_with fail
 refine HL.out.mono ?_
 intro z w2 h2
 rcases h2 with ⟨hr, hWx, hMx, hFx⟩ | ⟨hr, hFx⟩
 rotate_left
 · have HEnd := Lib.hid (show GoEnd R N wb cb mb pb x s w0 w (Pn _) w2 from .no (HR.out.trans hr) (HF0.out.trans hFx))
   unfold Pn at HEnd ⊢
   go_wp2_with fail
   exact ⟨rfl, HEnd.out⟩
 have HEnd := Lib.hid (show GoEnd R N wb cb mb pb x s w0 w (.returned (.tuple #[])) w2 from .ok (HR.out.trans hr) hWx hMx (HF0.out.trans hFx))
 clear hWx hMx hFx hr
 go_wp2_with fail
 go_end0
 exact HEnd.out
end Go.Proofs.YtihmibggonffdaaGreat
