/- TS0, TS1, TS2 as one. -/
import Derived.Test.YtihmibggonffdaaGreatTJ0
import Derived.Test.YtihmibggonffdaaGreatF1
/- The walker goes through a statement: kind 0. -/
namespace Go.Proofs.YtihmibggonffdaaGreat
open Go.RowKit Go.ChangeMaps

set_option maxRecDepth 100000 in
set_option maxHeartbeats 12800000 in
theorem stmt0_walk (x : Prg) (s : PrgP) (i : Nat) (fn : Fnc) (f : List UInt8 → Nat) (cf : Nat → Nat → Rc) (wb cb pb N : Nat) (w0 : World) (_hi : x.fns[i]? = some fn) (y : St) (hkd : y.kind ≠ 1 ∧ y.kind ≠ 2 ∧ y.kind ≠ 3 ∧ y.kind ≠ 4 ∧ y.kind ≠ 5 ∧ y.kind ≠ 6) (deep : Nat) (ar : List (List UInt8)) (b o mb n : Nat) (T : List (List UInt8)) (w : World) (hchk : y.chk x fn f i deep ar = 0) (hy : y.At (zc w0) N b o) (hb : b < N) (hbig : y.big ≤ 1048576) (hW : Ws w N wb cb pb x s w0 n) (hM : Mp w mb (mem T)) (hmN : N ≤ mb) (hmc : mb ≠ cb) (hn : n ≤ 65536) :
   Calls Tryz.prog 87 #[.pointer (some ⟨wb, 0, none⟩), .int .i64 (i : Int), .pointer (some ⟨b, o, none⟩), .map (some mb)] w (GoEnd (y.go x fn cf T n) N wb cb mb pb x s w0 w) := by

 obtain ⟨st, hcl, hok⟩ := hy.open
 have heA : y.e.At (zc w0) N b (o + 3) ∧ y.a.At (zc w0) N b (o + 7) := by obtain ⟨kd, nm, ns, e, a, as', lo, hi, bd, el⟩ := y; exact ⟨hy.2.2.1, hy.2.2.2.1⟩
 obtain ⟨W1, hW1, k0, k1, k2, hB1, hz1⟩ := alloc3 w (.cells #[.pointer (some ⟨wb, 0, none⟩)] 115) (.cells #[.int .i64 (i : Int)] 3) (.cells #[.pointer (some ⟨b, o, none⟩)] 140)
 have hlt := And.intro (lt_blk hW.wk) (And.intro (lt_blk hW.cb_map.choose_spec.choose_spec) hM.lt)
 have hl := hW.lts
 have HS := Lib.hid (fun (W : World) (h : Fw (fun k => k = wb ∨ k = cb ∨ k = mb) W1 W) => show W.cell? ⟨w.heap.size, 0, none⟩ = some (.pointer (some ⟨wb, 0, none⟩)) ∧ W.cell? ⟨w.heap.size + 1, 0, none⟩ = some (.int .i64 (i : Int)) ∧ W.cell? ⟨w.heap.size + 1 + 1, 0, none⟩ = some (.pointer (some ⟨b, o, none⟩)) ∧ W.cell? ⟨b, o, none⟩ = some (.int .i64 y.kind) ∧ W.cell? ⟨b, o + 1, none⟩ = some (.string (str y.name)) ∧ W.cell? ⟨b, o + 14, none⟩ = some (.slice st.pb y.body.len st.cb) ∧ W.cell? ⟨b, o + 15, none⟩ = some (.slice st.pl y.els.len st.cl) from by
   have hold : Below N w0 W := (hW.old.trans (hB1.mono hl.2.2.1)).trans (h.below (by omega) (fun k e => by omega))
   have hc : ∀ j v, (y.cells st)[j]? = some v → W.cell? ⟨b, o + j, none⟩ = some v := fun j v hv => (hold.cell (p := ⟨b, o + j, none⟩) hb).trans (zc_cell (hcl j v hv)).1
   exact ⟨cell_blk ((h.block _ (lt_blk k0) (by omega)).trans k0) rfl, cell_blk ((h.block _ (lt_blk k1) (by omega)).trans k1) rfl, cell_blk ((h.block _ (lt_blk k2) (by omega)).trans k2) rfl, hc 0 _ rfl, hc 1 _ rfl, hc 14 _ rfl, hc 15 _ rfl⟩)
 have HW1 := Lib.hid hW1
 have HW_1 := Lib.hid (hW.later hB1)
 have HM_1 := Lib.hid (hM.later hB1)
 have HF0 := Lib.hid (show Fw (fun k => k = wb ∨ k = cb ∨ k = mb) w W1 from Fw.of_below hB1)
 have HF1 := Lib.hid (Fw.refl (fun k => k = wb ∨ k = cb ∨ k = mb) W1)
 have HW1x := Lib.hid (And.intro (hW.later hB1) (hM.later hB1))
 have HEA := Lib.hid heA
 have HOK := Lib.hid hok
 have HBG := Lib.hid (show y.e.size ≤ 3000000 ∧ y.a.size ≤ 3000000 ∧ y.body.big ≤ 1048576 ∧ y.els.big ≤ 1048576 from by have := y.big_eq; omega)
 have HN := Lib.hid (And.intro hmN (And.intro hmc (And.intro hb hn)))
 have HNe := Lib.hid (hW.ne_map hM)
 have HZ := Lib.hid (And.intro hz1 hlt)
 have hgo := St.go_eq x fn cf y T n
 obtain ⟨R, hR⟩ : ∃ R, R = y.go x fn cf T n := ⟨_, rfl⟩
 rw [← hR] at hgo ⊢
 have HCH := Lib.hid hchk
 rw [if_neg hkd.1, if_neg hkd.2.1, if_neg hkd.2.2.1, if_neg hkd.2.2.2.1, if_neg hkd.2.2.2.2.1, if_neg hkd.2.2.2.2.2] at hgo
 have e1 : (y.kind == 1) = false := by simp [hkd]
 have e2 : (y.kind == 2) = false := by simp [hkd]
 have e3 : (y.kind == 3) = false := by simp [hkd]
 have e4 : (y.kind == 4) = false := by simp [hkd]
 have e5 : (y.kind == 5) = false := by simp [hkd]
 have e6 : (y.kind == 6) = false := by simp [hkd]
 clear hW1 k0 k1 k2 hB1 hz1 hlt hl heA hok hcl hy hW hM hmN hmc hn hchk hb hbig hR

 have HR := Lib.hid hgo
 clear hgo
 obtain ⟨b4, b5, b6, c0, c1, c14, c15⟩ := HS.out W1 (Fw.refl _ _)
 go_enter Tryz.func87, Tryz.ntmps87
 go_upto_region 1 with fail
 rw [HW1.out]
 clear HW1
 go_wp2_with fail
 go_end0
 exact .ok HR.out HW_1.out HM_1.out (HF0.out.trans HF1.out)
/- The walker goes through a statement: kind 1. -/
open Go.RowKit Go.ChangeMaps

set_option maxRecDepth 100000 in
set_option maxHeartbeats 12800000 in
theorem stmt1_walk (x : Prg) (s : PrgP) (i : Nat) (fn : Fnc) (f : List UInt8 → Nat) (cf : Nat → Nat → Rc) (wb cb pb N : Nat) (w0 : World) (hi : x.fns[i]? = some fn) (y : St) (hkd : y.kind = 1) (deep : Nat) (ar : List (List UInt8)) (b o mb n : Nat) (T : List (List UInt8)) (w : World) (hchk : y.chk x fn f i deep ar = 0) (hy : y.At (zc w0) N b o) (hb : b < N) (hbig : y.big ≤ 1048576) (hW : Ws w N wb cb pb x s w0 n) (hM : Mp w mb (mem T)) (hmN : N ≤ mb) (hmc : mb ≠ cb) (hn : n ≤ 65536) :
   Calls Tryz.prog 87 #[.pointer (some ⟨wb, 0, none⟩), .int .i64 (i : Int), .pointer (some ⟨b, o, none⟩), .map (some mb)] w (GoEnd (y.go x fn cf T n) N wb cb mb pb x s w0 w) := by

 obtain ⟨st, hcl, hok⟩ := hy.open
 have heA : y.e.At (zc w0) N b (o + 3) ∧ y.a.At (zc w0) N b (o + 7) := by obtain ⟨kd, nm, ns, e, a, as', lo, hi, bd, el⟩ := y; exact ⟨hy.2.2.1, hy.2.2.2.1⟩
 obtain ⟨W1, hW1, k0, k1, k2, hB1, hz1⟩ := alloc3 w (.cells #[.pointer (some ⟨wb, 0, none⟩)] 115) (.cells #[.int .i64 (i : Int)] 3) (.cells #[.pointer (some ⟨b, o, none⟩)] 140)
 have hlt := And.intro (lt_blk hW.wk) (And.intro (lt_blk hW.cb_map.choose_spec.choose_spec) hM.lt)
 have hl := hW.lts
 have HS := Lib.hid (fun (W : World) (h : Fw (fun k => k = wb ∨ k = cb ∨ k = mb) W1 W) => show W.cell? ⟨w.heap.size, 0, none⟩ = some (.pointer (some ⟨wb, 0, none⟩)) ∧ W.cell? ⟨w.heap.size + 1, 0, none⟩ = some (.int .i64 (i : Int)) ∧ W.cell? ⟨w.heap.size + 1 + 1, 0, none⟩ = some (.pointer (some ⟨b, o, none⟩)) ∧ W.cell? ⟨b, o, none⟩ = some (.int .i64 y.kind) ∧ W.cell? ⟨b, o + 1, none⟩ = some (.string (str y.name)) ∧ W.cell? ⟨b, o + 14, none⟩ = some (.slice st.pb y.body.len st.cb) ∧ W.cell? ⟨b, o + 15, none⟩ = some (.slice st.pl y.els.len st.cl) from by
   have hold : Below N w0 W := (hW.old.trans (hB1.mono hl.2.2.1)).trans (h.below (by omega) (fun k e => by omega))
   have hc : ∀ j v, (y.cells st)[j]? = some v → W.cell? ⟨b, o + j, none⟩ = some v := fun j v hv => (hold.cell (p := ⟨b, o + j, none⟩) hb).trans (zc_cell (hcl j v hv)).1
   exact ⟨cell_blk ((h.block _ (lt_blk k0) (by omega)).trans k0) rfl, cell_blk ((h.block _ (lt_blk k1) (by omega)).trans k1) rfl, cell_blk ((h.block _ (lt_blk k2) (by omega)).trans k2) rfl, hc 0 _ rfl, hc 1 _ rfl, hc 14 _ rfl, hc 15 _ rfl⟩)
 have HW1 := Lib.hid hW1
 have HW_1 := Lib.hid (hW.later hB1)
 have HM_1 := Lib.hid (hM.later hB1)
 have HF0 := Lib.hid (show Fw (fun k => k = wb ∨ k = cb ∨ k = mb) w W1 from Fw.of_below hB1)
 have HF1 := Lib.hid (Fw.refl (fun k => k = wb ∨ k = cb ∨ k = mb) W1)
 have HW1x := Lib.hid (And.intro (hW.later hB1) (hM.later hB1))
 have HEA := Lib.hid heA
 have HOK := Lib.hid hok
 have HBG := Lib.hid (show y.e.size ≤ 3000000 ∧ y.a.size ≤ 3000000 ∧ y.body.big ≤ 1048576 ∧ y.els.big ≤ 1048576 from by have := y.big_eq; omega)
 have HN := Lib.hid (And.intro hmN (And.intro hmc (And.intro hb hn)))
 have HNe := Lib.hid (hW.ne_map hM)
 have HZ := Lib.hid (And.intro hz1 hlt)
 have hgo := St.go_eq x fn cf y T n
 obtain ⟨R, hR⟩ : ∃ R, R = y.go x fn cf T n := ⟨_, rfl⟩
 rw [← hR] at hgo ⊢
 have HCH := Lib.hid hchk
 have HCK := Lib.hid ((chkS_parts hchk).2.2.1 (.inl hkd))
 rw [if_pos hkd] at hgo
 have e1 : (y.kind == 1) = true := by simp [hkd]
 clear hW1 k0 k1 k2 hB1 hz1 hlt hl heA hok hcl hy hW hM hmN hmc hn hchk hb hbig hR

 cases hl : y.e.lev x fn T with
 | none =>
   rw [hl] at hgo
   have HR := Lib.hid hgo
   clear hgo
   obtain ⟨b4, b5, b6, c0, c1, c14, c15⟩ := HS.out W1 (Fw.refl _ _)
   go_enter Tryz.func87, Tryz.ntmps87
   go_upto_region 1 with fail
   rw [HW1.out]
   clear HW1
   go_upto_region 3 with fail
   refine wp_region_held_drew (S := fun W => W.cell? ⟨w.heap.size, 0, none⟩ = some (.pointer (some ⟨wb, 0, none⟩)) ∧ W.cell? ⟨w.heap.size + 1, 0, none⟩ = some (.int .i64 (i : Int)) ∧ W.cell? ⟨w.heap.size + 1 + 1, 0, none⟩ = some (.pointer (some ⟨b, o, none⟩)) ∧ W.cell? ⟨b, o, none⟩ = some (.int .i64 y.kind) ∧ W.cell? ⟨b, o + 1, none⟩ = some (.string (str y.name)) ∧ W.cell? ⟨b, o + 14, none⟩ = some (.slice st.pb y.body.len st.cb) ∧ W.cell? ⟨b, o + 15, none⟩ = some (.slice st.pl y.els.len st.cl)) (by kernel_rfl) ?_ (fun hHeld => ?_)
   · exact HS.out _ HF1.out.drew
   refine tq 0 ?_
   refine tq 1 ?_
   refine tq 2 ?_
   refine tq 3 ?_
   refine tq 4 ?_
   refine tq 5 ?_
   refine tq 6 ?_
   refine tq 7 ?_
   refine tq 8 ?_
   refine tq 9 ?_
   refine tq 10 ?_
   refine wpAnyH_ready (rs := [11]) (by kernel_rfl) (by simp) ?_
   refine rdy rfl (fun K hK => ?_) AllReadyH.nil
   go_simp
   refine (level_walk x s i fn y.e deep wb cb pb mb b (o + 3) N n T w0 _ (HW_1.out.later (Below.refl _ _).drew) hi HCK.out HEA.out.1 HN.out.2.2.1 HBG.out.1 (HM_1.out.later (Below.refl _ _).drew) HN.out.2.1).mono ?_
   intro z w2 h2
   rw [hl] at h2
   rcases h2 with ⟨hr, _, _⟩ | ⟨hr, hFx⟩
   · cases hr
   have HEnd := Lib.hid (show GoEnd R N wb cb mb pb x s w0 w (Pn 10) w2 from .no (e := 10) HR.out (HF0.out.trans (HF1.out.drew.new hFx (fun j e => .inl (.inr (.inl e))))))
   unfold Pn at HEnd ⊢
   exact ⟨rfl, HEnd.out⟩

 | some t =>
   rw [hl] at hgo
   have HR := Lib.hid hgo
   clear hgo
   obtain ⟨b4, b5, b6, c0, c1, c14, c15⟩ := HS.out W1 (Fw.refl _ _)
   go_enter Tryz.func87, Tryz.ntmps87
   go_upto_region 1 with fail
   rw [HW1.out]
   clear HW1
   go_upto_region 3 with fail
   refine wp_region_held_drew (S := fun W => W.cell? ⟨w.heap.size, 0, none⟩ = some (.pointer (some ⟨wb, 0, none⟩)) ∧ W.cell? ⟨w.heap.size + 1, 0, none⟩ = some (.int .i64 (i : Int)) ∧ W.cell? ⟨w.heap.size + 1 + 1, 0, none⟩ = some (.pointer (some ⟨b, o, none⟩)) ∧ W.cell? ⟨b, o, none⟩ = some (.int .i64 y.kind) ∧ W.cell? ⟨b, o + 1, none⟩ = some (.string (str y.name)) ∧ W.cell? ⟨b, o + 14, none⟩ = some (.slice st.pb y.body.len st.cb) ∧ W.cell? ⟨b, o + 15, none⟩ = some (.slice st.pl y.els.len st.cl)) (by kernel_rfl) ?_ (fun hHeld => ?_)
   · exact HS.out _ HF1.out.drew
   refine tq 0 ?_
   refine tq 1 ?_
   refine tq 2 ?_
   refine tq 3 ?_
   refine tq 4 ?_
   refine tq 5 ?_
   refine tq 6 ?_
   refine tq 7 ?_
   refine tq 8 ?_
   refine tq 9 ?_
   refine tq 10 ?_
   refine wpAnyH_ready (rs := [11]) (by kernel_rfl) (by simp) ?_
   refine rdy rfl (fun K hK => ?_) AllReadyH.nil
   go_simp
   refine (level_walk x s i fn y.e deep wb cb pb mb b (o + 3) N n T w0 _ (HW_1.out.later (Below.refl _ _).drew) hi HCK.out HEA.out.1 HN.out.2.2.1 HBG.out.1 (HM_1.out.later (Below.refl _ _).drew) HN.out.2.1).mono ?_
   intro z w2 h2
   rw [hl] at h2
   rcases h2 with ⟨hr, hWx, hFx⟩ | ⟨hr, _⟩
   rotate_left
   · cases hr
   cases hr
   have HW_2 := Lib.hid hWx
   have HM_2 := Lib.hid ((HM_1.out.later (Below.refl _ _).drew).fw hFx HN.out.2.1)
   have HF2 := Lib.hid (show Fw (fun k => k = wb ∨ k = cb ∨ k = mb) W1 w2 from HF1.out.drew.new hFx (fun j e => .inl (.inr (.inl e))))
   clear hWx hFx
   refine hK.out _ _ ?_ (fun hHeldN => ?_)
   · exact HS.out _ HF2.out
   clear hK K hHeld
   have hHeld := hHeldN
   clear hHeldN
   try simp only [Act.put, List.setIfInBounds_toArray, List.set_cons_zero, List.set_cons_succ]
   refine wpAnyH_ready (rs := [12]) (by kernel_rfl) (by simp) ?_
   refine rdy rfl (fun K hK => ?_) AllReadyH.nil
   go_simp
   refine (lvSet_any (mem T) y.name t mb _ HM_2.out).mono ?_
   rintro z w3 ⟨rfl, hMx, hBx⟩
   have HF3 := Lib.hid (HF2.out.trans ((Fw.of_but hBx).imp (fun j e => .inr (.inr e))))
   have HW_3 := Lib.hid (HW_2.out.set HM_2.out HN.out.2.1 HN.out.1 (Fw.of_but hBx))
   have HM_3 := Lib.hid (show Mp w3 mb (mem (setT T y.name t)) from by rw [mem_set]; exact hMx)
   clear hMx hBx
   refine hK.out _ _ ?_ (fun hHeldN => ?_)
   · exact HS.out _ HF3.out
   clear hK K hHeld
   have hHeld := hHeldN
   clear hHeldN
   try simp only [Act.put, List.setIfInBounds_toArray, List.set_cons_zero, List.set_cons_succ]
   refine wpAnyH_done (by kernel_rfl) ?_ _
   clear hHeld
   go_wp2_with fail
   go_end0
   exact .ok HR.out HW_3.out HM_3.out (HF0.out.trans HF3.out)

/- The walker goes through a statement: kind 2. -/
open Go.RowKit Go.ChangeMaps

set_option maxRecDepth 100000 in
set_option maxHeartbeats 12800000 in
theorem stmt2_walk (x : Prg) (s : PrgP) (i : Nat) (fn : Fnc) (f : List UInt8 → Nat) (cf : Nat → Nat → Rc) (wb cb pb N : Nat) (w0 : World) (hi : x.fns[i]? = some fn) (y : St) (hkd : y.kind = 2) (deep : Nat) (ar : List (List UInt8)) (b o mb n : Nat) (T : List (List UInt8)) (w : World) (hchk : y.chk x fn f i deep ar = 0) (hy : y.At (zc w0) N b o) (hb : b < N) (hbig : y.big ≤ 1048576) (hW : Ws w N wb cb pb x s w0 n) (hM : Mp w mb (mem T)) (hmN : N ≤ mb) (hmc : mb ≠ cb) (hn : n ≤ 65536) :
   Calls Tryz.prog 87 #[.pointer (some ⟨wb, 0, none⟩), .int .i64 (i : Int), .pointer (some ⟨b, o, none⟩), .map (some mb)] w (GoEnd (y.go x fn cf T n) N wb cb mb pb x s w0 w) := by

 obtain ⟨st, hcl, hok⟩ := hy.open
 have heA : y.e.At (zc w0) N b (o + 3) ∧ y.a.At (zc w0) N b (o + 7) := by obtain ⟨kd, nm, ns, e, a, as', lo, hi, bd, el⟩ := y; exact ⟨hy.2.2.1, hy.2.2.2.1⟩
 obtain ⟨W1, hW1, k0, k1, k2, hB1, hz1⟩ := alloc3 w (.cells #[.pointer (some ⟨wb, 0, none⟩)] 115) (.cells #[.int .i64 (i : Int)] 3) (.cells #[.pointer (some ⟨b, o, none⟩)] 140)
 have hlt := And.intro (lt_blk hW.wk) (And.intro (lt_blk hW.cb_map.choose_spec.choose_spec) hM.lt)
 have hl := hW.lts
 have HS := Lib.hid (fun (W : World) (h : Fw (fun k => k = wb ∨ k = cb ∨ k = mb) W1 W) => show W.cell? ⟨w.heap.size, 0, none⟩ = some (.pointer (some ⟨wb, 0, none⟩)) ∧ W.cell? ⟨w.heap.size + 1, 0, none⟩ = some (.int .i64 (i : Int)) ∧ W.cell? ⟨w.heap.size + 1 + 1, 0, none⟩ = some (.pointer (some ⟨b, o, none⟩)) ∧ W.cell? ⟨b, o, none⟩ = some (.int .i64 y.kind) ∧ W.cell? ⟨b, o + 1, none⟩ = some (.string (str y.name)) ∧ W.cell? ⟨b, o + 14, none⟩ = some (.slice st.pb y.body.len st.cb) ∧ W.cell? ⟨b, o + 15, none⟩ = some (.slice st.pl y.els.len st.cl) from by
   have hold : Below N w0 W := (hW.old.trans (hB1.mono hl.2.2.1)).trans (h.below (by omega) (fun k e => by omega))
   have hc : ∀ j v, (y.cells st)[j]? = some v → W.cell? ⟨b, o + j, none⟩ = some v := fun j v hv => (hold.cell (p := ⟨b, o + j, none⟩) hb).trans (zc_cell (hcl j v hv)).1
   exact ⟨cell_blk ((h.block _ (lt_blk k0) (by omega)).trans k0) rfl, cell_blk ((h.block _ (lt_blk k1) (by omega)).trans k1) rfl, cell_blk ((h.block _ (lt_blk k2) (by omega)).trans k2) rfl, hc 0 _ rfl, hc 1 _ rfl, hc 14 _ rfl, hc 15 _ rfl⟩)
 have HW1 := Lib.hid hW1
 have HW_1 := Lib.hid (hW.later hB1)
 have HM_1 := Lib.hid (hM.later hB1)
 have HF0 := Lib.hid (show Fw (fun k => k = wb ∨ k = cb ∨ k = mb) w W1 from Fw.of_below hB1)
 have HF1 := Lib.hid (Fw.refl (fun k => k = wb ∨ k = cb ∨ k = mb) W1)
 have HW1x := Lib.hid (And.intro (hW.later hB1) (hM.later hB1))
 have HEA := Lib.hid heA
 have HOK := Lib.hid hok
 have HBG := Lib.hid (show y.e.size ≤ 3000000 ∧ y.a.size ≤ 3000000 ∧ y.body.big ≤ 1048576 ∧ y.els.big ≤ 1048576 from by have := y.big_eq; omega)
 have HN := Lib.hid (And.intro hmN (And.intro hmc (And.intro hb hn)))
 have HNe := Lib.hid (hW.ne_map hM)
 have HZ := Lib.hid (And.intro hz1 hlt)
 have hgo := St.go_eq x fn cf y T n
 obtain ⟨R, hR⟩ : ∃ R, R = y.go x fn cf T n := ⟨_, rfl⟩
 rw [← hR] at hgo ⊢
 have HCH := Lib.hid hchk
 have HCK := Lib.hid ((chkS_parts hchk).2.2.1 (.inr (.inl hkd)))
 have HCKa := Lib.hid ((chkS_parts hchk).2.1 hkd)
 rw [if_neg (show ¬ y.kind = 1 by omega), if_pos hkd] at hgo
 have e1 : (y.kind == 1) = false := by simp [hkd]
 have e2 : (y.kind == 2) = true := by simp [hkd]
 clear hW1 k0 k1 k2 hB1 hz1 hlt hl heA hok hcl hy hW hM hmN hmc hn hchk hb hbig hR

 cases hp : pub x fn y.a T with
 | false =>
   rw [hp, if_neg (by decide)] at hgo
   have HR := Lib.hid hgo
   clear hgo
   obtain ⟨b4, b5, b6, c0, c1, c14, c15⟩ := HS.out W1 (Fw.refl _ _)
   go_enter Tryz.func87, Tryz.ntmps87
   go_upto_region 1 with fail
   rw [HW1.out]
   clear HW1
   go_upto_region 5 with fail
   refine wp_region_held_drew (S := fun W => W.cell? ⟨w.heap.size, 0, none⟩ = some (.pointer (some ⟨wb, 0, none⟩)) ∧ W.cell? ⟨w.heap.size + 1, 0, none⟩ = some (.int .i64 (i : Int)) ∧ W.cell? ⟨w.heap.size + 1 + 1, 0, none⟩ = some (.pointer (some ⟨b, o, none⟩)) ∧ W.cell? ⟨b, o, none⟩ = some (.int .i64 y.kind) ∧ W.cell? ⟨b, o + 1, none⟩ = some (.string (str y.name)) ∧ W.cell? ⟨b, o + 14, none⟩ = some (.slice st.pb y.body.len st.cb) ∧ W.cell? ⟨b, o + 15, none⟩ = some (.slice st.pl y.els.len st.cl)) (by kernel_rfl) ?_ (fun hHeld => ?_)
   · exact HS.out _ HF1.out.drew
   refine tq 0 ?_
   refine tq 1 ?_
   refine tq 2 ?_
   refine tq 3 ?_
   refine tq 4 ?_
   refine tq 5 ?_
   refine wpAnyH_ready (rs := [6]) (by kernel_rfl) (by simp) ?_
   refine rdy rfl (fun K hK => ?_) AllReadyH.nil
   go_simp
   refine (mustPub_walk x s i fn y.a deep wb cb pb mb b (o + 7) N n T w0 _ (HW_1.out.later (Below.refl _ _).drew) hi HCKa.out HEA.out.2 HN.out.2.2.1 HBG.out.2.1 (HM_1.out.later (Below.refl _ _).drew) HN.out.2.1).mono ?_
   intro z w2 h2
   rw [hp] at h2
   rcases h2 with ⟨hr, _, _⟩ | ⟨hr, hFx⟩
   · cases hr
   have HEnd := Lib.hid (show GoEnd R N wb cb mb pb x s w0 w (Pn 10) w2 from .no (e := 10) HR.out (HF0.out.trans (HF1.out.drew.new hFx (fun j e => .inl (.inr (.inl e))))))
   unfold Pn at HEnd ⊢
   exact ⟨rfl, HEnd.out⟩

 | true =>
   rw [hp, if_pos rfl] at hgo
   cases hl : y.e.lev x fn T with
   | none =>
     rw [hl] at hgo
     have HR := Lib.hid hgo
     clear hgo
     obtain ⟨b4, b5, b6, c0, c1, c14, c15⟩ := HS.out W1 (Fw.refl _ _)
     go_enter Tryz.func87, Tryz.ntmps87
     go_upto_region 1 with fail
     rw [HW1.out]
     clear HW1
     go_upto_region 5 with fail
     refine wp_region_held_drew (S := fun W => W.cell? ⟨w.heap.size, 0, none⟩ = some (.pointer (some ⟨wb, 0, none⟩)) ∧ W.cell? ⟨w.heap.size + 1, 0, none⟩ = some (.int .i64 (i : Int)) ∧ W.cell? ⟨w.heap.size + 1 + 1, 0, none⟩ = some (.pointer (some ⟨b, o, none⟩)) ∧ W.cell? ⟨b, o, none⟩ = some (.int .i64 y.kind) ∧ W.cell? ⟨b, o + 1, none⟩ = some (.string (str y.name)) ∧ W.cell? ⟨b, o + 14, none⟩ = some (.slice st.pb y.body.len st.cb) ∧ W.cell? ⟨b, o + 15, none⟩ = some (.slice st.pl y.els.len st.cl)) (by kernel_rfl) ?_ (fun hHeld => ?_)
     · exact HS.out _ HF1.out.drew
     refine tq 0 ?_
     refine tq 1 ?_
     refine tq 2 ?_
     refine tq 3 ?_
     refine tq 4 ?_
     refine tq 5 ?_
     refine wpAnyH_ready (rs := [6]) (by kernel_rfl) (by simp) ?_
     refine rdy rfl (fun K hK => ?_) AllReadyH.nil
     go_simp
     refine (mustPub_walk x s i fn y.a deep wb cb pb mb b (o + 7) N n T w0 _ (HW_1.out.later (Below.refl _ _).drew) hi HCKa.out HEA.out.2 HN.out.2.2.1 HBG.out.2.1 (HM_1.out.later (Below.refl _ _).drew) HN.out.2.1).mono ?_
     intro z w2 h2
     rw [hp] at h2
     rcases h2 with ⟨hr, hWx, hFx⟩ | ⟨hr, _⟩
     rotate_left
     · cases hr
     cases hr
     have HW_2 := Lib.hid hWx
     have HM_2 := Lib.hid ((HM_1.out.later (Below.refl _ _).drew).fw hFx HN.out.2.1)
     have HF2 := Lib.hid (show Fw (fun k => k = wb ∨ k = cb ∨ k = mb) W1 w2 from HF1.out.drew.new hFx (fun j e => .inl (.inr (.inl e))))
     clear hWx hFx
     refine hK.out _ _ ?_ (fun hHeldN => ?_)
     · exact HS.out _ HF2.out
     clear hK K hHeld
     have hHeld := hHeldN
     clear hHeldN
     try simp only [Act.put, List.setIfInBounds_toArray, List.set_cons_zero, List.set_cons_succ]
     refine wpAnyH_done (by kernel_rfl) ?_ _
     clear hHeld
     go_upto_region 6 with fail
     refine wp_region_held_drew (S := fun W => W.cell? ⟨w.heap.size, 0, none⟩ = some (.pointer (some ⟨wb, 0, none⟩)) ∧ W.cell? ⟨w.heap.size + 1, 0, none⟩ = some (.int .i64 (i : Int)) ∧ W.cell? ⟨w.heap.size + 1 + 1, 0, none⟩ = some (.pointer (some ⟨b, o, none⟩)) ∧ W.cell? ⟨b, o, none⟩ = some (.int .i64 y.kind) ∧ W.cell? ⟨b, o + 1, none⟩ = some (.string (str y.name)) ∧ W.cell? ⟨b, o + 14, none⟩ = some (.slice st.pb y.body.len st.cb) ∧ W.cell? ⟨b, o + 15, none⟩ = some (.slice st.pl y.els.len st.cl)) (by kernel_rfl) ?_ (fun hHeld => ?_)
     · exact HS.out _ HF2.out.drew
     refine tq 0 ?_
     refine tq 1 ?_
     refine tq 2 ?_
     refine tq 3 ?_
     refine tq 4 ?_
     refine tq 5 ?_
     refine wpAnyH_ready (rs := [6]) (by kernel_rfl) (by simp) ?_
     refine rdy rfl (fun K hK => ?_) AllReadyH.nil
     go_simp
     refine (level_walk x s i fn y.e deep wb cb pb mb b (o + 3) N n T w0 _ (HW_2.out.later (Below.refl _ _).drew) hi HCK.out HEA.out.1 HN.out.2.2.1 HBG.out.1 (HM_2.out.later (Below.refl _ _).drew) HN.out.2.1).mono ?_
     intro z w3 h3
     rw [hl] at h3
     rcases h3 with ⟨hr, _, _⟩ | ⟨hr, hFx⟩
     · cases hr
     have HEnd := Lib.hid (show GoEnd R N wb cb mb pb x s w0 w (Pn 10) w3 from .no (e := 10) HR.out (HF0.out.trans (HF2.out.drew.new hFx (fun j e => .inl (.inr (.inl e))))))
     unfold Pn at HEnd ⊢
     exact ⟨rfl, HEnd.out⟩

   | some t =>
     rw [hl] at hgo
     cases t with
     | false =>
       have HR := Lib.hid (show R = .ok T n from hgo)
       clear hgo
       obtain ⟨b4, b5, b6, c0, c1, c14, c15⟩ := HS.out W1 (Fw.refl _ _)
       go_enter Tryz.func87, Tryz.ntmps87
       go_upto_region 1 with fail
       rw [HW1.out]
       clear HW1
       go_upto_region 5 with fail
       refine wp_region_held_drew (S := fun W => W.cell? ⟨w.heap.size, 0, none⟩ = some (.pointer (some ⟨wb, 0, none⟩)) ∧ W.cell? ⟨w.heap.size + 1, 0, none⟩ = some (.int .i64 (i : Int)) ∧ W.cell? ⟨w.heap.size + 1 + 1, 0, none⟩ = some (.pointer (some ⟨b, o, none⟩)) ∧ W.cell? ⟨b, o, none⟩ = some (.int .i64 y.kind) ∧ W.cell? ⟨b, o + 1, none⟩ = some (.string (str y.name)) ∧ W.cell? ⟨b, o + 14, none⟩ = some (.slice st.pb y.body.len st.cb) ∧ W.cell? ⟨b, o + 15, none⟩ = some (.slice st.pl y.els.len st.cl)) (by kernel_rfl) ?_ (fun hHeld => ?_)
       · exact HS.out _ HF1.out.drew
       refine tq 0 ?_
       refine tq 1 ?_
       refine tq 2 ?_
       refine tq 3 ?_
       refine tq 4 ?_
       refine tq 5 ?_
       refine wpAnyH_ready (rs := [6]) (by kernel_rfl) (by simp) ?_
       refine rdy rfl (fun K hK => ?_) AllReadyH.nil
       go_simp
       refine (mustPub_walk x s i fn y.a deep wb cb pb mb b (o + 7) N n T w0 _ (HW_1.out.later (Below.refl _ _).drew) hi HCKa.out HEA.out.2 HN.out.2.2.1 HBG.out.2.1 (HM_1.out.later (Below.refl _ _).drew) HN.out.2.1).mono ?_
       intro z w2 h2
       rw [hp] at h2
       rcases h2 with ⟨hr, hWx, hFx⟩ | ⟨hr, _⟩
       rotate_left
       · cases hr
       cases hr
       have HW_2 := Lib.hid hWx
       have HM_2 := Lib.hid ((HM_1.out.later (Below.refl _ _).drew).fw hFx HN.out.2.1)
       have HF2 := Lib.hid (show Fw (fun k => k = wb ∨ k = cb ∨ k = mb) W1 w2 from HF1.out.drew.new hFx (fun j e => .inl (.inr (.inl e))))
       clear hWx hFx
       refine hK.out _ _ ?_ (fun hHeldN => ?_)
       · exact HS.out _ HF2.out
       clear hK K hHeld
       have hHeld := hHeldN
       clear hHeldN
       try simp only [Act.put, List.setIfInBounds_toArray, List.set_cons_zero, List.set_cons_succ]
       refine wpAnyH_done (by kernel_rfl) ?_ _
       clear hHeld
       go_upto_region 6 with fail
       refine wp_region_held_drew (S := fun W => W.cell? ⟨w.heap.size, 0, none⟩ = some (.pointer (some ⟨wb, 0, none⟩)) ∧ W.cell? ⟨w.heap.size + 1, 0, none⟩ = some (.int .i64 (i : Int)) ∧ W.cell? ⟨w.heap.size + 1 + 1, 0, none⟩ = some (.pointer (some ⟨b, o, none⟩)) ∧ W.cell? ⟨b, o, none⟩ = some (.int .i64 y.kind) ∧ W.cell? ⟨b, o + 1, none⟩ = some (.string (str y.name)) ∧ W.cell? ⟨b, o + 14, none⟩ = some (.slice st.pb y.body.len st.cb) ∧ W.cell? ⟨b, o + 15, none⟩ = some (.slice st.pl y.els.len st.cl)) (by kernel_rfl) ?_ (fun hHeld => ?_)
       · exact HS.out _ HF2.out.drew
       refine tq 0 ?_
       refine tq 1 ?_
       refine tq 2 ?_
       refine tq 3 ?_
       refine tq 4 ?_
       refine tq 5 ?_
       refine wpAnyH_ready (rs := [6]) (by kernel_rfl) (by simp) ?_
       refine rdy rfl (fun K hK => ?_) AllReadyH.nil
       go_simp
       refine (level_walk x s i fn y.e deep wb cb pb mb b (o + 3) N n T w0 _ (HW_2.out.later (Below.refl _ _).drew) hi HCK.out HEA.out.1 HN.out.2.2.1 HBG.out.1 (HM_2.out.later (Below.refl _ _).drew) HN.out.2.1).mono ?_
       intro z w3 h3
       rw [hl] at h3
       rcases h3 with ⟨hr, hWx, hFx⟩ | ⟨hr, _⟩
       rotate_left
       · cases hr
       cases hr
       have HW_3 := Lib.hid hWx
       have HM_3 := Lib.hid ((HM_2.out.later (Below.refl _ _).drew).fw hFx HN.out.2.1)
       have HF3 := Lib.hid (show Fw (fun k => k = wb ∨ k = cb ∨ k = mb) W1 w3 from HF2.out.drew.new hFx (fun j e => .inl (.inr (.inl e))))
       clear hWx hFx
       refine hK.out _ _ ?_ (fun hHeldN => ?_)
       · exact HS.out _ HF3.out
       clear hK K hHeld
       have hHeld := hHeldN
       clear hHeldN
       try simp only [Act.put, List.setIfInBounds_toArray, List.set_cons_zero, List.set_cons_succ]
       refine wpAnyH_done (by kernel_rfl) ?_ _
       clear hHeld
       go_wp2_with fail
       go_end0
       exact .ok HR.out HW_3.out HM_3.out (HF0.out.trans HF3.out)

     | true =>
       cases hs : secB x fn y.name with
       | false =>
         have HR := Lib.hid (show R = .no 10 from by simpa [hs] using hgo)
         clear hgo
         obtain ⟨b4, b5, b6, c0, c1, c14, c15⟩ := HS.out W1 (Fw.refl _ _)
         go_enter Tryz.func87, Tryz.ntmps87
         go_upto_region 1 with fail
         rw [HW1.out]
         clear HW1
         go_upto_region 5 with fail
         refine wp_region_held_drew (S := fun W => W.cell? ⟨w.heap.size, 0, none⟩ = some (.pointer (some ⟨wb, 0, none⟩)) ∧ W.cell? ⟨w.heap.size + 1, 0, none⟩ = some (.int .i64 (i : Int)) ∧ W.cell? ⟨w.heap.size + 1 + 1, 0, none⟩ = some (.pointer (some ⟨b, o, none⟩)) ∧ W.cell? ⟨b, o, none⟩ = some (.int .i64 y.kind) ∧ W.cell? ⟨b, o + 1, none⟩ = some (.string (str y.name)) ∧ W.cell? ⟨b, o + 14, none⟩ = some (.slice st.pb y.body.len st.cb) ∧ W.cell? ⟨b, o + 15, none⟩ = some (.slice st.pl y.els.len st.cl)) (by kernel_rfl) ?_ (fun hHeld => ?_)
         · exact HS.out _ HF1.out.drew
         refine tq 0 ?_
         refine tq 1 ?_
         refine tq 2 ?_
         refine tq 3 ?_
         refine tq 4 ?_
         refine tq 5 ?_
         refine wpAnyH_ready (rs := [6]) (by kernel_rfl) (by simp) ?_
         refine rdy rfl (fun K hK => ?_) AllReadyH.nil
         go_simp
         refine (mustPub_walk x s i fn y.a deep wb cb pb mb b (o + 7) N n T w0 _ (HW_1.out.later (Below.refl _ _).drew) hi HCKa.out HEA.out.2 HN.out.2.2.1 HBG.out.2.1 (HM_1.out.later (Below.refl _ _).drew) HN.out.2.1).mono ?_
         intro z w2 h2
         rw [hp] at h2
         rcases h2 with ⟨hr, hWx, hFx⟩ | ⟨hr, _⟩
         rotate_left
         · cases hr
         cases hr
         have HW_2 := Lib.hid hWx
         have HM_2 := Lib.hid ((HM_1.out.later (Below.refl _ _).drew).fw hFx HN.out.2.1)
         have HF2 := Lib.hid (show Fw (fun k => k = wb ∨ k = cb ∨ k = mb) W1 w2 from HF1.out.drew.new hFx (fun j e => .inl (.inr (.inl e))))
         clear hWx hFx
         refine hK.out _ _ ?_ (fun hHeldN => ?_)
         · exact HS.out _ HF2.out
         clear hK K hHeld
         have hHeld := hHeldN
         clear hHeldN
         try simp only [Act.put, List.setIfInBounds_toArray, List.set_cons_zero, List.set_cons_succ]
         refine wpAnyH_done (by kernel_rfl) ?_ _
         clear hHeld
         go_upto_region 6 with fail
         refine wp_region_held_drew (S := fun W => W.cell? ⟨w.heap.size, 0, none⟩ = some (.pointer (some ⟨wb, 0, none⟩)) ∧ W.cell? ⟨w.heap.size + 1, 0, none⟩ = some (.int .i64 (i : Int)) ∧ W.cell? ⟨w.heap.size + 1 + 1, 0, none⟩ = some (.pointer (some ⟨b, o, none⟩)) ∧ W.cell? ⟨b, o, none⟩ = some (.int .i64 y.kind) ∧ W.cell? ⟨b, o + 1, none⟩ = some (.string (str y.name)) ∧ W.cell? ⟨b, o + 14, none⟩ = some (.slice st.pb y.body.len st.cb) ∧ W.cell? ⟨b, o + 15, none⟩ = some (.slice st.pl y.els.len st.cl)) (by kernel_rfl) ?_ (fun hHeld => ?_)
         · exact HS.out _ HF2.out.drew
         refine tq 0 ?_
         refine tq 1 ?_
         refine tq 2 ?_
         refine tq 3 ?_
         refine tq 4 ?_
         refine tq 5 ?_
         refine wpAnyH_ready (rs := [6]) (by kernel_rfl) (by simp) ?_
         refine rdy rfl (fun K hK => ?_) AllReadyH.nil
         go_simp
         refine (level_walk x s i fn y.e deep wb cb pb mb b (o + 3) N n T w0 _ (HW_2.out.later (Below.refl _ _).drew) hi HCK.out HEA.out.1 HN.out.2.2.1 HBG.out.1 (HM_2.out.later (Below.refl _ _).drew) HN.out.2.1).mono ?_
         intro z w3 h3
         rw [hl] at h3
         rcases h3 with ⟨hr, hWx, hFx⟩ | ⟨hr, _⟩
         rotate_left
         · cases hr
         cases hr
         have HW_3 := Lib.hid hWx
         have HM_3 := Lib.hid ((HM_2.out.later (Below.refl _ _).drew).fw hFx HN.out.2.1)
         have HF3 := Lib.hid (show Fw (fun k => k = wb ∨ k = cb ∨ k = mb) W1 w3 from HF2.out.drew.new hFx (fun j e => .inl (.inr (.inl e))))
         clear hWx hFx
         refine hK.out _ _ ?_ (fun hHeldN => ?_)
         · exact HS.out _ HF3.out
         clear hK K hHeld
         have hHeld := hHeldN
         clear hHeldN
         try simp only [Act.put, List.setIfInBounds_toArray, List.set_cons_zero, List.set_cons_succ]
         refine wpAnyH_done (by kernel_rfl) ?_ _
         clear hHeld
         go_upto_region 7 with fail
         refine wp_region_held_drew (S := fun W => (W.cell? ⟨wb, 0, none⟩ = some (.pointer (some ⟨pb, 0, none⟩))) ∧ W.cell? ⟨w.heap.size, 0, none⟩ = some (.pointer (some ⟨wb, 0, none⟩)) ∧ W.cell? ⟨w.heap.size + 1, 0, none⟩ = some (.int .i64 (i : Int)) ∧ W.cell? ⟨w.heap.size + 1 + 1, 0, none⟩ = some (.pointer (some ⟨b, o, none⟩)) ∧ W.cell? ⟨b, o, none⟩ = some (.int .i64 y.kind) ∧ W.cell? ⟨b, o + 1, none⟩ = some (.string (str y.name)) ∧ W.cell? ⟨b, o + 14, none⟩ = some (.slice st.pb y.body.len st.cb) ∧ W.cell? ⟨b, o + 15, none⟩ = some (.slice st.pl y.els.len st.cl)) (by kernel_rfl) ?_ (fun hHeld => ?_)
         · exact ⟨cell_blk HW_3.out.wk rfl, HS.out _ HF3.out.drew⟩
         refine tq 0 ?_
         refine tq 1 ?_
         refine tq 2 ?_
         refine tq 3 ?_
         refine tq 4 ?_
         refine tq 5 ?_
         refine tq 6 ?_
         refine tq 7 ?_
         refine tq 8 ?_
         refine wpAnyH_ready (rs := [9]) (by kernel_rfl) (by simp) ?_
         refine rdy rfl (fun K hK => ?_) AllReadyH.nil
         go_simp
         refine (isSecret_any x s i fn y.name pb N _ (HW_3.out.later (Below.refl _ _).drew).prg (HW_3.out.lts.2.2.1) hi).mono ?_
         rintro z w4 ⟨rfl, hBx⟩
         have HB4 := Lib.hid (show Below w3.heap.size w3 w4 from (Below.refl _ _).drew.trans hBx)
         have HF4 := Lib.hid (HF3.out.new (Fw.of_below (S := fun _ => False) HB4.out) (fun _ e => e.elim))
         have HW_4 := Lib.hid (HW_3.out.later HB4.out)
         have HM_4 := Lib.hid (HM_3.out.later HB4.out)
         rw [hs]
         clear hBx
         refine hK.out _ _ ?_ (fun hHeldN => ?_)
         · exact ⟨cell_blk HW_4.out.wk rfl, HS.out _ HF4.out⟩
         clear hK K hHeld
         have hHeld := hHeldN
         clear hHeldN
         try simp only [Act.put, List.setIfInBounds_toArray, List.set_cons_zero, List.set_cons_succ]
         refine wpAnyH_ready (rs := [10]) (by kernel_rfl) (by simp) ?_
         refine rdy rfl (fun K hK => ?_) AllReadyH.nil
         go_simp
         refine (smust_no 10 _).mono ?_
         rintro z w5 ⟨rfl, rfl⟩
         have HEnd := Lib.hid (show GoEnd R N wb cb mb pb x s w0 w (Pn 10) w4 from .no (e := 10) HR.out (HF0.out.trans HF4.out))
         unfold Pn at HEnd ⊢
         exact ⟨rfl, HEnd.out⟩

       | true =>
         have HR := Lib.hid (show R = .ok T n from by simpa [hs] using hgo)
         clear hgo
         obtain ⟨b4, b5, b6, c0, c1, c14, c15⟩ := HS.out W1 (Fw.refl _ _)
         go_enter Tryz.func87, Tryz.ntmps87
         go_upto_region 1 with fail
         rw [HW1.out]
         clear HW1
         go_upto_region 5 with fail
         refine wp_region_held_drew (S := fun W => W.cell? ⟨w.heap.size, 0, none⟩ = some (.pointer (some ⟨wb, 0, none⟩)) ∧ W.cell? ⟨w.heap.size + 1, 0, none⟩ = some (.int .i64 (i : Int)) ∧ W.cell? ⟨w.heap.size + 1 + 1, 0, none⟩ = some (.pointer (some ⟨b, o, none⟩)) ∧ W.cell? ⟨b, o, none⟩ = some (.int .i64 y.kind) ∧ W.cell? ⟨b, o + 1, none⟩ = some (.string (str y.name)) ∧ W.cell? ⟨b, o + 14, none⟩ = some (.slice st.pb y.body.len st.cb) ∧ W.cell? ⟨b, o + 15, none⟩ = some (.slice st.pl y.els.len st.cl)) (by kernel_rfl) ?_ (fun hHeld => ?_)
         · exact HS.out _ HF1.out.drew
         refine tq 0 ?_
         refine tq 1 ?_
         refine tq 2 ?_
         refine tq 3 ?_
         refine tq 4 ?_
         refine tq 5 ?_
         refine wpAnyH_ready (rs := [6]) (by kernel_rfl) (by simp) ?_
         refine rdy rfl (fun K hK => ?_) AllReadyH.nil
         go_simp
         refine (mustPub_walk x s i fn y.a deep wb cb pb mb b (o + 7) N n T w0 _ (HW_1.out.later (Below.refl _ _).drew) hi HCKa.out HEA.out.2 HN.out.2.2.1 HBG.out.2.1 (HM_1.out.later (Below.refl _ _).drew) HN.out.2.1).mono ?_
         intro z w2 h2
         rw [hp] at h2
         rcases h2 with ⟨hr, hWx, hFx⟩ | ⟨hr, _⟩
         rotate_left
         · cases hr
         cases hr
         have HW_2 := Lib.hid hWx
         have HM_2 := Lib.hid ((HM_1.out.later (Below.refl _ _).drew).fw hFx HN.out.2.1)
         have HF2 := Lib.hid (show Fw (fun k => k = wb ∨ k = cb ∨ k = mb) W1 w2 from HF1.out.drew.new hFx (fun j e => .inl (.inr (.inl e))))
         clear hWx hFx
         refine hK.out _ _ ?_ (fun hHeldN => ?_)
         · exact HS.out _ HF2.out
         clear hK K hHeld
         have hHeld := hHeldN
         clear hHeldN
         try simp only [Act.put, List.setIfInBounds_toArray, List.set_cons_zero, List.set_cons_succ]
         refine wpAnyH_done (by kernel_rfl) ?_ _
         clear hHeld
         go_upto_region 6 with fail
         refine wp_region_held_drew (S := fun W => W.cell? ⟨w.heap.size, 0, none⟩ = some (.pointer (some ⟨wb, 0, none⟩)) ∧ W.cell? ⟨w.heap.size + 1, 0, none⟩ = some (.int .i64 (i : Int)) ∧ W.cell? ⟨w.heap.size + 1 + 1, 0, none⟩ = some (.pointer (some ⟨b, o, none⟩)) ∧ W.cell? ⟨b, o, none⟩ = some (.int .i64 y.kind) ∧ W.cell? ⟨b, o + 1, none⟩ = some (.string (str y.name)) ∧ W.cell? ⟨b, o + 14, none⟩ = some (.slice st.pb y.body.len st.cb) ∧ W.cell? ⟨b, o + 15, none⟩ = some (.slice st.pl y.els.len st.cl)) (by kernel_rfl) ?_ (fun hHeld => ?_)
         · exact HS.out _ HF2.out.drew
         refine tq 0 ?_
         refine tq 1 ?_
         refine tq 2 ?_
         refine tq 3 ?_
         refine tq 4 ?_
         refine tq 5 ?_
         refine wpAnyH_ready (rs := [6]) (by kernel_rfl) (by simp) ?_
         refine rdy rfl (fun K hK => ?_) AllReadyH.nil
         go_simp
         refine (level_walk x s i fn y.e deep wb cb pb mb b (o + 3) N n T w0 _ (HW_2.out.later (Below.refl _ _).drew) hi HCK.out HEA.out.1 HN.out.2.2.1 HBG.out.1 (HM_2.out.later (Below.refl _ _).drew) HN.out.2.1).mono ?_
         intro z w3 h3
         rw [hl] at h3
         rcases h3 with ⟨hr, hWx, hFx⟩ | ⟨hr, _⟩
         rotate_left
         · cases hr
         cases hr
         have HW_3 := Lib.hid hWx
         have HM_3 := Lib.hid ((HM_2.out.later (Below.refl _ _).drew).fw hFx HN.out.2.1)
         have HF3 := Lib.hid (show Fw (fun k => k = wb ∨ k = cb ∨ k = mb) W1 w3 from HF2.out.drew.new hFx (fun j e => .inl (.inr (.inl e))))
         clear hWx hFx
         refine hK.out _ _ ?_ (fun hHeldN => ?_)
         · exact HS.out _ HF3.out
         clear hK K hHeld
         have hHeld := hHeldN
         clear hHeldN
         try simp only [Act.put, List.setIfInBounds_toArray, List.set_cons_zero, List.set_cons_succ]
         refine wpAnyH_done (by kernel_rfl) ?_ _
         clear hHeld
         go_upto_region 7 with fail
         refine wp_region_held_drew (S := fun W => (W.cell? ⟨wb, 0, none⟩ = some (.pointer (some ⟨pb, 0, none⟩))) ∧ W.cell? ⟨w.heap.size, 0, none⟩ = some (.pointer (some ⟨wb, 0, none⟩)) ∧ W.cell? ⟨w.heap.size + 1, 0, none⟩ = some (.int .i64 (i : Int)) ∧ W.cell? ⟨w.heap.size + 1 + 1, 0, none⟩ = some (.pointer (some ⟨b, o, none⟩)) ∧ W.cell? ⟨b, o, none⟩ = some (.int .i64 y.kind) ∧ W.cell? ⟨b, o + 1, none⟩ = some (.string (str y.name)) ∧ W.cell? ⟨b, o + 14, none⟩ = some (.slice st.pb y.body.len st.cb) ∧ W.cell? ⟨b, o + 15, none⟩ = some (.slice st.pl y.els.len st.cl)) (by kernel_rfl) ?_ (fun hHeld => ?_)
         · exact ⟨cell_blk HW_3.out.wk rfl, HS.out _ HF3.out.drew⟩
         refine tq 0 ?_
         refine tq 1 ?_
         refine tq 2 ?_
         refine tq 3 ?_
         refine tq 4 ?_
         refine tq 5 ?_
         refine tq 6 ?_
         refine tq 7 ?_
         refine tq 8 ?_
         refine wpAnyH_ready (rs := [9]) (by kernel_rfl) (by simp) ?_
         refine rdy rfl (fun K hK => ?_) AllReadyH.nil
         go_simp
         refine (isSecret_any x s i fn y.name pb N _ (HW_3.out.later (Below.refl _ _).drew).prg (HW_3.out.lts.2.2.1) hi).mono ?_
         rintro z w4 ⟨rfl, hBx⟩
         have HB4 := Lib.hid (show Below w3.heap.size w3 w4 from (Below.refl _ _).drew.trans hBx)
         have HF4 := Lib.hid (HF3.out.new (Fw.of_below (S := fun _ => False) HB4.out) (fun _ e => e.elim))
         have HW_4 := Lib.hid (HW_3.out.later HB4.out)
         have HM_4 := Lib.hid (HM_3.out.later HB4.out)
         rw [hs]
         clear hBx
         refine hK.out _ _ ?_ (fun hHeldN => ?_)
         · exact ⟨cell_blk HW_4.out.wk rfl, HS.out _ HF4.out⟩
         clear hK K hHeld
         have hHeld := hHeldN
         clear hHeldN
         try simp only [Act.put, List.setIfInBounds_toArray, List.set_cons_zero, List.set_cons_succ]
         refine wpAnyH_ready (rs := [10]) (by kernel_rfl) (by simp) ?_
         refine rdy rfl (fun K hK => ?_) AllReadyH.nil
         go_simp
         refine (smust_yes 10 _).mono ?_
         rintro z w5 ⟨rfl, rfl⟩
         refine hK.out _ _ ?_ (fun hHeldN => ?_)
         · exact ⟨cell_blk HW_4.out.wk rfl, HS.out _ HF4.out⟩
         clear hK K hHeld
         have hHeld := hHeldN
         clear hHeldN
         try simp only [Act.put, List.setIfInBounds_toArray, List.set_cons_zero, List.set_cons_succ]
         refine wpAnyH_done (by kernel_rfl) ?_ _
         clear hHeld
         go_wp2_with fail
         go_end0
         exact .ok HR.out HW_4.out HM_4.out (HF0.out.trans HF4.out)

end Go.Proofs.YtihmibggonffdaaGreat
