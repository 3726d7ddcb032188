/- What is asked of statements. -/
import Derived.Test.YtihmibggonffdaaGreatK1
import Derived.Test.YtihmibggonffdaaGreatD2
namespace Go.Proofs.YtihmibggonffdaaGreat
open Go.RowKit

theorem infoSt : (Tryz.prog.info? 45).map (·.size) = some 16 := by kernel_rfl
set_option maxRecDepth 100000 in
set_option maxHeartbeats 12800000 in
theorem stmt_any (y : St) (ih : StmtsTo y.size) (x : Prg) (s : PrgP) (fn : Fnc) (f : List UInt8 → Nat) (t : Plc) (b o N : Nat) (w : World) (h : PlOk w N x s fn f t) (hy : y.At w N b o) (hb : b < N) (htd : t.deep ≤ 65) (hta : t.ar.length ≤ t.deep) :
   Calls Tryz.prog 86 #[t.v, .pointer (some ⟨b, o, none⟩)] w (Chk (y.chk x fn f t.fi t.deep t.ar) w) := by
 obtain ⟨W0, hW0, k0, hB0, hz0⟩ := one_alloc w t.obj
 have hNw := h.hN
 have hbN : b < w.heap.size := Nat.lt_of_lt_of_le hb h.hN
 obtain ⟨sy, hcy, hok⟩ := hy.open
 have HU := Lib.hid (fun (W : World) (hB : Below W0.heap.size W0 W) => show Below w.heap.size w W from hB0.trans (hB.mono (by omega)))
 have HS := Lib.hid (fun (W : World) (hB : Below w.heap.size w W) => show W.cell? ⟨b, o, none⟩ = some (.int .i64 y.kind) ∧ W.cell? ⟨b, o + 1, none⟩ = some (.string (str y.name)) from
   ⟨(hB.cell (p := ⟨b, o, none⟩) hbN).trans (hcy 0 _ rfl), (hB.cell (p := ⟨b, o + 1, none⟩) hbN).trans (hcy 1 _ rfl)⟩)
 obtain ⟨A, hA⟩ : ∃ A, y.cells sy = A := ⟨_, rfl⟩
 have HSz := Lib.hid (show A.size = 16 by rw [← hA]; rfl)
 have HI := Lib.hid (infoSt.trans (by rw [HSz.out]) : (Tryz.prog.info? 45).map (·.size) = some A.size)
 have HRg := Lib.hid (fun (W : World) (hB : Below w.heap.size w W) => show W.rangeAt b o A.toList from fun j v hv => (hB.cell (p := ⟨b, o + j, none⟩) hbN).trans (hcy j v (by rw [hA, ← Array.getElem?_toList]; exact hv)))
 have HOw := Lib.hid (fun (W : World) => hasOwn_any y sy W)
 rw [hA] at HOw
 have HP := Lib.hid (fun (W : World) (hB : Below W0.heap.size W0 W) => Plc.cells ((hB.block _ (lt_blk k0)).trans k0))
 have HSet := Lib.hid (fun (W : World) (hB : Below w.heap.size w W) => set_any x s fn f t y.name N W (h.later hB))
 have HArr := Lib.hid (fun (W : World) (hB : Below w.heap.size w W) => array_any x s fn f t y.name N W (h.later hB))
 have HLp := Lib.hid (fun (W : World) (hB : Below w.heap.size w W) => loop_any x s fn f t y b o N W (h.later hB) (St.At.later (hB.mono hNw) (Nat.le_refl N) y b o hb hy) hb)
 have HCa := Lib.hid (fun (W : World) (hB : Below w.heap.size w W) => call_any x s fn f t y b o N W (h.later hB) (St.At.later (hB.mono hNw) (Nat.le_refl N) y b o hb hy) hb)
 have HPa := Lib.hid (fun (W : World) (hB : Below w.heap.size w W) (h64 : t.deep ≤ 64) => parts_any y ih x s fn f t b o N W (h.later hB) (St.At.later (hB.mono hNw) (Nat.le_refl N) y b o hb hy) hb h64 hta)
 have HW0 := Lib.hid hW0
 have HEq := Lib.hid (St.chk_eq x fn f t.fi y t.deep t.ar)
 generalize y.chk x fn f t.fi t.deep t.ar = RR at HEq ⊢
 have HNo := Lib.hid (fun (w' : World) (r : Nat) (hr : RR = r) (h0 : r ≠ 0) (hB : Below w.heap.size w w') => show Chk RR w (Pn (r : Int)) w' from Chk.no' hr h0 hB)
 have HOK := Lib.hid (fun (w' : World) (hr : RR = 0) (hB : Below w.heap.size w w') => show Chk RR w (.returned (.tuple #[])) w' from .ok hr hB)
 have HB0 := Lib.hid hB0
 obtain ⟨c0, c1, c2, c3, c4⟩ := Plc.cells k0
 unfold Plc.v at HSet HArr HLp HCa HPa ⊢
 unfold Pn at HNo
 unfold Plc.obj at HW0
 obtain ⟨kd, hkd⟩ : ∃ kd, y.kind = kd := ⟨_, rfl⟩
 have HKd := Lib.hid hkd
 rw [hkd] at HS
 clear hW0 k0 hB0 hz0 h hy hb ih hok hcy hkd hA
 go_enter Tryz.func86, Tryz.ntmps86
 go_upto_region 1 with fail
 rw [HW0.out]
 clear HW0
 by_cases hd : t.deep ≤ 64
 rotate_left
 · have HR := Lib.hid (HNo.out W0 12 (by rw [HEq.out, show decide (t.deep ≤ 64) = false from decide_eq_false hd]; rfl) (by decide) HB0.out)
   have hdi : decide ((t.deep : Int) ≤ 64) = false := decide_eq_false (by omega)
   go_wp2_with (go_at_call 79; refine (must_n 12 _).mono ?_; rintro e w' ⟨rfl, rfl⟩; unfold Pn)
   exact ⟨rfl, HR.out⟩
 have R1 := Lib.hid (show RR = seq (ask (ownP y) 9) (seq (headS x fn f t.fi t.ar y) (partsR x fn f t.fi y t.deep t.ar)) by rw [HEq.out, show decide (t.deep ≤ 64) = true from decide_eq_true hd]; rfl)
 have hdi : decide ((t.deep : Int) ≤ 64) = true := decide_eq_true (by omega)
 go_upto_region 2 with (go_at_call 79; refine (must_y 12 _).mono ?_; rintro e w' ⟨rfl, rfl⟩)
 clear hdi HEq c0 c1 c2 c3 c4
 have HR0 := Lib.hid (HRg.out _ HB0.out)
 go_wp2_with (refine wpl_load rfl 45 _ rfl b o rfl A _ HR0.out Tryz.underlying45 rfl HI.out ?_)
 refine (HOw.out W0).mono ?_
 rintro z w1 ⟨rfl, hB1⟩
 have HB1 := Lib.hid (show Below W0.heap.size W0 w1 from hB1)
 clear hB1
 obtain ⟨q, hq⟩ : ∃ q, ownP y = q := ⟨_, rfl⟩
 rw [hq]
 have HQ := Lib.hid hq
 cases q with
 | false =>
   have HR := Lib.hid (HNo.out w1 9 (by rw [R1.out, hq]; rfl) (by decide) (HU.out _ HB1.out))
   clear hq
   go_wp2_with (go_at_call 79; refine (must_n 9 _).mono ?_; rintro e w' ⟨rfl, rfl⟩; unfold Pn)
   exact ⟨rfl, HR.out⟩
 | true =>
   have R2 := Lib.hid (show RR = seq (headS x fn f t.fi t.ar y) (partsR x fn f t.fi y t.deep t.ar) by rw [R1.out, hq]; rfl)
   clear hq
   go_upto_region 3 with (go_at_call 79; refine (must_y 9 _).mono ?_; rintro e w' ⟨rfl, rfl⟩)
   obtain ⟨s0, s1⟩ := HS.out _ (HU.out _ HB1.out)
   obtain ⟨c0, c1, c2, c3, c4⟩ := HP.out _ HB1.out
   by_cases k1 : kd = 1
   · subst k1
     have HH := Lib.hid (show headS x fn f t.fi t.ar y = setR x fn f y.name from by unfold headS; rw [HKd.out, if_pos rfl]; try rfl)
     go_wp2_with fail
     go_still_tail 5, (by kernel_rfl)
     change wpList _ _ _ _ _ (World.drew _)
     go_wp2_with fail
     refine (HSet.out _ (HU.out _ HB1.out.drew)).mono ?_
     intro z w2 hc
     clear c0 c1 c2 c3 c4 s0 s1
     rcases hc with ⟨r1, hB2⟩ | ⟨r1, hB2⟩
     rotate_left
     · have HR := Lib.hid (HNo.out w2 _ (by rw [R2.out, HH.out]; exact seq_no r1) r1 ((HU.out _ HB1.out.drew).trans (hB2.mono (HU.out _ HB1.out.drew).size)))
       unfold Pn
       clear hB2 r1
       go_wp2_with fail
       exact ⟨rfl, HR.out⟩
     have R3 := Lib.hid (show RR = partsR x fn f t.fi y t.deep t.ar by rw [R2.out, HH.out]; exact seq_ok r1)
     have HB2 := Lib.hid (show Below W0.heap.size W0 w2 from HB1.out.drew.trans (hB2.mono HB1.out.drew.size))
     clear hB2 r1
     obtain ⟨c0, c1, c2, c3, c4⟩ := HP.out _ HB2.out
     obtain ⟨s0, s1⟩ := HS.out _ (HU.out _ HB2.out)
     go_wp2_with fail
     refine (HPa.out _ (HU.out _ HB2.out) hd).mono ?_
     intro z w3 hc
     clear c0 c1 c2 c3 c4 s0 s1
     rcases hc with ⟨r1, hB3⟩ | ⟨r1, hB3⟩
     · have HR := Lib.hid (HOK.out w3 (by rw [R3.out]; exact r1) ((HU.out _ HB2.out).trans (hB3.mono (HU.out _ HB2.out).size)))
       clear hB3 r1
       go_wp2_with fail
       go_end0
       exact HR.out
     · have HR := Lib.hid (HNo.out w3 _ R3.out r1 ((HU.out _ HB2.out).trans (hB3.mono (HU.out _ HB2.out).size)))
       unfold Pn
       clear hB3 r1
       go_wp2_with fail
       exact ⟨rfl, HR.out⟩
   by_cases k2 : kd = 2
   · subst k2
     have HH := Lib.hid (show headS x fn f t.fi t.ar y = arrayR x fn y.name from by unfold headS; rw [HKd.out, if_neg (show ¬ (2 : Int) = 1 by decide), if_pos rfl]; try rfl)
     go_wp2_with fail
     go_still_tail 5, (by kernel_rfl)
     change wpList _ _ _ _ _ (World.drew _)
     go_wp2_with fail
     refine (HArr.out _ (HU.out _ HB1.out.drew)).mono ?_
     intro z w2 hc
     clear c0 c1 c2 c3 c4 s0 s1
     rcases hc with ⟨r1, hB2⟩ | ⟨r1, hB2⟩
     rotate_left
     · have HR := Lib.hid (HNo.out w2 _ (by rw [R2.out, HH.out]; exact seq_no r1) r1 ((HU.out _ HB1.out.drew).trans (hB2.mono (HU.out _ HB1.out.drew).size)))
       unfold Pn
       clear hB2 r1
       go_wp2_with fail
       exact ⟨rfl, HR.out⟩
     have R3 := Lib.hid (show RR = partsR x fn f t.fi y t.deep t.ar by rw [R2.out, HH.out]; exact seq_ok r1)
     have HB2 := Lib.hid (show Below W0.heap.size W0 w2 from HB1.out.drew.trans (hB2.mono HB1.out.drew.size))
     clear hB2 r1
     obtain ⟨c0, c1, c2, c3, c4⟩ := HP.out _ HB2.out
     obtain ⟨s0, s1⟩ := HS.out _ (HU.out _ HB2.out)
     go_wp2_with fail
     refine (HPa.out _ (HU.out _ HB2.out) hd).mono ?_
     intro z w3 hc
     clear c0 c1 c2 c3 c4 s0 s1
     rcases hc with ⟨r1, hB3⟩ | ⟨r1, hB3⟩
     · have HR := Lib.hid (HOK.out w3 (by rw [R3.out]; exact r1) ((HU.out _ HB2.out).trans (hB3.mono (HU.out _ HB2.out).size)))
       clear hB3 r1
       go_wp2_with fail
       go_end0
       exact HR.out
     · have HR := Lib.hid (HNo.out w3 _ R3.out r1 ((HU.out _ HB2.out).trans (hB3.mono (HU.out _ HB2.out).size)))
       unfold Pn
       clear hB3 r1
       go_wp2_with fail
       exact ⟨rfl, HR.out⟩
   by_cases k5 : kd = 5
   · subst k5
     have HH := Lib.hid (show headS x fn f t.fi t.ar y = loopR x fn t y from by unfold headS; rw [HKd.out, if_neg (show ¬ (5 : Int) = 1 by decide), if_neg (show ¬ (5 : Int) = 2 by decide), if_pos rfl]; try rfl)
     go_wp2_with fail
     refine (HLp.out _ (HU.out _ HB1.out)).mono ?_
     intro z w2 hc
     clear c0 c1 c2 c3 c4 s0 s1
     rcases hc with ⟨r1, hB2⟩ | ⟨r1, hB2⟩
     rotate_left
     · have HR := Lib.hid (HNo.out w2 _ (by rw [R2.out, HH.out]; exact seq_no r1) r1 ((HU.out _ HB1.out).trans (hB2.mono (HU.out _ HB1.out).size)))
       unfold Pn
       clear hB2 r1
       go_wp2_with fail
       exact ⟨rfl, HR.out⟩
     have R3 := Lib.hid (show RR = partsR x fn f t.fi y t.deep t.ar by rw [R2.out, HH.out]; exact seq_ok r1)
     have HB2 := Lib.hid (show Below W0.heap.size W0 w2 from HB1.out.trans (hB2.mono HB1.out.size))
     clear hB2 r1
     obtain ⟨c0, c1, c2, c3, c4⟩ := HP.out _ HB2.out
     obtain ⟨s0, s1⟩ := HS.out _ (HU.out _ HB2.out)
     go_wp2_with fail
     refine (HPa.out _ (HU.out _ HB2.out) hd).mono ?_
     intro z w3 hc
     clear c0 c1 c2 c3 c4 s0 s1
     rcases hc with ⟨r1, hB3⟩ | ⟨r1, hB3⟩
     · have HR := Lib.hid (HOK.out w3 (by rw [R3.out]; exact r1) ((HU.out _ HB2.out).trans (hB3.mono (HU.out _ HB2.out).size)))
       clear hB3 r1
       go_wp2_with fail
       go_end0
       exact HR.out
     · have HR := Lib.hid (HNo.out w3 _ R3.out r1 ((HU.out _ HB2.out).trans (hB3.mono (HU.out _ HB2.out).size)))
       unfold Pn
       clear hB3 r1
       go_wp2_with fail
       exact ⟨rfl, HR.out⟩
   by_cases k6 : kd = 6
   · subst k6
     have HH := Lib.hid (show headS x fn f t.fi t.ar y = callR x fn f t y from by unfold headS; rw [HKd.out, if_neg (show ¬ (6 : Int) = 1 by decide), if_neg (show ¬ (6 : Int) = 2 by decide), if_neg (show ¬ (6 : Int) = 5 by decide), if_pos rfl]; try rfl)
     go_wp2_with fail
     refine (HCa.out _ (HU.out _ HB1.out)).mono ?_
     intro z w2 hc
     clear c0 c1 c2 c3 c4 s0 s1
     rcases hc with ⟨r1, hB2⟩ | ⟨r1, hB2⟩
     rotate_left
     · have HR := Lib.hid (HNo.out w2 _ (by rw [R2.out, HH.out]; exact seq_no r1) r1 ((HU.out _ HB1.out).trans (hB2.mono (HU.out _ HB1.out).size)))
       unfold Pn
       clear hB2 r1
       go_wp2_with fail
       exact ⟨rfl, HR.out⟩
     have R3 := Lib.hid (show RR = partsR x fn f t.fi y t.deep t.ar by rw [R2.out, HH.out]; exact seq_ok r1)
     have HB2 := Lib.hid (show Below W0.heap.size W0 w2 from HB1.out.trans (hB2.mono HB1.out.size))
     clear hB2 r1
     obtain ⟨c0, c1, c2, c3, c4⟩ := HP.out _ HB2.out
     obtain ⟨s0, s1⟩ := HS.out _ (HU.out _ HB2.out)
     go_wp2_with fail
     refine (HPa.out _ (HU.out _ HB2.out) hd).mono ?_
     intro z w3 hc
     clear c0 c1 c2 c3 c4 s0 s1
     rcases hc with ⟨r1, hB3⟩ | ⟨r1, hB3⟩
     · have HR := Lib.hid (HOK.out w3 (by rw [R3.out]; exact r1) ((HU.out _ HB2.out).trans (hB3.mono (HU.out _ HB2.out).size)))
       clear hB3 r1
       go_wp2_with fail
       go_end0
       exact HR.out
     · have HR := Lib.hid (HNo.out w3 _ R3.out r1 ((HU.out _ HB2.out).trans (hB3.mono (HU.out _ HB2.out).size)))
       unfold Pn
       clear hB3 r1
       go_wp2_with fail
       exact ⟨rfl, HR.out⟩
   have R3 := Lib.hid (show RR = partsR x fn f t.fi y t.deep t.ar by rw [R2.out]; unfold headS; rw [HKd.out, if_neg k1, if_neg k2, if_neg k5, if_neg k6]; exact seq_ok rfl)
   have e1 : (kd == 1) = false := by simp [k1]
   have e2 : (kd == 2) = false := by simp [k2]
   have e5 : (kd == 5) = false := by simp [k5]
   have e6 : (kd == 6) = false := by simp [k6]
   have HB2 := HB1
   clear c0 c1 c2 c3 c4 s0 s1
   obtain ⟨c0, c1, c2, c3, c4⟩ := HP.out _ HB2.out
   obtain ⟨s0, s1⟩ := HS.out _ (HU.out _ HB2.out)
   go_wp2_with fail
   refine (HPa.out _ (HU.out _ HB2.out) hd).mono ?_
   intro z w3 hc
   clear c0 c1 c2 c3 c4 s0 s1
   rcases hc with ⟨r1, hB3⟩ | ⟨r1, hB3⟩
   · have HR := Lib.hid (HOK.out w3 (by rw [R3.out]; exact r1) ((HU.out _ HB2.out).trans (hB3.mono (HU.out _ HB2.out).size)))
     clear hB3 r1
     go_wp2_with fail
     go_end0
     exact HR.out
   · have HR := Lib.hid (HNo.out w3 _ R3.out r1 ((HU.out _ HB2.out).trans (hB3.mono (HU.out _ HB2.out).size)))
     unfold Pn
     clear hB3 r1
     go_wp2_with fail
     exact ⟨rfl, HR.out⟩
set_option maxRecDepth 100000 in
set_option maxHeartbeats 6400000 in
theorem stmts_step (m : Nat) (ih : StmtsTo m) : StmtsTo (m + 1) := by
 intro l hlm x s fn f t p c N w h hl htd hta
 obtain ⟨W0, hW0, k0, hB0, hz0⟩ := one_alloc w t.obj
 have hNw := h.hN
 have hm := hl.1
 obtain ⟨b, o, hp, hb, ha⟩ : ∃ b o, (l.len = 0 ∨ p = some ⟨b, o, none⟩) ∧ (b < N ∨ l.len = 0) ∧ l.At w N b o := by
   rcases hl.2 with h0 | ⟨b, o, hp, hb, ha⟩
   · exact ⟨0, 0, .inl h0, .inr h0, by cases l with | nil => trivial | cons => simp [Sts.len] at h0⟩
   · exact ⟨b, o, .inr hp, .inl hb, ha⟩
 have HA := Lib.hid (And.intro ha hb)
 have HU := Lib.hid (fun (W : World) (hB : Below W0.heap.size W0 W) => show Below w.heap.size w W from hB0.trans (hB.mono (by omega)))
 have HP := Lib.hid (fun (W : World) (hB : Below W0.heap.size W0 W) => Plc.cells ((hB.block _ (lt_blk k0)).trans k0))
 have HSt := Lib.hid (fun (W : World) (z : St) (oo : Nat) (hB : Below w.heap.size w W) (hzm : z.size ≤ m) (hz : z.At w N b oo) (hbb : b < N) => stmt_any z (fun l' hl' => ih l' (by omega)) x s fn f t b oo N W (h.later hB) (St.At.later (hB.mono hNw) (Nat.le_refl N) z b oo hbb hz) hbb htd hta)
 have HW0 := Lib.hid hW0
 obtain ⟨RR, hRR⟩ : ∃ RR, l.chk x fn f t.fi t.deep t.ar = RR := ⟨_, rfl⟩
 have HEq := Lib.hid hRR
 rw [hRR]
 have HNo := Lib.hid (fun (w' : World) (r : Nat) (hr : RR = r) (h0 : r ≠ 0) (hB : Below w.heap.size w w') => show Chk RR w (Pn (r : Int)) w' from Chk.no' hr h0 hB)
 have HOK := Lib.hid (fun (w' : World) (hr : RR = 0) (hB : Below w.heap.size w w') => show Chk RR w (.returned (.tuple #[])) w' from .ok hr hB)
 unfold Plc.v at HSt ⊢
 unfold Pn at HNo
 unfold Plc.obj at HW0
 clear hW0 k0 hB0 hz0 h ih hl hb ha hRR
 go_enter Tryz.func57, Tryz.ntmps57
 go_upto_region 1 with fail
 rw [HW0.out]
 clear HW0
 go_wp2_with fail
 go_loopw [7] (fun i wr => ∃ (k : Nat) (r : Sts), i = .int .i64 k ∧ k + r.len = l.len ∧ r.size ≤ m ∧ Hid (r.At w N b (o + k * 16)) ∧ Hid (Below W0.heap.size W0 wr) ∧ Hid (RR = r.chk x fn f t.fi t.deep t.ar)) (fun i _ => l.len - (intOf i).toNat)
 case atStart => exact ⟨0, l, rfl, by omega, by omega, Lib.hid (by rw [Nat.zero_mul]; exact HA.out.1), Lib.hid (Below.refl _ _), Lib.hid HEq.out.symm⟩
 case round =>
   obtain ⟨k, r, rfl, hk, hrs, hr, hB, hE⟩ := hrel
   cases r with
   | nil =>
     simp only [Sts.len] at hk
     have hge : ¬ k < l.len := by omega
     have HR := Lib.hid (HOK.out wr (by rw [hE.out, Sts.chk]) (HU.out _ hB.out))
     go_wp2_with fail
     go_end0
     exact HR.out
   | cons y r =>
     obtain ⟨hy, hr'⟩ := hr.out
     simp only [Sts.len] at hk
     simp only [Sts.size] at hrs
     have hlt : k < l.len := by omega
     rcases hp with h0 | rfl
     · omega
     have HR := Lib.hid hr'
     obtain ⟨c0, c1, c2, c3, c4⟩ := HP.out _ hB.out
     have HC := Lib.hid (HSt.out wr.drew y (o + k * 16) (HU.out _ hB.out.drew) (by omega) hy (by have := HA.out.2; omega))
     clear hy hr hr'
     go_wp2_with fail
     go_still_tail 4, (by kernel_rfl)
     change wpList _ _ _ _ _ (World.drew _)
     go_wp2_with fail
     refine HC.out.mono ?_
     intro z w2 hc
     clear c0 c1 c2 c3 c4
     rcases hc with ⟨r1, hB2⟩ | ⟨r1, hB2⟩
     rotate_left
     · have HR := Lib.hid (HNo.out w2 _ (by rw [hE.out, Sts.chk]; exact seq_no r1) r1 (HU.out _ (hB.out.drew.trans (hB2.mono hB.out.size))))
       unfold Pn
       clear hB2 r1
       go_wp2_with fail
       exact ⟨rfl, HR.out⟩
     have HE2 := Lib.hid (show RR = r.chk x fn f t.fi t.deep t.ar by rw [hE.out, Sts.chk]; exact seq_ok r1)
     have HB2 := Lib.hid (hB.out.drew.trans (hB2.mono hB.out.size))
     clear hB2 r1
     go_wp2_with fail
     go_roundw
     case rel => exact ⟨k + 1, r, by go_num, by omega, by omega, Lib.hid (by rw [show o + (k + 1) * 16 = o + k * 16 + 16 by omega]; exact HR.out), HB2, HE2⟩
     case measure => simp [intOf]; omega
theorem stmts_to : ∀ n, StmtsTo n
 | 0 => fun _ h => absurd h (Nat.not_lt_zero _)
 | n + 1 => stmts_step n (stmts_to n)
end Go.Proofs.YtihmibggonffdaaGreat
