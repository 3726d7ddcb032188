/- J7, QA, Q0, D2 as one. -/
import Derived.Test.YtihmibggonffdaaGreatF1
import Derived.Test.YtihmibggonffdaaGreatJ6
import Derived.Test.YtihmibggonffdaaGreatE5
import Derived.Test.YtihmibggonffdaaGreatH2
import Derived.Deep.RegionHeld
import Derived.Deep.RegionHeld3
import Derived.WalkMore
import Derived.Deep.CutBlock
import Derived.Deep.CutRange
import Derived.Outline
import Derived.Test.YtihmibggonffdaaGreatM3
import Derived.Deep.MidRow
import Derived.Deep.RegionLaw
/- What is asked of an expression. -/
namespace Go.Proofs.YtihmibggonffdaaGreat
open Go.RowKit

def argsN (op : Int) : Int := if op < 1 ∨ 21 < op then -1 else if op ≤ 2 then 0 else if op ≤ 5 then 1 else if op ≤ 20 then 2 else 3
theorem argsOf_any (op : Int) (w : World) : Calls Tryz.prog 139 #[.int .i64 op] w fun z w' => z = .returned (.int .i64 (argsN op)) ∧ w = w' := by
 unfold argsN
 by_cases h1 : op < 1
 · have e : decide (op < 1) = true := decide_eq_true h1
   rw [if_pos (.inl h1)]
   go_enter Tryz.func139, Tryz.ntmps139
   go_wp2_with fail
   go_ret
   exact ⟨rfl, rfl⟩
 by_cases h2 : 21 < op
 · have e : decide (op < 1) = false := decide_eq_false h1
   rw [if_pos (.inr h2)]
   go_enter Tryz.func139, Tryz.ntmps139
   go_wp2_with fail
   go_ret
   exact ⟨rfl, rfl⟩
 rw [if_neg (by omega)]
 by_cases h3 : op ≤ 2
 · rw [if_pos h3]
   go_enter Tryz.func139, Tryz.ntmps139
   go_wp2_with fail
   go_ret
   exact ⟨rfl, rfl⟩
 rw [if_neg h3]
 by_cases h4 : op ≤ 5
 · rw [if_pos h4]
   go_enter Tryz.func139, Tryz.ntmps139
   go_wp2_with fail
   go_ret
   exact ⟨rfl, rfl⟩
 rw [if_neg h4]
 by_cases h5 : op ≤ 20
 · rw [if_pos h5]
   go_enter Tryz.func139, Tryz.ntmps139
   go_wp2_with fail
   go_ret
   exact ⟨rfl, rfl⟩
 · rw [if_neg h5]
   go_enter Tryz.func139, Tryz.ntmps139
   go_wp2_with fail
   go_ret
   exact ⟨rfl, rfl⟩
def shapeB (e : Ex) : Bool := (((e.args.len : Nat) : Int) == argsN e.op) && ((((e.word : Nat) : Int) == 0) || (e.op == 1))
def headR (x : Prg) (fn : Fnc) (e : Ex) : Nat := if e.op = 2 then wordR x fn e.name else if e.op = 3 then arrayR x fn e.name else ask e.name.isEmpty 9
mutual
def Ex.chk (x : Prg) (fn : Fnc) : Ex → Nat → Nat
 | .mk op wd nm a, deep => seq (ask (decide (deep ≤ 64)) 12) (seq (ask (shapeB (.mk op wd nm a)) 9) (seq (headR x fn (.mk op wd nm a)) (a.chk x fn (deep + 1))))
def Exs.chk (x : Prg) (fn : Fnc) : Exs → Nat → Nat
 | .nil, _ => 0
 | .cons e r, deep => seq (e.chk x fn deep) (r.chk x fn deep)
end
theorem Ex.chk_eq (x : Prg) (fn : Fnc) (e : Ex) (deep : Nat) : e.chk x fn deep = seq (ask (decide (deep ≤ 64)) 12) (seq (ask (shapeB e) 9) (seq (headR x fn e) (e.args.chk x fn (deep + 1)))) := by
 obtain ⟨op, wd, nm, ar⟩ := e; rw [Ex.chk]; rfl
def Plc.down (t : Plc) : Plc := { t with deep := t.deep + 1 }
theorem PlOk.down {w : World} {N : Nat} {x : Prg} {s : PrgP} {fn : Fnc} {f : List UInt8 → Nat} {t : Plc} (h : PlOk w N x s fn f t) : PlOk w N x s fn f t.down := ⟨h.pb, h.ok, h.fi, h.mp, h.ar, h.cap, h.hN⟩
theorem down_obj {W : World} {g : Nat} {t : Plc} (k : W.heap[g]? = some t.obj) : (W.setCell ⟨g, 4, none⟩ (.int .i64 ((t.deep : Int) + 1))).heap[g]? = some t.down.obj := by
 unfold Plc.obj at k
 have hc : ((t.deep + 1 : Nat) : Int) = (t.deep : Int) + 1 := by omega
 unfold Plc.obj Plc.down
 simp only [hc]
 rw [setCell_eq_setRow W g 4 _ 113 (0, 0) _ k]
 exact setRow_heap W g _ _ 113 (0, 0) k
theorem must_y (e : Int) (w : World) : Calls Tryz.prog 79 #[.bool true, .int .i64 e] w fun z w' => z = .returned (.tuple #[]) ∧ w = w' := (must_yes e w).mono fun _ _ h => ⟨h.1, h.2.symm⟩
theorem must_n (e : Int) (w : World) : Calls Tryz.prog 79 #[.bool false, .int .i64 e] w fun z w' => z = Pn e ∧ w = w' := (must_no e w).mono fun _ _ h => ⟨h.1, h.2.symm⟩
def ExprTo (m : Nat) : Prop := ∀ (e : Ex), e.size < m → ∀ (x : Prg) (s : PrgP) (fn : Fnc) (f : List UInt8 → Nat) (t : Plc) (b o N : Nat) (w : World), PlOk w N x s fn f t → e.At w N b o → b < N → t.deep ≤ 1000 →
   Calls Tryz.prog 134 #[t.v, .pointer (some ⟨b, o, none⟩)] w (Chk (e.chk x fn t.deep) w)
set_option maxRecDepth 100000 in
set_option maxHeartbeats 12800000 in
theorem expr_step (m : Nat) (ih : ExprTo m) : ExprTo (m + 1) := by
 intro e hem x s fn f t b o N w h he hb htd
 obtain ⟨W0, hW0, k0, hB0, hz0⟩ := one_alloc w t.obj
 have h0 := h.later hB0
 have hNw := h.hN
 have hbN : b < w.heap.size := Nat.lt_of_lt_of_le hb h.hN
 obtain ⟨pa, ca, g0, g1, g2, g3, hok⟩ := he.open'
 have hsz : e.args.size + 1 = e.size := by obtain ⟨op, wd, nm, ar⟩ := e; rw [Ex.size]; rfl
 have HU := Lib.hid (fun (W : World) (hB : Below W0.heap.size W0 W) => show Below w.heap.size w W from hB0.trans (hB.mono (by omega)))
 have HS := Lib.hid (fun (W : World) (hB : Below w.heap.size w W) => show W.cell? ⟨b, o, none⟩ = some (.int .i64 e.op) ∧ W.cell? ⟨b, o + 1, none⟩ = some (.int .u64 (e.word : Int)) ∧ W.cell? ⟨b, o + 2, none⟩ = some (.string (str e.name)) ∧ W.cell? ⟨b, o + 3, none⟩ = some (.slice pa e.args.len ca) from
   ⟨(hB.cell (p := ⟨b, o, none⟩) hbN).trans g0, (hB.cell (p := ⟨b, o + 1, none⟩) hbN).trans g1, (hB.cell (p := ⟨b, o + 2, none⟩) hbN).trans g2, (hB.cell (p := ⟨b, o + 3, none⟩) hbN).trans g3⟩)
 have HK := Lib.hid (fun (W : World) (hB : Below W0.heap.size W0 W) => show W.heap[w.heap.size]? = some t.obj from (hB.block _ (lt_blk k0)).trans k0)
 have HPl := Lib.hid (fun (W : World) (hB : Below w.heap.size w W) => h.later hB)
 have HWd := Lib.hid (fun (W : World) (hB : Below W0.heap.size W0 W) => word_any x s fn f t e.name N W (h0.later hB))
 have HAr := Lib.hid (fun (W : World) (hB : Below W0.heap.size W0 W) => array_any x s fn f t e.name N W (h0.later hB))
 have HW0 := Lib.hid hW0
 have HNo := Lib.hid (fun (w' : World) (r : Nat) (hr : e.chk x fn t.deep = r) (h0 : r ≠ 0) (hB : Below w.heap.size w w') => show Chk (e.chk x fn t.deep) w (Pn (r : Int)) w' from Chk.no' hr h0 hB)
 have HOK := Lib.hid (fun (w' : World) (hr : e.chk x fn t.deep = 0) (hB : Below w.heap.size w w') => show Chk (e.chk x fn t.deep) w (.returned (.tuple #[])) w' from .ok hr hB)
 have HEq := Lib.hid (Ex.chk_eq x fn e t.deep)
 have IH := Lib.hid ih
 have hma := hok.1.1
 obtain ⟨b2, o2, hq2, hb2, ha2⟩ : ∃ b2 o2, (e.args.len = 0 ∨ pa = some ⟨b2, o2, none⟩) ∧ (b2 < N ∨ e.args.len = 0) ∧ e.args.At w N b2 o2 := by
   rcases hok.1.2 with h0 | ⟨b, o, hp, hb, ha⟩
   · exact ⟨0, 0, .inl h0, .inr h0, by cases hxa : e.args with | nil => trivial | cons => rw [hxa] at h0; simp [Exs.len] at h0⟩
   · exact ⟨b, o, .inr hp, .inl hb, ha⟩
 have HA2 := Lib.hid (And.intro ha2 hb2)
 have HZ0 := Lib.hid hz0
 have HB0 := Lib.hid hB0
 obtain ⟨c0, c1, c2, c3, c4⟩ := Plc.cells k0
 unfold Plc.v at HWd HAr ⊢
 unfold Pn at HNo
 unfold Plc.obj at HW0
 clear h0 hW0 k0 hB0 hz0 h he hb ih g0 g1 g2 g3 hok hb2 ha2
 go_enter Tryz.func134, Tryz.ntmps134
 go_upto_region 1 with fail
 rw [HW0.out]
 clear HW0
 by_cases hd : t.deep ≤ 64
 rotate_left
 · have HR := Lib.hid (HNo.out W0 12 (by rw [HEq.out, show decide (t.deep ≤ 64) = false from decide_eq_false hd]; rfl) (by decide) HB0.out)
   have hdi : decide ((t.deep : Int) ≤ 64) = false := decide_eq_false (by omega)
   go_wp2_with (go_at_call 79; refine (must_n 12 _).mono ?_; rintro e w' ⟨rfl, rfl⟩; unfold Pn)
   exact ⟨rfl, HR.out⟩
 have R1 := Lib.hid (show e.chk x fn t.deep = seq (ask (shapeB e) 9) (seq (headR x fn e) (e.args.chk x fn (t.deep + 1))) by rw [HEq.out, show decide (t.deep ≤ 64) = true from decide_eq_true hd]; rfl)
 have hdi : decide ((t.deep : Int) ≤ 64) = true := decide_eq_true (by omega)
 obtain ⟨s0, s1, s2, s3⟩ := HS.out _ HB0.out
 go_upto_region 2 with (go_at_call 79; refine (must_y 12 _).mono ?_; rintro e w' ⟨rfl, rfl⟩)
 go_cut [] from 9 to 34 (fun wx => Hid (wx = W0.drew) ∧ Hid (shapeB e = true))
 case first =>
   have HT := Lib.hid (show ((((e.args.len : Nat) : Int) == argsN e.op) && ((((e.word : Nat) : Int) == 0) || (e.op == 1))) = shapeB e from rfl)
   have HAg := Lib.hid (argsOf_any e.op)
   generalize e1 : (((e.args.len : Nat) : Int) == argsN e.op) = t1 at HT
   generalize e2 : (((e.word : Nat) : Int) == 0) = t2 at HT
   generalize e3 : (e.op == 1) = t3 at HT
   generalize argsN e.op = an at e1 HAg
   refine wp_region_held_drew (S := fun W => W.cell? ⟨b, o, none⟩ = some (.int .i64 e.op) ∧ W.cell? ⟨b, o + 1, none⟩ = some (.int .u64 (e.word : Int)) ∧ W.cell? ⟨b, o + 3, none⟩ = some (.slice pa e.args.len ca)) (by kernel_rfl) ?_ (fun hHeld => ?_)
   · exact ⟨s0, s1, s3⟩
   refine tq 0 ?_
   refine tq 1 ?_
   refine tq 2 ?_
   refine tq 3 ?_
   refine tq 4 ?_
   refine tq 5 ?_
   refine tq 6 ?_
   refine tq 7 ?_
   refine tq 8 ?_
   refine wpAnyH_ready (rs := [9]) (by kernel_rfl) (by simp) ?_
   refine rdy rfl (fun K hK => ?_) AllReadyH.nil
   go_simp
   refine (HAg.out _).mono ?_
   rintro z w2 ⟨rfl, hw⟩
   subst hw
   refine hK.out _ _ ?_ (fun hHeld => ?_)
   · exact ⟨s0, s1, s3⟩
   clear hK K
   try simp only [Act.put, List.setIfInBounds_toArray, List.set_cons_zero, List.set_cons_succ]
   refine tq 10 ?_
   refine tq 11 ?_
   cases t1
   · refine sq 12 ?_
     refine sq 13 ?_
     refine sq 14 ?_
     refine sq 15 ?_
     refine sq 16 ?_
     refine sq 17 ?_
     refine sq 18 ?_
     refine sq 19 ?_
     refine sq 20 ?_
     refine sq 21 ?_
     refine sq 22 ?_
     refine sq 23 ?_
     refine tq 24 ?_
     have HR := Lib.hid (HNo.out W0.drew 9 (by rw [R1.out, ← HT.out]; rfl) (by decide) HB0.out.drew)
     refine wpAnyH_ready (rs := [25]) (by kernel_rfl) (by simp) ?_
     refine rdy rfl (fun K hK => ?_) AllReadyH.nil
     go_simp
     refine (must_no 9 _).mono ?_
     rintro e w' ⟨rfl, hw⟩
     subst hw
     unfold Pn
     exact ⟨rfl, HR.out⟩
   refine tq 12 ?_
   refine tq 13 ?_
   refine tq 14 ?_
   refine tq 15 ?_
   refine tq 16 ?_
   refine tq 17 ?_
   cases t2
   rotate_left
   · refine sq 18 ?_
     refine sq 19 ?_
     refine sq 20 ?_
     refine sq 21 ?_
     refine sq 22 ?_
     refine tq 23 ?_
     refine tq 24 ?_
     refine wpAnyH_ready (rs := [25]) (by kernel_rfl) (by simp) ?_
     refine rdy rfl (fun K hK => ?_) AllReadyH.nil
     go_simp
     refine (must_yes 9 _).mono ?_
     rintro e w' ⟨rfl, hw⟩
     subst hw
     refine hK.out _ _ ?_ (fun hHeld => ?_)
     · exact ⟨s0, s1, s3⟩
     clear hK K
     try simp only [Act.put, List.setIfInBounds_toArray, List.set_cons_zero, List.set_cons_succ]
     refine wpAnyH_done (by kernel_rfl) ?_ _
     go_wp2_with fail
     go_meet
     exact ⟨Lib.hid rfl, Lib.hid HT.out.symm⟩
   refine tq 18 ?_
   refine tq 19 ?_
   refine tq 20 ?_
   refine tq 21 ?_
   refine tq 22 ?_
   refine tq 23 ?_
   refine tq 24 ?_
   cases t3
   · have HR := Lib.hid (HNo.out W0.drew 9 (by rw [R1.out, ← HT.out]; rfl) (by decide) HB0.out.drew)
     refine wpAnyH_ready (rs := [25]) (by kernel_rfl) (by simp) ?_
     refine rdy rfl (fun K hK => ?_) AllReadyH.nil
     go_simp
     refine (must_no 9 _).mono ?_
     rintro e w' ⟨rfl, hw⟩
     subst hw
     unfold Pn
     exact ⟨rfl, HR.out⟩
   refine wpAnyH_ready (rs := [25]) (by kernel_rfl) (by simp) ?_
   refine rdy rfl (fun K hK => ?_) AllReadyH.nil
   go_simp
   refine (must_yes 9 _).mono ?_
   rintro e w' ⟨rfl, hw⟩
   subst hw
   refine hK.out _ _ ?_ (fun hHeld => ?_)
   · exact ⟨s0, s1, s3⟩
   clear hK K
   try simp only [Act.put, List.setIfInBounds_toArray, List.set_cons_zero, List.set_cons_succ]
   refine wpAnyH_done (by kernel_rfl) ?_ _
   go_wp2_with fail
   go_meet
   exact ⟨Lib.hid rfl, Lib.hid HT.out.symm⟩
 case rest =>
   obtain ⟨hwx, hsh⟩ := hcut
   rw [hwx.out]
   have R2 := Lib.hid (show e.chk x fn t.deep = seq (headR x fn e) (e.args.chk x fn (t.deep + 1)) by rw [R1.out, hsh.out]; rfl)
   have hwd : IntKind.i64.wrap ((t.deep : Int) + 1) = (t.deep : Int) + 1 := by simp [IntKind.wrap, IntKind.bits, IntKind.signed]; omega
   have HB1 := Lib.hid (show Below W0.heap.size W0 W0.drew from (Below.refl _ _).drew)
   clear hwx hsh R1 HEq hdi
   have HTail := Lib.hid (fun (W : World) (hB : Below W0.heap.size W0 W) => show Below w.heap.size w (W.setCell ⟨w.heap.size, 4, none⟩ (.int .i64 ((t.deep : Int) + 1))) ∧ (W.setCell ⟨w.heap.size, 4, none⟩ (.int .i64 ((t.deep : Int) + 1))).heap[w.heap.size]? = some t.down.obj from
     ⟨(HU.out W hB).setCell (p := ⟨w.heap.size, 4, none⟩) (Nat.le_refl _) _, down_obj (HK.out W hB)⟩)
   have HP := Lib.hid (fun (W : World) (hB : Below W0.heap.size W0 W) => Plc.cells (HK.out W hB))
   generalize W0.drew = wx at HB1 ⊢
   clear s0 s1 s2 s3 c0 c1 c2 c3 c4
   obtain ⟨c0, c1, c2, c3, c4⟩ := HP.out _ HB1.out
   obtain ⟨s0, s1, s2, s3⟩ := HS.out _ (HU.out _ HB1.out)
   by_cases o2' : e.op = 2
   · have e2' : (e.op == 2) = true := by simp [o2']
     have HH := Lib.hid (show headR x fn e = wordR x fn e.name by unfold headR; rw [if_pos o2'])
     clear o2'
     go_wp2_with fail
     go_still_tail 5, (by kernel_rfl)
     change wpList _ _ _ _ _ (World.drew _)
     go_wp2_with fail
     refine (HWd.out _ HB1.out.drew).mono ?_
     intro z w2 hc
     rcases hc with ⟨r1, hB2⟩ | ⟨r1, hB2⟩
     rotate_left
     · have HR := Lib.hid (HNo.out w2 _ (by rw [R2.out, HH.out, seq_no r1]) r1 (HU.out _ (HB1.out.drew.trans (hB2.mono HB1.out.drew.size))))
       unfold Pn
       clear hB2 r1 c0 c1 c2 c3 c4 s0 s1 s2 s3
       go_wp2_with fail
       exact ⟨rfl, HR.out⟩
     have R3 := Lib.hid (show e.chk x fn t.deep = e.args.chk x fn (t.deep + 1) by rw [R2.out, HH.out, r1]; rfl)
     have HB2 := Lib.hid (HB1.out.drew.trans (hB2.mono HB1.out.drew.size))
     clear hB2 r1 c0 c1 c2 c3 c4 s0 s1 s2 s3
     obtain ⟨c0, c1, c2, c3, c4⟩ := HP.out _ HB2.out
     obtain ⟨s0, s1, s2, s3⟩ := HS.out _ (HU.out _ HB2.out)
     have f4 : w2.frozen? ⟨w.heap.size, 4, none⟩ = false := by simp [World.frozen?, show w2.heap[w.heap.size]? = some t.obj from HK.out _ HB2.out, Plc.obj]
     obtain ⟨hBd, hKd⟩ := HTail.out w2 HB2.out
     obtain ⟨Wd, hWd⟩ : ∃ Wd, w2.setCell ⟨w.heap.size, 4, none⟩ (.int .i64 ((t.deep : Int) + 1)) = Wd := ⟨_, rfl⟩
     rw [hWd] at hBd hKd
     have HBd := Lib.hid hBd
     have HKd := Lib.hid hKd
     have HWd := Lib.hid hWd
     have HLd := Lib.hid (show w.heap.size < Wd.heap.size from lt_blk hKd)
     obtain ⟨s0', s1', s2', s3'⟩ := HS.out _ hBd
     clear hBd hKd hWd
     go_upto_region 10 with fail
     rw [HWd.out]
     clear c0 c1 c2 c3 c4 s0 s1 s2 s3 f4 HWd
     go_wp2_with fail
     clear s0' s1' s2' s3'
     go_loopw [70] (fun i wr => ∃ (k : Nat) (r : Exs), i = .int .i64 k ∧ k + r.len = e.args.len ∧ r.size ≤ e.args.size ∧ Hid (r.At w N b2 (o2 + k * 4)) ∧ Hid (Below Wd.heap.size Wd wr) ∧ Hid (e.chk x fn t.deep = r.chk x fn (t.deep + 1))) (fun i _ => e.args.len - (intOf i).toNat)
     case atStart => exact ⟨0, e.args, rfl, by omega, Nat.le_refl _, Lib.hid (by rw [Nat.zero_mul]; exact HA2.out.1), Lib.hid (Below.refl _ _), R3⟩
     case round =>
       obtain ⟨k, r, rfl, hk, hrs, hr, hB, hE⟩ := hrel
       have hBw := HBd.out.trans (hB.out.mono (Nat.le_of_lt HLd.out))
       cases r with
       | nil =>
         simp only [Exs.len] at hk
         have hge : ¬ k < e.args.len := by omega
         have HR := Lib.hid (HOK.out wr (by rw [hE.out, Exs.chk]) hBw)
         clear hBw
         go_wp2_with fail
         go_end0
         exact HR.out
       | cons y r =>
         obtain ⟨hy, hr'⟩ := hr.out
         simp only [Exs.len] at hk
         simp only [Exs.size] at hrs
         have hlt : k < e.args.len := by omega
         have hb2N : b2 < N := by have := HA2.out.2; omega
         have hpa : pa = some ⟨b2, o2, none⟩ := by
           rcases hq2 with h0 | h0
           · omega
           · exact h0
         have HR := Lib.hid hr'
         have kd := (hB.out.block _ HLd.out).trans HKd.out
         obtain ⟨c0, c1, c2, c3, c4⟩ := Plc.cells kd
         obtain ⟨s0, s1, s2, s3⟩ := HS.out _ hBw
         subst hpa
         have HC := Lib.hid (IH.out y (by omega) x s fn f t.down b2 (o2 + k * 4) N wr.drew ((HPl.out _ hBw.drew).down) (Ex.At.later (hBw.drew.mono hNw) (Nat.le_refl N) y b2 _ hb2N hy) hb2N (show t.deep + 1 ≤ 1000 by omega))
         have HBw := Lib.hid hBw
         unfold Plc.v at HC
         clear hy hr hr' kd hBw hb2N
         go_wp2_with fail
         go_still_tail 7, (by kernel_rfl)
         change wpList _ _ _ _ _ (World.drew _)
         go_wp2_with fail
         refine HC.out.mono ?_
         intro z w5 hc
         rcases hc with ⟨r1, hB5⟩ | ⟨r1, hB5⟩
         rotate_left
         · have HR := Lib.hid (HNo.out w5 _ (by rw [hE.out, Exs.chk]; exact seq_no r1) r1 (HBw.out.drew.trans (hB5.mono HBw.out.size)))
           unfold Pn
           clear hB5 r1 c0 c1 c2 c3 c4 s0 s1 s2 s3
           go_wp2_with fail
           exact ⟨rfl, HR.out⟩
         have HE2 := Lib.hid (show e.chk x fn t.deep = r.chk x fn (t.deep + 1) by rw [hE.out, Exs.chk]; exact seq_ok r1)
         have HB5 := Lib.hid (hB.out.drew.trans (hB5.mono hB.out.size))
         clear hB5 r1 c0 c1 c2 c3 c4 s0 s1 s2 s3
         go_wp2_with fail
         go_roundw
         case rel => exact ⟨k + 1, r, by go_num, by omega, by omega, Lib.hid (by rw [show o2 + (k + 1) * 4 = o2 + k * 4 + 4 by omega]; exact HR.out), HB5, HE2⟩
         case measure => simp [intOf]; omega
   have e2' : (e.op == 2) = false := by simp [o2']
   by_cases o3' : e.op = 3
   · have e3' : (e.op == 3) = true := by simp [o3']
     have HH := Lib.hid (show headR x fn e = arrayR x fn e.name by unfold headR; rw [if_neg o2', if_pos o3'])
     clear o2' o3'
     go_wp2_with fail
     go_still_tail 5, (by kernel_rfl)
     change wpList _ _ _ _ _ (World.drew _)
     go_wp2_with fail
     refine (HAr.out _ HB1.out.drew).mono ?_
     intro z w2 hc
     rcases hc with ⟨r1, hB2⟩ | ⟨r1, hB2⟩
     rotate_left
     · have HR := Lib.hid (HNo.out w2 _ (by rw [R2.out, HH.out, seq_no r1]) r1 (HU.out _ (HB1.out.drew.trans (hB2.mono HB1.out.drew.size))))
       unfold Pn
       clear hB2 r1 c0 c1 c2 c3 c4 s0 s1 s2 s3
       go_wp2_with fail
       exact ⟨rfl, HR.out⟩
     have R3 := Lib.hid (show e.chk x fn t.deep = e.args.chk x fn (t.deep + 1) by rw [R2.out, HH.out, r1]; rfl)
     have HB2 := Lib.hid (HB1.out.drew.trans (hB2.mono HB1.out.drew.size))
     clear hB2 r1 c0 c1 c2 c3 c4 s0 s1 s2 s3
     obtain ⟨c0, c1, c2, c3, c4⟩ := HP.out _ HB2.out
     obtain ⟨s0, s1, s2, s3⟩ := HS.out _ (HU.out _ HB2.out)
     have f4 : w2.frozen? ⟨w.heap.size, 4, none⟩ = false := by simp [World.frozen?, show w2.heap[w.heap.size]? = some t.obj from HK.out _ HB2.out, Plc.obj]
     obtain ⟨hBd, hKd⟩ := HTail.out w2 HB2.out
     obtain ⟨Wd, hWd⟩ : ∃ Wd, w2.setCell ⟨w.heap.size, 4, none⟩ (.int .i64 ((t.deep : Int) + 1)) = Wd := ⟨_, rfl⟩
     rw [hWd] at hBd hKd
     have HBd := Lib.hid hBd
     have HKd := Lib.hid hKd
     have HWd := Lib.hid hWd
     have HLd := Lib.hid (show w.heap.size < Wd.heap.size from lt_blk hKd)
     obtain ⟨s0', s1', s2', s3'⟩ := HS.out _ hBd
     clear hBd hKd hWd
     go_upto_region 10 with fail
     rw [HWd.out]
     clear c0 c1 c2 c3 c4 s0 s1 s2 s3 f4 HWd
     go_wp2_with fail
     clear s0' s1' s2' s3'
     go_loopw [70] (fun i wr => ∃ (k : Nat) (r : Exs), i = .int .i64 k ∧ k + r.len = e.args.len ∧ r.size ≤ e.args.size ∧ Hid (r.At w N b2 (o2 + k * 4)) ∧ Hid (Below Wd.heap.size Wd wr) ∧ Hid (e.chk x fn t.deep = r.chk x fn (t.deep + 1))) (fun i _ => e.args.len - (intOf i).toNat)
     case atStart => exact ⟨0, e.args, rfl, by omega, Nat.le_refl _, Lib.hid (by rw [Nat.zero_mul]; exact HA2.out.1), Lib.hid (Below.refl _ _), R3⟩
     case round =>
       obtain ⟨k, r, rfl, hk, hrs, hr, hB, hE⟩ := hrel
       have hBw := HBd.out.trans (hB.out.mono (Nat.le_of_lt HLd.out))
       cases r with
       | nil =>
         simp only [Exs.len] at hk
         have hge : ¬ k < e.args.len := by omega
         have HR := Lib.hid (HOK.out wr (by rw [hE.out, Exs.chk]) hBw)
         clear hBw
         go_wp2_with fail
         go_end0
         exact HR.out
       | cons y r =>
         obtain ⟨hy, hr'⟩ := hr.out
         simp only [Exs.len] at hk
         simp only [Exs.size] at hrs
         have hlt : k < e.args.len := by omega
         have hb2N : b2 < N := by have := HA2.out.2; omega
         have hpa : pa = some ⟨b2, o2, none⟩ := by
           rcases hq2 with h0 | h0
           · omega
           · exact h0
         have HR := Lib.hid hr'
         have kd := (hB.out.block _ HLd.out).trans HKd.out
         obtain ⟨c0, c1, c2, c3, c4⟩ := Plc.cells kd
         obtain ⟨s0, s1, s2, s3⟩ := HS.out _ hBw
         subst hpa
         have HC := Lib.hid (IH.out y (by omega) x s fn f t.down b2 (o2 + k * 4) N wr.drew ((HPl.out _ hBw.drew).down) (Ex.At.later (hBw.drew.mono hNw) (Nat.le_refl N) y b2 _ hb2N hy) hb2N (show t.deep + 1 ≤ 1000 by omega))
         have HBw := Lib.hid hBw
         unfold Plc.v at HC
         clear hy hr hr' kd hBw hb2N
         go_wp2_with fail
         go_still_tail 7, (by kernel_rfl)
         change wpList _ _ _ _ _ (World.drew _)
         go_wp2_with fail
         refine HC.out.mono ?_
         intro z w5 hc
         rcases hc with ⟨r1, hB5⟩ | ⟨r1, hB5⟩
         rotate_left
         · have HR := Lib.hid (HNo.out w5 _ (by rw [hE.out, Exs.chk]; exact seq_no r1) r1 (HBw.out.drew.trans (hB5.mono HBw.out.size)))
           unfold Pn
           clear hB5 r1 c0 c1 c2 c3 c4 s0 s1 s2 s3
           go_wp2_with fail
           exact ⟨rfl, HR.out⟩
         have HE2 := Lib.hid (show e.chk x fn t.deep = r.chk x fn (t.deep + 1) by rw [hE.out, Exs.chk]; exact seq_ok r1)
         have HB5 := Lib.hid (hB.out.drew.trans (hB5.mono hB.out.size))
         clear hB5 r1 c0 c1 c2 c3 c4 s0 s1 s2 s3
         go_wp2_with fail
         go_roundw
         case rel => exact ⟨k + 1, r, by go_num, by omega, by omega, Lib.hid (by rw [show o2 + (k + 1) * 4 = o2 + k * 4 + 4 by omega]; exact HR.out), HB5, HE2⟩
         case measure => simp [intOf]; omega
   have e3' : (e.op == 3) = false := by simp [o3']
   have HH := Lib.hid (show headR x fn e = ask e.name.isEmpty 9 by unfold headR; rw [if_neg o2', if_neg o3'])
   have e4' : (str e.name).toList.isEmpty = e.name.isEmpty := by rw [Lib.toList_data, str_data]
   clear o2' o3'
   obtain ⟨q, hq⟩ : ∃ q, e.name.isEmpty = q := ⟨_, rfl⟩
   rw [hq] at e4'
   cases q with
   | false =>
     have HR := Lib.hid (HNo.out wx 9 (by rw [R2.out, HH.out, hq]; rfl) (by decide) (HU.out _ HB1.out))
     clear hq
     go_wp2_with (go_at_call 79; refine (must_n 9 _).mono ?_; rintro e w' ⟨rfl, rfl⟩; unfold Pn)
     exact ⟨rfl, HR.out⟩
   | true =>
     have R3 := Lib.hid (show e.chk x fn t.deep = e.args.chk x fn (t.deep + 1) by rw [R2.out, HH.out, hq]; rfl)
     have HB2 := HB1
     clear hq
     go_upto_region 9 with (go_at_call 79; refine (must_y 9 _).mono ?_; rintro e w' ⟨rfl, rfl⟩)
     clear c0 c1 c2 c3 c4 s0 s1 s2 s3
     generalize wx = w2 at HB2 ⊢
     obtain ⟨c0, c1, c2, c3, c4⟩ := HP.out _ HB2.out
     obtain ⟨s0, s1, s2, s3⟩ := HS.out _ (HU.out _ HB2.out)
     have f4 : w2.frozen? ⟨w.heap.size, 4, none⟩ = false := by simp [World.frozen?, show w2.heap[w.heap.size]? = some t.obj from HK.out _ HB2.out, Plc.obj]
     obtain ⟨hBd, hKd⟩ := HTail.out w2 HB2.out
     obtain ⟨Wd, hWd⟩ : ∃ Wd, w2.setCell ⟨w.heap.size, 4, none⟩ (.int .i64 ((t.deep : Int) + 1)) = Wd := ⟨_, rfl⟩
     rw [hWd] at hBd hKd
     have HBd := Lib.hid hBd
     have HKd := Lib.hid hKd
     have HWd := Lib.hid hWd
     have HLd := Lib.hid (show w.heap.size < Wd.heap.size from lt_blk hKd)
     obtain ⟨s0', s1', s2', s3'⟩ := HS.out _ hBd
     clear hBd hKd hWd
     go_upto_region 10 with fail
     rw [HWd.out]
     clear c0 c1 c2 c3 c4 s0 s1 s2 s3 f4 HWd
     go_wp2_with fail
     clear s0' s1' s2' s3'
     go_loopw [70] (fun i wr => ∃ (k : Nat) (r : Exs), i = .int .i64 k ∧ k + r.len = e.args.len ∧ r.size ≤ e.args.size ∧ Hid (r.At w N b2 (o2 + k * 4)) ∧ Hid (Below Wd.heap.size Wd wr) ∧ Hid (e.chk x fn t.deep = r.chk x fn (t.deep + 1))) (fun i _ => e.args.len - (intOf i).toNat)
     case atStart => exact ⟨0, e.args, rfl, by omega, Nat.le_refl _, Lib.hid (by rw [Nat.zero_mul]; exact HA2.out.1), Lib.hid (Below.refl _ _), R3⟩
     case round =>
       obtain ⟨k, r, rfl, hk, hrs, hr, hB, hE⟩ := hrel
       have hBw := HBd.out.trans (hB.out.mono (Nat.le_of_lt HLd.out))
       cases r with
       | nil =>
         simp only [Exs.len] at hk
         have hge : ¬ k < e.args.len := by omega
         have HR := Lib.hid (HOK.out wr (by rw [hE.out, Exs.chk]) hBw)
         clear hBw
         go_wp2_with fail
         go_end0
         exact HR.out
       | cons y r =>
         obtain ⟨hy, hr'⟩ := hr.out
         simp only [Exs.len] at hk
         simp only [Exs.size] at hrs
         have hlt : k < e.args.len := by omega
         have hb2N : b2 < N := by have := HA2.out.2; omega
         have hpa : pa = some ⟨b2, o2, none⟩ := by
           rcases hq2 with h0 | h0
           · omega
           · exact h0
         have HR := Lib.hid hr'
         have kd := (hB.out.block _ HLd.out).trans HKd.out
         obtain ⟨c0, c1, c2, c3, c4⟩ := Plc.cells kd
         obtain ⟨s0, s1, s2, s3⟩ := HS.out _ hBw
         subst hpa
         have HC := Lib.hid (IH.out y (by omega) x s fn f t.down b2 (o2 + k * 4) N wr.drew ((HPl.out _ hBw.drew).down) (Ex.At.later (hBw.drew.mono hNw) (Nat.le_refl N) y b2 _ hb2N hy) hb2N (show t.deep + 1 ≤ 1000 by omega))
         have HBw := Lib.hid hBw
         unfold Plc.v at HC
         clear hy hr hr' kd hBw hb2N
         go_wp2_with fail
         go_still_tail 7, (by kernel_rfl)
         change wpList _ _ _ _ _ (World.drew _)
         go_wp2_with fail
         refine HC.out.mono ?_
         intro z w5 hc
         rcases hc with ⟨r1, hB5⟩ | ⟨r1, hB5⟩
         rotate_left
         · have HR := Lib.hid (HNo.out w5 _ (by rw [hE.out, Exs.chk]; exact seq_no r1) r1 (HBw.out.drew.trans (hB5.mono HBw.out.size)))
           unfold Pn
           clear hB5 r1 c0 c1 c2 c3 c4 s0 s1 s2 s3
           go_wp2_with fail
           exact ⟨rfl, HR.out⟩
         have HE2 := Lib.hid (show e.chk x fn t.deep = r.chk x fn (t.deep + 1) by rw [hE.out, Exs.chk]; exact seq_ok r1)
         have HB5 := Lib.hid (hB.out.drew.trans (hB5.mono hB.out.size))
         clear hB5 r1 c0 c1 c2 c3 c4 s0 s1 s2 s3
         go_wp2_with fail
         go_roundw
         case rel => exact ⟨k + 1, r, by go_num, by omega, by omega, Lib.hid (by rw [show o2 + (k + 1) * 4 = o2 + k * 4 + 4 by omega]; exact HR.out), HB5, HE2⟩
         case measure => simp [intOf]; omega
theorem expr_to : ∀ n, ExprTo n
 | 0 => fun _ h => absurd h (Nat.not_lt_zero _)
 | n + 1 => expr_step n (expr_to n)
/- How much a program has; an append's run. -/
open Go.RowKit

mutual
def St.big : St → Nat
 | .mk _ _ ns e a g _ _ bd el => 1 + ns.length + e.size + a.size + g.size + bd.big + el.big
def Sts.big : Sts → Nat
 | .nil => 0
 | .cons x r => x.big + r.big
end
theorem St.big_eq (x : St) : x.big = 1 + x.names.length + x.e.size + x.a.size + x.args.size + x.body.big + x.els.big := by obtain ⟨kd, nm, ns, e, a, as', lo, hi, bd, el⟩ := x; rw [St.big]; rfl
theorem run_app {P : Program} (w : World) (base : Nat) (t ty e : TypeId) (i : TypeInfo) (z : Value) (size bytes : Nat) (ht : P.underlying t = some (.slice e)) (hi : P.info? e = some i) (hz : i.zero = some z)
   (hsize : i.size = size) (hby : i.bytes = bytes) (hzs : z.cells.size = size) (hsz : 0 < size)
   (v : Value) (n : Nat) (xs : List Value) (hown : w.ownsRow base e size v n xs) (p : Option Addr) (m c : Nat) (news : List Value) (hsrc : Src w size p m news) (h1 : ∀ u ∈ news, u.oneCell' = true)
   (h63 : n + m ≤ maxLen) (hbytes : (n + m) * bytes ≤ 140737488355328) (hbase : base ≤ w.heap.size) :
   ∃ v' w', (Builtin.append_ #[t, t] ty #[v, .slice p m c]).run P w = .ok v' w' ∧ w'.ownsRow base e size v' (n + m) (xs ++ news) ∧ w.grownBy w' v.ownBlock := by
 obtain ⟨hl, rfl | ⟨b', o', rfl, hc⟩⟩ := hsrc
 · have : news = [] := List.eq_nil_of_length_eq_zero (by simpa using hl)
   subst this
   exact ⟨v, w, run_append_empty base t ty e i size ht hi v n xs hown p c, by simpa using hown, World.grownBy.refl w _⟩
 · obtain ⟨v', w', h1, h2, h3, _⟩ := run_append_own (P := P) w base t ty e i z size bytes ht hi hz hsize hby hzs hsz v n xs hown ⟨b', o', none⟩ m c news hl (fun j u hu => by rw [add_of]; exact hc j u hu) h1 h63 hbytes hbase
   exact ⟨v', w', h1, h2, h3⟩

def fnsBig : List Fnc → Nat
 | [] => 0
 | f :: r => f.body.big + f.params.length + f.vars.length + f.rets.length + 1 + fnsBig r
theorem fnsBig_mem : ∀ (l : List Fnc) (f : Fnc), f ∈ l → f.body.big + f.params.length + f.vars.length + f.rets.length + 1 ≤ fnsBig l
 | [], f, h => by cases h
 | g :: r, f, h => by
   rw [fnsBig]
   rcases List.mem_cons.1 h with rfl | h
   · omega
   · have := fnsBig_mem r f h; omega
theorem wrapN (n : Nat) (h : n ≤ 9000000000) : IntKind.i64.wrap (n : Int) = (n : Int) := by simp [IntKind.wrap, IntKind.bits, IntKind.signed]; omega
theorem wrapS (a b : Nat) (h : a + b ≤ 9000000000) : IntKind.i64.wrap ((a : Int) + (b : Int)) = ((a + b : Nat) : Int) := by
 rw [show (a : Int) + (b : Int) = ((a + b : Nat) : Int) by omega]; exact wrapN _ h
theorem below_grown {B : Nat} {a w w' : World} {v : Value} {e : TypeId} {n size : Nat} {xs : List Value} (h : Below B a w) (hg : w.grownBy w' v.ownBlock) (hs : B ≤ w.heap.size) (hown : w.ownsRow B e size v n xs) : Below B a w' := h.grown hg hs (own_blk hown)
/- A whole struct loaded, and laid into a block of its own, in one step. -/
open Go.RowKit

theorem wpl_load {P : Program} {ops : Array Oper} {rest : List Oper} {op : Oper} {a : Act} {w : World} {Q : Exit → Act → World → Prop} (hgd : op.guard = none) (ty : TypeId) (x : Operand) (ho : op.op = .load ty x)
   (b o : Nat) (hx : a.eval x = .pointer (some ⟨b, o, none⟩)) (A : Array Value) (d : TypeDesc) (hc : w.rangeAt b o A.toList)
   (hu : P.underlying ty = some d) (hd : d.isRow = true) (hi : (P.info? ty).map (·.size) = some A.size)
   (h : wpList P ops Q rest (a.put op.dst (.agg A)) w) : wpList P ops Q (op :: rest) a w :=
 wpList_load_mid hgd ty x ho b o hx A.toList d hc hu hd (by rw [hi]; simp) (by simpa using h)
/- The document's: is an expression nothing; how many expressions there are. -/
open Go.RowKit

set_option maxHeartbeats 800000 in
theorem nothing_any (x : Ex) (p : Option Addr) (c : Nat) (w : World) :
   Calls Tryz.prog 88 #[x.val p c] w fun z w' => z = .returned (.bool x.isZ) ∧ Below w.heap.size w w' := by
 obtain ⟨W0, hW0, k0, hB0, hz0⟩ := one_alloc w (.cells #[.int .i64 x.op, .int .u64 (x.word : Int), .string (str x.name), .slice p x.args.len c] 40)
 have c0 : W0.cell? ⟨w.heap.size, 0, none⟩ = some (.int .i64 x.op) := cell_blk k0 rfl
 have c1 : W0.cell? ⟨w.heap.size, 1, none⟩ = some (.int .u64 (x.word : Int)) := cell_blk k0 rfl
 have c2 : W0.cell? ⟨w.heap.size, 2, none⟩ = some (.string (str x.name)) := cell_blk k0 rfl
 have c3 : W0.cell? ⟨w.heap.size, 3, none⟩ = some (.slice p x.args.len c) := cell_blk k0 rfl
 have HB0 := Lib.hid hB0
 have e3 : (str x.name).toList.isEmpty = x.name.isEmpty := by rw [Lib.toList_data, str_data]
 unfold Ex.isZ Ex.val
 generalize e1 : (x.op == 0) = t1
 generalize e2 : (((x.word : Nat) : Int) == 0) = t2
 generalize x.name.isEmpty = t3 at e3
 generalize e4 : (((x.args.len : Nat) : Int) == 0) = t4
 clear k0 hB0 hz0
 cases t1 <;> cases t2 <;> cases t3 <;> cases t4 <;>
 · go_enter Tryz.func88, Tryz.ntmps88
   go_wp2
   go_ret
   exact ⟨rfl, HB0.out⟩

mutual
theorem Ex.wc_le : ∀ (x : Ex) (deep : Nat), x.wc deep ≤ x.size
 | .mk _ _ _ a, deep => by rw [Ex.wc, Ex.size]; have := Exs.wc_le a (deep + 1); omega
theorem Exs.wc_le : ∀ (l : Exs) (deep : Nat), l.wc deep ≤ l.size
 | .nil, _ => by rw [Exs.wc]; exact Nat.zero_le _
 | .cons x r, deep => by
   rw [Exs.wc, Exs.size]
   have h1 := Ex.wc_le x deep
   have h2 := Exs.wc_le r deep
   split <;> omega
end
def Ex.wd (x : Ex) (deep : Nat) : Nat := if 64 < deep then 0 else x.wc deep
theorem Exs.wc_wd (x : Ex) (r : Exs) (deep : Nat) : (Exs.cons x r).wc deep = x.wd deep + r.wc deep := by
 unfold Ex.wd
 by_cases h : 64 < deep
 · rw [Exs.wc_deep _ _ h, Exs.wc_deep _ _ h, if_pos h]
 · rw [Exs.wc, if_neg h, if_neg h]
theorem Ex.wd_le (x : Ex) (deep : Nat) : x.wd deep ≤ x.size := by
 unfold Ex.wd; have := x.wc_le deep; split <;> omega
def RX (n : Nat) : Prop := ∀ (x : Ex), x.size < n → x.size ≤ 4000000 → ∀ (deep : Nat), deep ≤ 65 → ∀ (p : Option Addr) (c N : Nat) (w : World), x.Ok w N p → N ≤ w.heap.size →
   Calls Tryz.prog 89 #[x.val p c, .int .i64 (deep : Int)] w fun z w' => z = .returned (.int .i64 (x.wd deep : Nat)) ∧ Below w.heap.size w w'
set_option maxHeartbeats 3200000 in
theorem rexprs_step (n : Nat) (ih : RX n) : RX (n + 1) := by
 intro x hxs hbig deep hd p c N w hx hN
 have IH := Lib.hid ih
 clear ih
 obtain ⟨w1, hw1, k0, hB1, hz1⟩ := one_alloc w (.cells #[.int .i64 x.op, .int .u64 (x.word : Int), .string (str x.name), .slice p x.args.len c] 40)
 have hOk1 := (hx.later (hB1.mono hN) (Nat.le_refl N)).1
 have HB1 := Lib.hid hB1
 have HE0 := Lib.hid k0
 unfold Ex.val
 by_cases hdp : 64 < deep
 · rw [show x.wd deep = 0 from if_pos hdp]
   have hi : (64 : Int) < (deep : Int) := by omega
   clear hOk1 hx k0 hB1 hz1
   go_enter Tryz.func89, Tryz.ntmps89
   go_wp2_with fail
   go_ret
   exact ⟨rfl, HB1.out⟩
 have hi : ¬ (64 : Int) < (deep : Int) := by omega
 have hwd : IntKind.i64.wrap ((deep : Int) + 1) = ((deep + 1 : Nat) : Int) := by simp [IntKind.wrap, IntKind.bits, IntKind.signed]; omega
 have htot : x.wd deep = 1 + x.args.wc (deep + 1) := by rw [show x.wd deep = x.wc deep from if_neg hdp, Ex.wc_eq]
 have hle : x.wd deep ≤ 4000000 := Nat.le_trans (x.wd_le deep) hbig
 have hsz : x.args.size + 1 = x.size := by obtain ⟨op, wd, nm, ar⟩ := x; rw [Ex.size]; rfl
 have hlz : w.heap.size < w1.heap.size := lt_blk k0
 have HNN := Lib.hid hN
 generalize x.args = l at hOk1 hsz hw1 HE0 htot ⊢
 generalize x.wd deep = tot at htot hle ⊢
 clear k0 hB1 hx
 obtain ⟨hm, hs⟩ := hOk1
 have hstart : ∃ b o, (l.len = 0 ∨ p = some ⟨b, o, none⟩) ∧ (b < N ∨ l.len = 0) ∧ l.At w1 N b o := by
   rcases hs with h0 | ⟨b, o, hp, hb, ha⟩
   · exact ⟨0, 0, .inl h0, .inr h0, by cases l with | nil => trivial | cons => simp [Exs.len] at h0⟩
   · exact ⟨b, o, .inr hp, .inl hb, ha⟩
 obtain ⟨b, o, hp, hb, ha⟩ := hstart
 have HB := Lib.hid hb
 clear hb hs
 go_enter Tryz.func89, Tryz.ntmps89
 go_wp2_with fail
 go_loopw [5, 6] (fun d i wr => ∃ (k v : Nat) (r : Exs), d = .int .i64 v ∧ i = .int .i64 k ∧ k + r.len = l.len ∧ r.size ≤ l.size ∧ Hid (r.At w1 N b (o + k * 4)) ∧ Hid (v + r.wc (deep + 1) = tot) ∧ Hid (Below w1.heap.size w1 wr)) (fun _ i _ => l.len - (intOf i).toNat)
 case atStart => exact ⟨0, 1, l, rfl, rfl, by omega, by omega, Lib.hid (by rw [Nat.zero_mul]; exact ha), Lib.hid htot.symm, Lib.hid (Below.refl _ _)⟩
 case round =>
   obtain ⟨k, v, r, rfl, rfl, hk, hrs, hr, hE, hBr⟩ := hrel
   have c3 : wr.cell? ⟨w.heap.size, 3, none⟩ = some (.slice p l.len c) := cell_blk ((hBr.out.block _ (lt_blk HE0.out)).trans HE0.out) rfl
   cases r with
   | nil =>
     simp only [Exs.len] at hk
     have hge : ¬ k < l.len := by omega
     have HV := Lib.hid (show v = tot by have := hE.out; rw [Exs.wc] at this; omega)
     go_wp2_with fail
     go_ret
     exact ⟨by rw [HV.out]; rfl, HB1.out.trans (hBr.out.mono (by omega))⟩
   | cons y r =>
     obtain ⟨hy, hr'⟩ := hr.out
     simp only [Exs.len] at hk
     simp only [Exs.size] at hrs
     have hlt : k < l.len := by omega
     rcases hp with h0 | rfl
     · omega
     have hbN : b < N := by have := HB.out; omega
     have hNw1 : N ≤ w1.heap.size := by have := HNN.out; omega
     have hyr := Ex.At.later (hBr.out.mono hNw1) (Nat.le_refl N) y b (o + k * 4) hbN hy
     obtain ⟨q, cq, d0, d1, d2, d3, hok⟩ := hyr.open'
     have HC := Lib.hid (IH.out y (by omega) (by omega) (deep + 1) (by omega) q cq N wr hok (Nat.le_trans hNw1 hBr.out.size))
     have hE2 := hE.out
     rw [Exs.wc_wd] at hE2
     have hw0 := wrapS v (y.wd (deep + 1)) (by omega)
     have HE2 := Lib.hid (show v + y.wd (deep + 1) + r.wc (deep + 1) = tot by omega)
     have HR := Lib.hid hr'
     unfold Ex.val at HC
     generalize y.wd (deep + 1) = u at HC hw0 HE2
     clear hy hr' hr hyr hok hE2 hE
     go_wp2_with fail
     refine HC.out.mono ?_
     rintro e w2 ⟨rfl, hB2⟩
     have HB2 := Lib.hid (hBr.out.trans (hB2.mono hBr.out.size))
     clear hB2 HC
     go_wp2_with fail
     go_roundw
     case rel => exact ⟨k + 1, v + u, r, by go_num, by go_num, by omega, by omega, Lib.hid (by rw [show o + (k + 1) * 4 = o + k * 4 + 4 by omega]; exact HR.out), HE2, HB2⟩
     case measure => simp [intOf]; omega
theorem rexprs_to : ∀ n, RX n
 | 0 => fun _ h => absurd h (Nat.not_lt_zero _)
 | n + 1 => rexprs_step n (rexprs_to n)
end Go.Proofs.YtihmibggonffdaaGreat
