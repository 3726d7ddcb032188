/- What is asked of a statement's parts. -/
import Derived.Test.YtihmibggonffdaaGreatF1
import Derived.Test.YtihmibggonffdaaGreatJ9
import Derived.Test.YtihmibggonffdaaGreatD9
namespace Go.Proofs.YtihmibggonffdaaGreat
open Go.RowKit

def pl0 (fi : Nat) (ar : List (List UInt8)) : Plc := ⟨0, fi, 0, ar, none, 0, 0⟩
def headS (x : Prg) (fn : Fnc) (f : List UInt8 → Nat) (fi : Nat) (ar : List (List UInt8)) (y : St) : Nat :=
 if y.kind = 1 then setR x fn f y.name else if y.kind = 2 then arrayR x fn y.name else if y.kind = 5 then loopR x fn (pl0 fi ar) y else if y.kind = 6 then callR x fn f (pl0 fi ar) y else 0
def arOf (ar : List (List UInt8)) (kd : Int) (nm : List UInt8) : List (List UInt8) := if kd = 5 then ar ++ [nm] else ar
mutual
def St.chk (x : Prg) (fn : Fnc) (f : List UInt8 → Nat) (fi : Nat) : St → Nat → List (List UInt8) → Nat
 | .mk kd nm ns e a as' lo hi bd el, deep, ar =>
   seq (ask (decide (deep ≤ 64)) 12) (seq (ask (ownP (.mk kd nm ns e a as' lo hi bd el)) 9) (seq (headS x fn f fi ar (.mk kd nm ns e a as' lo hi bd el))
     (seq (if kd = 2 then a.chk x fn deep else 0) (seq (if kd = 1 ∨ kd = 2 ∨ kd = 3 ∨ kd = 4 then e.chk x fn deep else 0) (seq (as'.chk x fn deep)
       (seq (bd.chk x fn f fi (deep + 1) (arOf ar kd nm)) (el.chk x fn f fi (deep + 1) (arOf ar kd nm))))))))
def Sts.chk (x : Prg) (fn : Fnc) (f : List UInt8 → Nat) (fi : Nat) : Sts → Nat → List (List UInt8) → Nat
 | .nil, _, _ => 0
 | .cons y r, deep, ar => seq (y.chk x fn f fi deep ar) (r.chk x fn f fi deep ar)
end
def restR (x : Prg) (fn : Fnc) (f : List UInt8 → Nat) (fi : Nat) (y : St) (deep : Nat) (ar : List (List UInt8)) : Nat :=
 seq (y.body.chk x fn f fi (deep + 1) (arOf ar y.kind y.name)) (y.els.chk x fn f fi (deep + 1) (arOf ar y.kind y.name))
def partsR (x : Prg) (fn : Fnc) (f : List UInt8 → Nat) (fi : Nat) (y : St) (deep : Nat) (ar : List (List UInt8)) : Nat :=
 seq (if y.kind = 2 then y.a.chk x fn deep else 0) (seq (if y.kind = 1 ∨ y.kind = 2 ∨ y.kind = 3 ∨ y.kind = 4 then y.e.chk x fn deep else 0) (seq (y.args.chk x fn deep) (restR x fn f fi y deep ar)))
theorem St.chk_eq (x : Prg) (fn : Fnc) (f : List UInt8 → Nat) (fi : Nat) (y : St) (deep : Nat) (ar : List (List UInt8)) : y.chk x fn f fi deep ar = seq (ask (decide (deep ≤ 64)) 12) (seq (ask (ownP y) 9) (seq (headS x fn f fi ar y) (partsR x fn f fi y deep ar))) := by
 obtain ⟨kd, nm, ns, e, a, as', lo, hi, bd, el⟩ := y; rw [St.chk]; rfl
def StmtsTo (m : Nat) : Prop := ∀ (l : Sts), l.size < m → ∀ (x : Prg) (s : PrgP) (fn : Fnc) (f : List UInt8 → Nat) (t : Plc) (p : Option Addr) (c N : Nat) (w : World), PlOk w N x s fn f t → l.In w N p → t.deep ≤ 65 → t.ar.length ≤ t.deep →
   Calls Tryz.prog 57 #[t.v, .slice p l.len c] w (Chk (l.chk x fn f t.fi t.deep t.ar) w)
theorem row_set {w2 W : World} {N M g : Nat} {l : List (List UInt8)} (h : RowIn N (StrAt w2) 1 l (some ⟨g, 0, none⟩)) (e : W.heap[g]? = w2.heap[g]?) (hN : N ≤ M) : RowIn M (StrAt W) 1 l (some ⟨g, 0, none⟩) := by
 refine ⟨h.1, ?_⟩
 rcases h.2 with h0 | ⟨b, o, hp, hb, ha⟩
 · exact .inl h0
 · cases hp
   exact .inr ⟨g, 0, rfl, by omega, Row.imp (fun x o hx => (World.cell?_of_block (w := w2) e).trans hx) _ _ ha⟩
theorem around_obj {W : World} {g : Nat} {t : Plc} {a : List (List UInt8)} {p : Option Addr} {c : Nat} (k : W.heap[g]? = some t.obj) : (W.setCell ⟨g, 3, none⟩ (.slice p a.length c)).heap[g]? = some (Plc.obj { t with ar := a, ap := p, ac := c }) := by
 unfold Plc.obj at k ⊢
 rw [setCell_eq_setRow W g 3 _ 113 (0, 0) _ k]
 exact setRow_heap W g _ _ 113 (0, 0) k
set_option maxRecDepth 100000 in
set_option maxHeartbeats 25600000 in
theorem parts_any (y : St) (ih : StmtsTo y.size) (x : Prg) (s : PrgP) (fn : Fnc) (f : List UInt8 → Nat) (t : Plc) (b o N : Nat) (w : World) (h : PlOk w N x s fn f t) (hy : y.At w N b o) (hb : b < N) (htd : t.deep ≤ 64) (hta : t.ar.length ≤ t.deep) :
   Calls Tryz.prog 108 #[t.v, .pointer (some ⟨b, o, none⟩)] w (Chk (partsR x fn f t.fi y t.deep t.ar) w) := by
 obtain ⟨W0, hW0, k0, hB0, hz0⟩ := one_alloc w t.obj
 have hNw := h.hN
 have hbN : b < w.heap.size := Nat.lt_of_lt_of_le hb h.hN
 obtain ⟨⟨pn, pe, pa, pg, pbd, pl, cn, ce, ca, cg, cb, cl⟩, hcy, hok⟩ := hy.open
 have HU := Lib.hid (fun (W : World) (hB : Below W0.heap.size W0 W) => show Below w.heap.size w W from hB0.trans (hB.mono (by omega)))
 have HS := Lib.hid (fun (W : World) (hB : Below w.heap.size w W) => show W.cell? ⟨b, o, none⟩ = some (.int .i64 y.kind) ∧ W.cell? ⟨b, o + 1, none⟩ = some (.string (str y.name)) ∧ W.cell? ⟨b, o + 11, none⟩ = some (.slice pg y.args.len cg) ∧ W.cell? ⟨b, o + 14, none⟩ = some (.slice pbd y.body.len cb) ∧ W.cell? ⟨b, o + 15, none⟩ = some (.slice pl y.els.len cl) from
   ⟨(hB.cell (p := ⟨b, o, none⟩) hbN).trans (hcy 0 _ rfl), (hB.cell (p := ⟨b, o + 1, none⟩) hbN).trans (hcy 1 _ rfl), (hB.cell (p := ⟨b, o + 11, none⟩) hbN).trans (hcy 11 _ rfl), (hB.cell (p := ⟨b, o + 14, none⟩) hbN).trans (hcy 14 _ rfl), (hB.cell (p := ⟨b, o + 15, none⟩) hbN).trans (hcy 15 _ rfl)⟩)
 have HK := Lib.hid (fun (W : World) (hB : Below W0.heap.size W0 W) => show W.heap[w.heap.size]? = some t.obj from (hB.block _ (lt_blk k0)).trans k0)
 have HPl := Lib.hid (fun (W : World) (hB : Below w.heap.size w W) => h.later hB)
 have HExA := Lib.hid (fun (W : World) (hB : Below w.heap.size w W) => expr_to _ y.a (Nat.lt_succ_self _) x s fn f t b (o + 7) N W (h.later hB) (St.At.a (St.At.later (hB.mono hNw) (Nat.le_refl N) y b o hb hy)) hb (by omega))
 have HExE := Lib.hid (fun (W : World) (hB : Below w.heap.size w W) => expr_to _ y.e (Nat.lt_succ_self _) x s fn f t b (o + 3) N W (h.later hB) (St.At.e (St.At.later (hB.mono hNw) (Nat.le_refl N) y b o hb hy)) hb (by omega))
 have HBd := Lib.hid (fun (W : World) (hB : Below w.heap.size w W) (t' : Plc) (hP : PlOk W N x s fn f t') (h1 : t'.deep ≤ 65) (h2 : t'.ar.length ≤ t'.deep) => ih y.body (by have := y.size_eq; omega) x s fn f t' pbd cb N W hP (hok.2.2.2.2.1.later (hB.mono hNw) (Nat.le_refl N)) h1 h2)
 have HEl := Lib.hid (fun (W : World) (hB : Below w.heap.size w W) (t' : Plc) (hP : PlOk W N x s fn f t') (h1 : t'.deep ≤ 65) (h2 : t'.ar.length ≤ t'.deep) => ih y.els (by have := y.size_eq; omega) x s fn f t' pl cl N W hP (hok.2.2.2.2.2.1.later (hB.mono hNw) (Nat.le_refl N)) h1 h2)
 have HW0 := Lib.hid hW0
 obtain ⟨RR, hRR⟩ : ∃ RR, partsR x fn f t.fi y t.deep t.ar = RR := ⟨_, rfl⟩
 have HEq := Lib.hid hRR
 have HNo := Lib.hid (fun (w' : World) (r : Nat) (hr : RR = r) (h0 : r ≠ 0) (hB : Below w.heap.size w w') => show Chk RR w (Pn (r : Int)) w' from Chk.no' hr h0 hB)
 have HOK := Lib.hid (fun (w' : World) (hr : RR = 0) (hB : Below w.heap.size w w') => show Chk RR w (.returned (.tuple #[])) w' from .ok hr hB)
 rw [hRR]
 have hma := hok.2.2.2.1.1
 obtain ⟨b2, o2, hq2, hb2, ha2⟩ : ∃ b2 o2, (y.args.len = 0 ∨ pg = some ⟨b2, o2, none⟩) ∧ (b2 < N ∨ y.args.len = 0) ∧ y.args.At w N b2 o2 := by
   rcases hok.2.2.2.1.2 with h0 | ⟨b, o, hp, hb, ha⟩
   · exact ⟨0, 0, .inl h0, .inr h0, by cases hxa : y.args with | nil => trivial | cons => rw [hxa] at h0; simp [Exs.len] at h0⟩
   · exact ⟨b, o, .inr hp, .inl hb, ha⟩
 have HA2 := Lib.hid (And.intro ha2 hb2)
 have HB0 := Lib.hid hB0
 have HL0 := Lib.hid (show w.heap.size < W0.heap.size by omega)
 have HP := Lib.hid (fun (W : World) (hB : Below W0.heap.size W0 W) => Plc.cells ((hB.block _ (lt_blk k0)).trans k0))
 have HArg := Lib.hid (fun (W : World) (hB : Below w.heap.size w W) (z : Ex) (oo : Nat) (hz : z.At w N b2 oo) (hbb : b2 < N) => expr_to _ z (Nat.lt_succ_self _) x s fn f t b2 oo N W (h.later hB) (Ex.At.later (hB.mono hNw) (Nat.le_refl N) z b2 oo hbb hz) hbb (by omega))
 have hwd : IntKind.i64.wrap ((t.deep : Int) + 1) = (t.deep : Int) + 1 := by simp [IntKind.wrap, IntKind.bits, IntKind.signed]; omega
 obtain ⟨s0, s1, s11, s14, s15⟩ := HS.out _ HB0.out
 obtain ⟨c0, c1, c2, c3, c4⟩ := HP.out _ (Below.refl _ _)
 have HB1 := Lib.hid (Below.refl W0.heap.size W0)
 unfold Plc.v at HExA HExE HArg ⊢
 unfold Pn at HNo
 unfold Plc.obj at HW0
 obtain ⟨kd, hkd⟩ : ∃ kd, y.kind = kd := ⟨_, rfl⟩
 have HKd := Lib.hid hkd
 rw [hkd] at s0 HS
 clear hW0 k0 hB0 hz0 h hy hb ih hok hb2 ha2 hcy hRR hkd
 go_enter Tryz.func108, Tryz.ntmps108
 go_upto_region 1 with fail
 rw [HW0.out]
 clear HW0
 by_cases k2 : kd = 2
 · subst k2
   go_wp2_with fail
   go_still_tail 4, (by kernel_rfl)
   change wpList _ _ _ _ _ (World.drew _)
   go_wp2_with fail
   refine (HExA.out _ (HU.out _ HB1.out.drew)).mono ?_
   intro z w2 hc
   rcases hc with ⟨r1, hB2⟩ | ⟨r1, hB2⟩
   rotate_left
   · have HR := Lib.hid (HNo.out w2 _ (by rw [← HEq.out]; unfold partsR; rw [HKd.out, if_pos rfl]; exact seq_no r1) r1 (HU.out _ (HB1.out.drew.trans (hB2.mono HB1.out.drew.size))))
     unfold Pn
     clear hB2 r1 c0 c1 c2 c3 c4 s0 s1 s11 s14 s15
     go_wp2_with fail
     exact ⟨rfl, HR.out⟩
   have R2 := Lib.hid r1
   replace HB1 := Lib.hid (HB1.out.drew.trans (hB2.mono HB1.out.drew.size))
   clear hB2 r1 c0 c1 c2 c3 c4 s0 s1 s11 s14 s15
   obtain ⟨s0, s1, s11, s14, s15⟩ := HS.out _ (HU.out _ HB1.out)
   obtain ⟨c0, c1, c2, c3, c4⟩ := HP.out _ HB1.out
   go_wp2_with fail
   go_still_tail 4, (by kernel_rfl)
   change wpList _ _ _ _ _ (World.drew _)
   go_wp2_with fail
   refine (HExE.out _ (HU.out _ HB1.out.drew)).mono ?_
   intro z w3 hc
   rcases hc with ⟨r1, hB3⟩ | ⟨r1, hB3⟩
   rotate_left
   · have HR := Lib.hid (HNo.out w3 _ (by rw [← HEq.out]; unfold partsR; rw [HKd.out, if_pos rfl, seq_ok R2.out, if_pos (.inr (.inl rfl))]; exact seq_no r1) r1 (HU.out _ (HB1.out.drew.trans (hB3.mono HB1.out.drew.size))))
     unfold Pn
     clear hB3 r1 c0 c1 c2 c3 c4 s0 s1 s11 s14 s15
     go_wp2_with fail
     exact ⟨rfl, HR.out⟩
   have R3 := Lib.hid r1
   replace HB1 := Lib.hid (HB1.out.drew.trans (hB3.mono HB1.out.drew.size))
   clear hB3 r1 c0 c1 c2 c3 c4 s0 s1 s11 s14 s15
   obtain ⟨s0, s1, s11, s14, s15⟩ := HS.out _ (HU.out _ HB1.out)
   obtain ⟨c0, c1, c2, c3, c4⟩ := HP.out _ HB1.out
   have HRa := Lib.hid (show RR = seq (y.args.chk x fn t.deep) (restR x fn f t.fi y t.deep t.ar) by rw [← HEq.out]; unfold partsR; rw [HKd.out, if_pos rfl, seq_ok R2.out, if_pos (.inr (.inl rfl)), seq_ok R3.out])
   have h5 : ¬ (2 : Int) = 5 := by decide
   go_wp2_with fail
   generalize hw3 : w3 = w3z at HB1 s0 s1 s11 s14 s15 c0 c1 c2 c3 c4 ⊢
   clear hw3
   clear s0 s1 s11 s14 s15 c0 c1 c2 c3 c4
   go_loopw [30] (fun i wr => ∃ (k : Nat) (r : Exs), i = .int .i64 k ∧ k + r.len = y.args.len ∧ Hid (r.At w N b2 (o2 + k * 4)) ∧ Hid (Below W0.heap.size W0 wr) ∧ Hid (RR = seq (r.chk x fn t.deep) (restR x fn f t.fi y t.deep t.ar))) (fun i _ => y.args.len - (intOf i).toNat)
   case atStart => exact ⟨0, y.args, rfl, by omega, Lib.hid (by rw [Nat.zero_mul]; exact HA2.out.1), HB1, HRa⟩
   case round =>
     obtain ⟨k, r, rfl, hk, hr, hB, hE⟩ := hrel
     obtain ⟨s0, s1, s11, s14, s15⟩ := HS.out _ (HU.out _ hB.out)
     obtain ⟨c0, c1, c2, c3, c4⟩ := HP.out _ hB.out
     cases r with
     | cons z r =>
       obtain ⟨hz, hr'⟩ := hr.out
       simp only [Exs.len] at hk
       have hlt : k < y.args.len := by omega
       have hpa : pg = some ⟨b2, o2, none⟩ := by
         rcases hq2 with h0 | h0
         · omega
         · exact h0
       have HR := Lib.hid hr'
       have HC := Lib.hid (HArg.out wr.drew (HU.out _ hB.out.drew) z (o2 + k * 4) hz (by have := HA2.out.2; omega))
       subst hpa
       clear hz hr hr'
       go_wp2_with fail
       go_still_tail 7, (by kernel_rfl)
       change wpList _ _ _ _ _ (World.drew _)
       go_wp2_with fail
       refine HC.out.mono ?_
       intro z1 w5 hc
       rcases hc with ⟨r1, hB5⟩ | ⟨r1, hB5⟩
       rotate_left
       · have HR := Lib.hid (HNo.out w5 _ (by rw [hE.out, Exs.chk, seq_no r1]; exact seq_no r1) r1 (HU.out _ (hB.out.drew.trans (hB5.mono hB.out.size))))
         unfold Pn
         clear hB5 r1 c0 c1 c2 c3 c4 s0 s1 s11 s14 s15
         go_wp2_with fail
         exact ⟨rfl, HR.out⟩
       have HE2 := Lib.hid (show RR = seq (r.chk x fn t.deep) (restR x fn f t.fi y t.deep t.ar) by rw [hE.out, Exs.chk, seq_ok r1])
       have HB5 := Lib.hid (hB.out.drew.trans (hB5.mono hB.out.size))
       clear hB5 r1 c0 c1 c2 c3 c4 s0 s1 s11 s14 s15
       go_wp2_with fail
       go_roundw
       case rel => exact ⟨k + 1, r, by go_num, by omega, Lib.hid (by rw [show o2 + (k + 1) * 4 = o2 + k * 4 + 4 by omega]; exact HR.out), HB5, HE2⟩
       case measure => simp [intOf]; omega
     | nil =>
       simp only [Exs.len] at hk
       have hge : ¬ k < y.args.len := by omega
       have HRr := Lib.hid (show RR = restR x fn f t.fi y t.deep t.ar by rw [hE.out, Exs.chk]; exact seq_ok rfl)
       have HBr := Lib.hid hB.out
       clear hE hr hB
       have HRs := Lib.hid (show restR x fn f t.fi y t.deep t.ar = seq (y.body.chk x fn f t.fi (t.deep + 1) t.ar) (y.els.chk x fn f t.fi (t.deep + 1) t.ar) by unfold restR arOf; rw [if_neg (by rw [HKd.out]; exact h5)])
       have HKv := Lib.hid (HK.out _ HBr.out)
       have HBv := Lib.hid (HU.out _ HBr.out)
       have f4 : wr.frozen? ⟨w.heap.size, 4, none⟩ = false := by simp [World.frozen?, show wr.heap[w.heap.size]? = some (Plc.obj t) from HKv.out, Plc.obj]
       obtain ⟨Wd, hWd⟩ : ∃ Wd, wr.setCell ⟨w.heap.size, 4, none⟩ (.int .i64 ((t.deep : Int) + 1)) = Wd := ⟨_, rfl⟩
       have HKd2 := Lib.hid (show Wd.heap[w.heap.size]? = some (Plc.down t).obj from by rw [← hWd]; exact down_obj HKv.out)
       have HBd2 := Lib.hid (show Below w.heap.size w Wd from by rw [← hWd]; exact HBv.out.setCell (p := ⟨w.heap.size, 4, none⟩) (Nat.le_refl _) _)
       have HPd := Lib.hid (show ∀ W, Below w.heap.size w W → Below Wd.heap.size Wd W → PlOk W N x s fn f (Plc.down t) from fun W h1 h2 => ((HPl.out W h1).down))
       have HWd2 := Lib.hid hWd
       have HLd := Lib.hid (show w.heap.size < Wd.heap.size from lt_blk HKd2.out)
       clear hWd
       go_upto_region 16 with fail
       rw [HWd2.out]
       clear HWd2 f4 c0 c1 c2 c3 c4 s0 s1 s11 s14 s15
       obtain ⟨s0, s1, s11, s14, s15⟩ := HS.out _ HBd2.out
       obtain ⟨c0, c1, c2, c3, c4⟩ := Plc.cells HKd2.out
       have HC1 := Lib.hid (HBd.out Wd.drew HBd2.out.drew _ (HPd.out _ HBd2.out.drew (Below.refl _ _).drew) (by show t.deep + 1 ≤ 65; omega) (by show t.ar.length ≤ t.deep + 1; omega))
       unfold Plc.v at HC1
       go_still_tail 5, (by kernel_rfl)
       change wpList _ _ _ _ _ (World.drew _)
       go_wp2_with fail
       refine HC1.out.mono ?_
       intro z w6 hc
       rcases hc with ⟨r1, hB6⟩ | ⟨r1, hB6⟩
       rotate_left
       · have HR := Lib.hid (HNo.out w6 _ (by rw [HRr.out, HRs.out]; exact seq_no r1) r1 (HBd2.out.drew.trans (hB6.mono HBd2.out.size)))
         unfold Pn
         clear hB6 r1 c0 c1 c2 c3 c4 s0 s1 s11 s14 s15
         go_wp2_with fail
         exact ⟨rfl, HR.out⟩
       have R6 := Lib.hid r1
       have HB6 := Lib.hid (And.intro (HBd2.out.drew.trans (hB6.mono HBd2.out.size)) (show Below Wd.heap.size Wd w6 from (Below.refl _ _).drew.trans hB6))
       clear hB6 r1 c0 c1 c2 c3 c4 s0 s1 s11 s14 s15
       obtain ⟨s0, s1, s11, s14, s15⟩ := HS.out _ HB6.out.1
       obtain ⟨c0, c1, c2, c3, c4⟩ := Plc.cells ((HB6.out.2.block _ HLd.out).trans HKd2.out)
       have HC2 := Lib.hid (HEl.out w6.drew HB6.out.1.drew _ (HPd.out _ HB6.out.1.drew HB6.out.2.drew) (by show t.deep + 1 ≤ 65; omega) (by show t.ar.length ≤ t.deep + 1; omega))
       unfold Plc.v at HC2
       go_wp2_with fail
       go_still_tail 5, (by kernel_rfl)
       change wpList _ _ _ _ _ (World.drew _)
       go_wp2_with fail
       refine HC2.out.mono ?_
       intro z w7 hc
       clear c0 c1 c2 c3 c4 s0 s1 s11 s14 s15
       rcases hc with ⟨r1, hB7⟩ | ⟨r1, hB7⟩
       · have HR := Lib.hid (HOK.out w7 (by rw [HRr.out, HRs.out]; exact (seq_ok R6.out).trans r1) (HB6.out.1.drew.trans (hB7.mono HB6.out.1.size)))
         clear hB7 r1
         go_wp2_with fail
         go_end0
         exact HR.out
       · have HR := Lib.hid (HNo.out w7 _ (by rw [HRr.out, HRs.out]; exact seq_ok R6.out) r1 (HB6.out.1.drew.trans (hB7.mono HB6.out.1.size)))
         unfold Pn
         clear hB7 r1
         go_wp2_with fail
         exact ⟨rfl, HR.out⟩
 by_cases k1 : kd = 1
 · subst k1
   go_wp2_with fail
   go_still_tail 4, (by kernel_rfl)
   change wpList _ _ _ _ _ (World.drew _)
   go_wp2_with fail
   refine (HExE.out _ (HU.out _ HB1.out.drew)).mono ?_
   intro z w3 hc
   rcases hc with ⟨r1, hB3⟩ | ⟨r1, hB3⟩
   rotate_left
   · have HR := Lib.hid (HNo.out w3 _ (by rw [← HEq.out]; unfold partsR; rw [HKd.out, if_neg (show ¬ (1 : Int) = 2 by decide), seq_ok (show (0 : Nat) = 0 from rfl), if_pos (.inl rfl)]; exact seq_no r1) r1 (HU.out _ (HB1.out.drew.trans (hB3.mono HB1.out.drew.size))))
     unfold Pn
     clear hB3 r1 c0 c1 c2 c3 c4 s0 s1 s11 s14 s15
     go_wp2_with fail
     exact ⟨rfl, HR.out⟩
   have R3 := Lib.hid r1
   replace HB1 := Lib.hid (HB1.out.drew.trans (hB3.mono HB1.out.drew.size))
   clear hB3 r1 c0 c1 c2 c3 c4 s0 s1 s11 s14 s15
   obtain ⟨s0, s1, s11, s14, s15⟩ := HS.out _ (HU.out _ HB1.out)
   obtain ⟨c0, c1, c2, c3, c4⟩ := HP.out _ HB1.out
   have HRa := Lib.hid (show RR = seq (y.args.chk x fn t.deep) (restR x fn f t.fi y t.deep t.ar) by rw [← HEq.out]; unfold partsR; rw [HKd.out, if_neg (show ¬ (1 : Int) = 2 by decide), seq_ok (show (0 : Nat) = 0 from rfl), if_pos (.inl rfl), seq_ok R3.out])
   have h5 : ¬ (1 : Int) = 5 := by decide
   go_wp2_with fail
   generalize hw3 : w3 = w3z at HB1 s0 s1 s11 s14 s15 c0 c1 c2 c3 c4 ⊢
   clear hw3
   clear s0 s1 s11 s14 s15 c0 c1 c2 c3 c4
   go_loopw [30] (fun i wr => ∃ (k : Nat) (r : Exs), i = .int .i64 k ∧ k + r.len = y.args.len ∧ Hid (r.At w N b2 (o2 + k * 4)) ∧ Hid (Below W0.heap.size W0 wr) ∧ Hid (RR = seq (r.chk x fn t.deep) (restR x fn f t.fi y t.deep t.ar))) (fun i _ => y.args.len - (intOf i).toNat)
   case atStart => exact ⟨0, y.args, rfl, by omega, Lib.hid (by rw [Nat.zero_mul]; exact HA2.out.1), HB1, HRa⟩
   case round =>
     obtain ⟨k, r, rfl, hk, hr, hB, hE⟩ := hrel
     obtain ⟨s0, s1, s11, s14, s15⟩ := HS.out _ (HU.out _ hB.out)
     obtain ⟨c0, c1, c2, c3, c4⟩ := HP.out _ hB.out
     cases r with
     | cons z r =>
       obtain ⟨hz, hr'⟩ := hr.out
       simp only [Exs.len] at hk
       have hlt : k < y.args.len := by omega
       have hpa : pg = some ⟨b2, o2, none⟩ := by
         rcases hq2 with h0 | h0
         · omega
         · exact h0
       have HR := Lib.hid hr'
       have HC := Lib.hid (HArg.out wr.drew (HU.out _ hB.out.drew) z (o2 + k * 4) hz (by have := HA2.out.2; omega))
       subst hpa
       clear hz hr hr'
       go_wp2_with fail
       go_still_tail 7, (by kernel_rfl)
       change wpList _ _ _ _ _ (World.drew _)
       go_wp2_with fail
       refine HC.out.mono ?_
       intro z1 w5 hc
       rcases hc with ⟨r1, hB5⟩ | ⟨r1, hB5⟩
       rotate_left
       · have HR := Lib.hid (HNo.out w5 _ (by rw [hE.out, Exs.chk, seq_no r1]; exact seq_no r1) r1 (HU.out _ (hB.out.drew.trans (hB5.mono hB.out.size))))
         unfold Pn
         clear hB5 r1 c0 c1 c2 c3 c4 s0 s1 s11 s14 s15
         go_wp2_with fail
         exact ⟨rfl, HR.out⟩
       have HE2 := Lib.hid (show RR = seq (r.chk x fn t.deep) (restR x fn f t.fi y t.deep t.ar) by rw [hE.out, Exs.chk, seq_ok r1])
       have HB5 := Lib.hid (hB.out.drew.trans (hB5.mono hB.out.size))
       clear hB5 r1 c0 c1 c2 c3 c4 s0 s1 s11 s14 s15
       go_wp2_with fail
       go_roundw
       case rel => exact ⟨k + 1, r, by go_num, by omega, Lib.hid (by rw [show o2 + (k + 1) * 4 = o2 + k * 4 + 4 by omega]; exact HR.out), HB5, HE2⟩
       case measure => simp [intOf]; omega
     | nil =>
       simp only [Exs.len] at hk
       have hge : ¬ k < y.args.len := by omega
       have HRr := Lib.hid (show RR = restR x fn f t.fi y t.deep t.ar by rw [hE.out, Exs.chk]; exact seq_ok rfl)
       have HBr := Lib.hid hB.out
       clear hE hr hB
       have HRs := Lib.hid (show restR x fn f t.fi y t.deep t.ar = seq (y.body.chk x fn f t.fi (t.deep + 1) t.ar) (y.els.chk x fn f t.fi (t.deep + 1) t.ar) by unfold restR arOf; rw [if_neg (by rw [HKd.out]; exact h5)])
       have HKv := Lib.hid (HK.out _ HBr.out)
       have HBv := Lib.hid (HU.out _ HBr.out)
       have f4 : wr.frozen? ⟨w.heap.size, 4, none⟩ = false := by simp [World.frozen?, show wr.heap[w.heap.size]? = some (Plc.obj t) from HKv.out, Plc.obj]
       obtain ⟨Wd, hWd⟩ : ∃ Wd, wr.setCell ⟨w.heap.size, 4, none⟩ (.int .i64 ((t.deep : Int) + 1)) = Wd := ⟨_, rfl⟩
       have HKd2 := Lib.hid (show Wd.heap[w.heap.size]? = some (Plc.down t).obj from by rw [← hWd]; exact down_obj HKv.out)
       have HBd2 := Lib.hid (show Below w.heap.size w Wd from by rw [← hWd]; exact HBv.out.setCell (p := ⟨w.heap.size, 4, none⟩) (Nat.le_refl _) _)
       have HPd := Lib.hid (show ∀ W, Below w.heap.size w W → Below Wd.heap.size Wd W → PlOk W N x s fn f (Plc.down t) from fun W h1 h2 => ((HPl.out W h1).down))
       have HWd2 := Lib.hid hWd
       have HLd := Lib.hid (show w.heap.size < Wd.heap.size from lt_blk HKd2.out)
       clear hWd
       go_upto_region 16 with fail
       rw [HWd2.out]
       clear HWd2 f4 c0 c1 c2 c3 c4 s0 s1 s11 s14 s15
       obtain ⟨s0, s1, s11, s14, s15⟩ := HS.out _ HBd2.out
       obtain ⟨c0, c1, c2, c3, c4⟩ := Plc.cells HKd2.out
       have HC1 := Lib.hid (HBd.out Wd.drew HBd2.out.drew _ (HPd.out _ HBd2.out.drew (Below.refl _ _).drew) (by show t.deep + 1 ≤ 65; omega) (by show t.ar.length ≤ t.deep + 1; omega))
       unfold Plc.v at HC1
       go_still_tail 5, (by kernel_rfl)
       change wpList _ _ _ _ _ (World.drew _)
       go_wp2_with fail
       refine HC1.out.mono ?_
       intro z w6 hc
       rcases hc with ⟨r1, hB6⟩ | ⟨r1, hB6⟩
       rotate_left
       · have HR := Lib.hid (HNo.out w6 _ (by rw [HRr.out, HRs.out]; exact seq_no r1) r1 (HBd2.out.drew.trans (hB6.mono HBd2.out.size)))
         unfold Pn
         clear hB6 r1 c0 c1 c2 c3 c4 s0 s1 s11 s14 s15
         go_wp2_with fail
         exact ⟨rfl, HR.out⟩
       have R6 := Lib.hid r1
       have HB6 := Lib.hid (And.intro (HBd2.out.drew.trans (hB6.mono HBd2.out.size)) (show Below Wd.heap.size Wd w6 from (Below.refl _ _).drew.trans hB6))
       clear hB6 r1 c0 c1 c2 c3 c4 s0 s1 s11 s14 s15
       obtain ⟨s0, s1, s11, s14, s15⟩ := HS.out _ HB6.out.1
       obtain ⟨c0, c1, c2, c3, c4⟩ := Plc.cells ((HB6.out.2.block _ HLd.out).trans HKd2.out)
       have HC2 := Lib.hid (HEl.out w6.drew HB6.out.1.drew _ (HPd.out _ HB6.out.1.drew HB6.out.2.drew) (by show t.deep + 1 ≤ 65; omega) (by show t.ar.length ≤ t.deep + 1; omega))
       unfold Plc.v at HC2
       go_wp2_with fail
       go_still_tail 5, (by kernel_rfl)
       change wpList _ _ _ _ _ (World.drew _)
       go_wp2_with fail
       refine HC2.out.mono ?_
       intro z w7 hc
       clear c0 c1 c2 c3 c4 s0 s1 s11 s14 s15
       rcases hc with ⟨r1, hB7⟩ | ⟨r1, hB7⟩
       · have HR := Lib.hid (HOK.out w7 (by rw [HRr.out, HRs.out]; exact (seq_ok R6.out).trans r1) (HB6.out.1.drew.trans (hB7.mono HB6.out.1.size)))
         clear hB7 r1
         go_wp2_with fail
         go_end0
         exact HR.out
       · have HR := Lib.hid (HNo.out w7 _ (by rw [HRr.out, HRs.out]; exact seq_ok R6.out) r1 (HB6.out.1.drew.trans (hB7.mono HB6.out.1.size)))
         unfold Pn
         clear hB7 r1
         go_wp2_with fail
         exact ⟨rfl, HR.out⟩
 by_cases k3 : kd = 3
 · subst k3
   go_wp2_with fail
   go_still_tail 4, (by kernel_rfl)
   change wpList _ _ _ _ _ (World.drew _)
   go_wp2_with fail
   refine (HExE.out _ (HU.out _ HB1.out.drew)).mono ?_
   intro z w3 hc
   rcases hc with ⟨r1, hB3⟩ | ⟨r1, hB3⟩
   rotate_left
   · have HR := Lib.hid (HNo.out w3 _ (by rw [← HEq.out]; unfold partsR; rw [HKd.out, if_neg (show ¬ (3 : Int) = 2 by decide), seq_ok (show (0 : Nat) = 0 from rfl), if_pos (.inr (.inr (.inl rfl)))]; exact seq_no r1) r1 (HU.out _ (HB1.out.drew.trans (hB3.mono HB1.out.drew.size))))
     unfold Pn
     clear hB3 r1 c0 c1 c2 c3 c4 s0 s1 s11 s14 s15
     go_wp2_with fail
     exact ⟨rfl, HR.out⟩
   have R3 := Lib.hid r1
   replace HB1 := Lib.hid (HB1.out.drew.trans (hB3.mono HB1.out.drew.size))
   clear hB3 r1 c0 c1 c2 c3 c4 s0 s1 s11 s14 s15
   obtain ⟨s0, s1, s11, s14, s15⟩ := HS.out _ (HU.out _ HB1.out)
   obtain ⟨c0, c1, c2, c3, c4⟩ := HP.out _ HB1.out
   have HRa := Lib.hid (show RR = seq (y.args.chk x fn t.deep) (restR x fn f t.fi y t.deep t.ar) by rw [← HEq.out]; unfold partsR; rw [HKd.out, if_neg (show ¬ (3 : Int) = 2 by decide), seq_ok (show (0 : Nat) = 0 from rfl), if_pos (.inr (.inr (.inl rfl))), seq_ok R3.out])
   have h5 : ¬ (3 : Int) = 5 := by decide
   go_wp2_with fail
   generalize hw3 : w3 = w3z at HB1 s0 s1 s11 s14 s15 c0 c1 c2 c3 c4 ⊢
   clear hw3
   clear s0 s1 s11 s14 s15 c0 c1 c2 c3 c4
   go_loopw [30] (fun i wr => ∃ (k : Nat) (r : Exs), i = .int .i64 k ∧ k + r.len = y.args.len ∧ Hid (r.At w N b2 (o2 + k * 4)) ∧ Hid (Below W0.heap.size W0 wr) ∧ Hid (RR = seq (r.chk x fn t.deep) (restR x fn f t.fi y t.deep t.ar))) (fun i _ => y.args.len - (intOf i).toNat)
   case atStart => exact ⟨0, y.args, rfl, by omega, Lib.hid (by rw [Nat.zero_mul]; exact HA2.out.1), HB1, HRa⟩
   case round =>
     obtain ⟨k, r, rfl, hk, hr, hB, hE⟩ := hrel
     obtain ⟨s0, s1, s11, s14, s15⟩ := HS.out _ (HU.out _ hB.out)
     obtain ⟨c0, c1, c2, c3, c4⟩ := HP.out _ hB.out
     cases r with
     | cons z r =>
       obtain ⟨hz, hr'⟩ := hr.out
       simp only [Exs.len] at hk
       have hlt : k < y.args.len := by omega
       have hpa : pg = some ⟨b2, o2, none⟩ := by
         rcases hq2 with h0 | h0
         · omega
         · exact h0
       have HR := Lib.hid hr'
       have HC := Lib.hid (HArg.out wr.drew (HU.out _ hB.out.drew) z (o2 + k * 4) hz (by have := HA2.out.2; omega))
       subst hpa
       clear hz hr hr'
       go_wp2_with fail
       go_still_tail 7, (by kernel_rfl)
       change wpList _ _ _ _ _ (World.drew _)
       go_wp2_with fail
       refine HC.out.mono ?_
       intro z1 w5 hc
       rcases hc with ⟨r1, hB5⟩ | ⟨r1, hB5⟩
       rotate_left
       · have HR := Lib.hid (HNo.out w5 _ (by rw [hE.out, Exs.chk, seq_no r1]; exact seq_no r1) r1 (HU.out _ (hB.out.drew.trans (hB5.mono hB.out.size))))
         unfold Pn
         clear hB5 r1 c0 c1 c2 c3 c4 s0 s1 s11 s14 s15
         go_wp2_with fail
         exact ⟨rfl, HR.out⟩
       have HE2 := Lib.hid (show RR = seq (r.chk x fn t.deep) (restR x fn f t.fi y t.deep t.ar) by rw [hE.out, Exs.chk, seq_ok r1])
       have HB5 := Lib.hid (hB.out.drew.trans (hB5.mono hB.out.size))
       clear hB5 r1 c0 c1 c2 c3 c4 s0 s1 s11 s14 s15
       go_wp2_with fail
       go_roundw
       case rel => exact ⟨k + 1, r, by go_num, by omega, Lib.hid (by rw [show o2 + (k + 1) * 4 = o2 + k * 4 + 4 by omega]; exact HR.out), HB5, HE2⟩
       case measure => simp [intOf]; omega
     | nil =>
       simp only [Exs.len] at hk
       have hge : ¬ k < y.args.len := by omega
       have HRr := Lib.hid (show RR = restR x fn f t.fi y t.deep t.ar by rw [hE.out, Exs.chk]; exact seq_ok rfl)
       have HBr := Lib.hid hB.out
       clear hE hr hB
       have HRs := Lib.hid (show restR x fn f t.fi y t.deep t.ar = seq (y.body.chk x fn f t.fi (t.deep + 1) t.ar) (y.els.chk x fn f t.fi (t.deep + 1) t.ar) by unfold restR arOf; rw [if_neg (by rw [HKd.out]; exact h5)])
       have HKv := Lib.hid (HK.out _ HBr.out)
       have HBv := Lib.hid (HU.out _ HBr.out)
       have f4 : wr.frozen? ⟨w.heap.size, 4, none⟩ = false := by simp [World.frozen?, show wr.heap[w.heap.size]? = some (Plc.obj t) from HKv.out, Plc.obj]
       obtain ⟨Wd, hWd⟩ : ∃ Wd, wr.setCell ⟨w.heap.size, 4, none⟩ (.int .i64 ((t.deep : Int) + 1)) = Wd := ⟨_, rfl⟩
       have HKd2 := Lib.hid (show Wd.heap[w.heap.size]? = some (Plc.down t).obj from by rw [← hWd]; exact down_obj HKv.out)
       have HBd2 := Lib.hid (show Below w.heap.size w Wd from by rw [← hWd]; exact HBv.out.setCell (p := ⟨w.heap.size, 4, none⟩) (Nat.le_refl _) _)
       have HPd := Lib.hid (show ∀ W, Below w.heap.size w W → Below Wd.heap.size Wd W → PlOk W N x s fn f (Plc.down t) from fun W h1 h2 => ((HPl.out W h1).down))
       have HWd2 := Lib.hid hWd
       have HLd := Lib.hid (show w.heap.size < Wd.heap.size from lt_blk HKd2.out)
       clear hWd
       go_upto_region 16 with fail
       rw [HWd2.out]
       clear HWd2 f4 c0 c1 c2 c3 c4 s0 s1 s11 s14 s15
       obtain ⟨s0, s1, s11, s14, s15⟩ := HS.out _ HBd2.out
       obtain ⟨c0, c1, c2, c3, c4⟩ := Plc.cells HKd2.out
       have HC1 := Lib.hid (HBd.out Wd.drew HBd2.out.drew _ (HPd.out _ HBd2.out.drew (Below.refl _ _).drew) (by show t.deep + 1 ≤ 65; omega) (by show t.ar.length ≤ t.deep + 1; omega))
       unfold Plc.v at HC1
       go_still_tail 5, (by kernel_rfl)
       change wpList _ _ _ _ _ (World.drew _)
       go_wp2_with fail
       refine HC1.out.mono ?_
       intro z w6 hc
       rcases hc with ⟨r1, hB6⟩ | ⟨r1, hB6⟩
       rotate_left
       · have HR := Lib.hid (HNo.out w6 _ (by rw [HRr.out, HRs.out]; exact seq_no r1) r1 (HBd2.out.drew.trans (hB6.mono HBd2.out.size)))
         unfold Pn
         clear hB6 r1 c0 c1 c2 c3 c4 s0 s1 s11 s14 s15
         go_wp2_with fail
         exact ⟨rfl, HR.out⟩
       have R6 := Lib.hid r1
       have HB6 := Lib.hid (And.intro (HBd2.out.drew.trans (hB6.mono HBd2.out.size)) (show Below Wd.heap.size Wd w6 from (Below.refl _ _).drew.trans hB6))
       clear hB6 r1 c0 c1 c2 c3 c4 s0 s1 s11 s14 s15
       obtain ⟨s0, s1, s11, s14, s15⟩ := HS.out _ HB6.out.1
       obtain ⟨c0, c1, c2, c3, c4⟩ := Plc.cells ((HB6.out.2.block _ HLd.out).trans HKd2.out)
       have HC2 := Lib.hid (HEl.out w6.drew HB6.out.1.drew _ (HPd.out _ HB6.out.1.drew HB6.out.2.drew) (by show t.deep + 1 ≤ 65; omega) (by show t.ar.length ≤ t.deep + 1; omega))
       unfold Plc.v at HC2
       go_wp2_with fail
       go_still_tail 5, (by kernel_rfl)
       change wpList _ _ _ _ _ (World.drew _)
       go_wp2_with fail
       refine HC2.out.mono ?_
       intro z w7 hc
       clear c0 c1 c2 c3 c4 s0 s1 s11 s14 s15
       rcases hc with ⟨r1, hB7⟩ | ⟨r1, hB7⟩
       · have HR := Lib.hid (HOK.out w7 (by rw [HRr.out, HRs.out]; exact (seq_ok R6.out).trans r1) (HB6.out.1.drew.trans (hB7.mono HB6.out.1.size)))
         clear hB7 r1
         go_wp2_with fail
         go_end0
         exact HR.out
       · have HR := Lib.hid (HNo.out w7 _ (by rw [HRr.out, HRs.out]; exact seq_ok R6.out) r1 (HB6.out.1.drew.trans (hB7.mono HB6.out.1.size)))
         unfold Pn
         clear hB7 r1
         go_wp2_with fail
         exact ⟨rfl, HR.out⟩
 by_cases k4 : kd = 4
 · subst k4
   go_wp2_with fail
   go_still_tail 4, (by kernel_rfl)
   change wpList _ _ _ _ _ (World.drew _)
   go_wp2_with fail
   refine (HExE.out _ (HU.out _ HB1.out.drew)).mono ?_
   intro z w3 hc
   rcases hc with ⟨r1, hB3⟩ | ⟨r1, hB3⟩
   rotate_left
   · have HR := Lib.hid (HNo.out w3 _ (by rw [← HEq.out]; unfold partsR; rw [HKd.out, if_neg (show ¬ (4 : Int) = 2 by decide), seq_ok (show (0 : Nat) = 0 from rfl), if_pos (.inr (.inr (.inr rfl)))]; exact seq_no r1) r1 (HU.out _ (HB1.out.drew.trans (hB3.mono HB1.out.drew.size))))
     unfold Pn
     clear hB3 r1 c0 c1 c2 c3 c4 s0 s1 s11 s14 s15
     go_wp2_with fail
     exact ⟨rfl, HR.out⟩
   have R3 := Lib.hid r1
   replace HB1 := Lib.hid (HB1.out.drew.trans (hB3.mono HB1.out.drew.size))
   clear hB3 r1 c0 c1 c2 c3 c4 s0 s1 s11 s14 s15
   obtain ⟨s0, s1, s11, s14, s15⟩ := HS.out _ (HU.out _ HB1.out)
   obtain ⟨c0, c1, c2, c3, c4⟩ := HP.out _ HB1.out
   have HRa := Lib.hid (show RR = seq (y.args.chk x fn t.deep) (restR x fn f t.fi y t.deep t.ar) by rw [← HEq.out]; unfold partsR; rw [HKd.out, if_neg (show ¬ (4 : Int) = 2 by decide), seq_ok (show (0 : Nat) = 0 from rfl), if_pos (.inr (.inr (.inr rfl))), seq_ok R3.out])
   have h5 : ¬ (4 : Int) = 5 := by decide
   go_wp2_with fail
   generalize hw3 : w3 = w3z at HB1 s0 s1 s11 s14 s15 c0 c1 c2 c3 c4 ⊢
   clear hw3
   clear s0 s1 s11 s14 s15 c0 c1 c2 c3 c4
   go_loopw [30] (fun i wr => ∃ (k : Nat) (r : Exs), i = .int .i64 k ∧ k + r.len = y.args.len ∧ Hid (r.At w N b2 (o2 + k * 4)) ∧ Hid (Below W0.heap.size W0 wr) ∧ Hid (RR = seq (r.chk x fn t.deep) (restR x fn f t.fi y t.deep t.ar))) (fun i _ => y.args.len - (intOf i).toNat)
   case atStart => exact ⟨0, y.args, rfl, by omega, Lib.hid (by rw [Nat.zero_mul]; exact HA2.out.1), HB1, HRa⟩
   case round =>
     obtain ⟨k, r, rfl, hk, hr, hB, hE⟩ := hrel
     obtain ⟨s0, s1, s11, s14, s15⟩ := HS.out _ (HU.out _ hB.out)
     obtain ⟨c0, c1, c2, c3, c4⟩ := HP.out _ hB.out
     cases r with
     | cons z r =>
       obtain ⟨hz, hr'⟩ := hr.out
       simp only [Exs.len] at hk
       have hlt : k < y.args.len := by omega
       have hpa : pg = some ⟨b2, o2, none⟩ := by
         rcases hq2 with h0 | h0
         · omega
         · exact h0
       have HR := Lib.hid hr'
       have HC := Lib.hid (HArg.out wr.drew (HU.out _ hB.out.drew) z (o2 + k * 4) hz (by have := HA2.out.2; omega))
       subst hpa
       clear hz hr hr'
       go_wp2_with fail
       go_still_tail 7, (by kernel_rfl)
       change wpList _ _ _ _ _ (World.drew _)
       go_wp2_with fail
       refine HC.out.mono ?_
       intro z1 w5 hc
       rcases hc with ⟨r1, hB5⟩ | ⟨r1, hB5⟩
       rotate_left
       · have HR := Lib.hid (HNo.out w5 _ (by rw [hE.out, Exs.chk, seq_no r1]; exact seq_no r1) r1 (HU.out _ (hB.out.drew.trans (hB5.mono hB.out.size))))
         unfold Pn
         clear hB5 r1 c0 c1 c2 c3 c4 s0 s1 s11 s14 s15
         go_wp2_with fail
         exact ⟨rfl, HR.out⟩
       have HE2 := Lib.hid (show RR = seq (r.chk x fn t.deep) (restR x fn f t.fi y t.deep t.ar) by rw [hE.out, Exs.chk, seq_ok r1])
       have HB5 := Lib.hid (hB.out.drew.trans (hB5.mono hB.out.size))
       clear hB5 r1 c0 c1 c2 c3 c4 s0 s1 s11 s14 s15
       go_wp2_with fail
       go_roundw
       case rel => exact ⟨k + 1, r, by go_num, by omega, Lib.hid (by rw [show o2 + (k + 1) * 4 = o2 + k * 4 + 4 by omega]; exact HR.out), HB5, HE2⟩
       case measure => simp [intOf]; omega
     | nil =>
       simp only [Exs.len] at hk
       have hge : ¬ k < y.args.len := by omega
       have HRr := Lib.hid (show RR = restR x fn f t.fi y t.deep t.ar by rw [hE.out, Exs.chk]; exact seq_ok rfl)
       have HBr := Lib.hid hB.out
       clear hE hr hB
       have HRs := Lib.hid (show restR x fn f t.fi y t.deep t.ar = seq (y.body.chk x fn f t.fi (t.deep + 1) t.ar) (y.els.chk x fn f t.fi (t.deep + 1) t.ar) by unfold restR arOf; rw [if_neg (by rw [HKd.out]; exact h5)])
       have HKv := Lib.hid (HK.out _ HBr.out)
       have HBv := Lib.hid (HU.out _ HBr.out)
       have f4 : wr.frozen? ⟨w.heap.size, 4, none⟩ = false := by simp [World.frozen?, show wr.heap[w.heap.size]? = some (Plc.obj t) from HKv.out, Plc.obj]
       obtain ⟨Wd, hWd⟩ : ∃ Wd, wr.setCell ⟨w.heap.size, 4, none⟩ (.int .i64 ((t.deep : Int) + 1)) = Wd := ⟨_, rfl⟩
       have HKd2 := Lib.hid (show Wd.heap[w.heap.size]? = some (Plc.down t).obj from by rw [← hWd]; exact down_obj HKv.out)
       have HBd2 := Lib.hid (show Below w.heap.size w Wd from by rw [← hWd]; exact HBv.out.setCell (p := ⟨w.heap.size, 4, none⟩) (Nat.le_refl _) _)
       have HPd := Lib.hid (show ∀ W, Below w.heap.size w W → Below Wd.heap.size Wd W → PlOk W N x s fn f (Plc.down t) from fun W h1 h2 => ((HPl.out W h1).down))
       have HWd2 := Lib.hid hWd
       have HLd := Lib.hid (show w.heap.size < Wd.heap.size from lt_blk HKd2.out)
       clear hWd
       go_upto_region 16 with fail
       rw [HWd2.out]
       clear HWd2 f4 c0 c1 c2 c3 c4 s0 s1 s11 s14 s15
       obtain ⟨s0, s1, s11, s14, s15⟩ := HS.out _ HBd2.out
       obtain ⟨c0, c1, c2, c3, c4⟩ := Plc.cells HKd2.out
       have HC1 := Lib.hid (HBd.out Wd.drew HBd2.out.drew _ (HPd.out _ HBd2.out.drew (Below.refl _ _).drew) (by show t.deep + 1 ≤ 65; omega) (by show t.ar.length ≤ t.deep + 1; omega))
       unfold Plc.v at HC1
       go_still_tail 5, (by kernel_rfl)
       change wpList _ _ _ _ _ (World.drew _)
       go_wp2_with fail
       refine HC1.out.mono ?_
       intro z w6 hc
       rcases hc with ⟨r1, hB6⟩ | ⟨r1, hB6⟩
       rotate_left
       · have HR := Lib.hid (HNo.out w6 _ (by rw [HRr.out, HRs.out]; exact seq_no r1) r1 (HBd2.out.drew.trans (hB6.mono HBd2.out.size)))
         unfold Pn
         clear hB6 r1 c0 c1 c2 c3 c4 s0 s1 s11 s14 s15
         go_wp2_with fail
         exact ⟨rfl, HR.out⟩
       have R6 := Lib.hid r1
       have HB6 := Lib.hid (And.intro (HBd2.out.drew.trans (hB6.mono HBd2.out.size)) (show Below Wd.heap.size Wd w6 from (Below.refl _ _).drew.trans hB6))
       clear hB6 r1 c0 c1 c2 c3 c4 s0 s1 s11 s14 s15
       obtain ⟨s0, s1, s11, s14, s15⟩ := HS.out _ HB6.out.1
       obtain ⟨c0, c1, c2, c3, c4⟩ := Plc.cells ((HB6.out.2.block _ HLd.out).trans HKd2.out)
       have HC2 := Lib.hid (HEl.out w6.drew HB6.out.1.drew _ (HPd.out _ HB6.out.1.drew HB6.out.2.drew) (by show t.deep + 1 ≤ 65; omega) (by show t.ar.length ≤ t.deep + 1; omega))
       unfold Plc.v at HC2
       go_wp2_with fail
       go_still_tail 5, (by kernel_rfl)
       change wpList _ _ _ _ _ (World.drew _)
       go_wp2_with fail
       refine HC2.out.mono ?_
       intro z w7 hc
       clear c0 c1 c2 c3 c4 s0 s1 s11 s14 s15
       rcases hc with ⟨r1, hB7⟩ | ⟨r1, hB7⟩
       · have HR := Lib.hid (HOK.out w7 (by rw [HRr.out, HRs.out]; exact (seq_ok R6.out).trans r1) (HB6.out.1.drew.trans (hB7.mono HB6.out.1.size)))
         clear hB7 r1
         go_wp2_with fail
         go_end0
         exact HR.out
       · have HR := Lib.hid (HNo.out w7 _ (by rw [HRr.out, HRs.out]; exact seq_ok R6.out) r1 (HB6.out.1.drew.trans (hB7.mono HB6.out.1.size)))
         unfold Pn
         clear hB7 r1
         go_wp2_with fail
         exact ⟨rfl, HR.out⟩
 have e2 : (kd == 2) = false := by simp [k2]
 have e1 : (kd == 1) = false := by simp [k1]
 have e3 : (kd == 3) = false := by simp [k3]
 have e4 : (kd == 4) = false := by simp [k4]
 have HRa := Lib.hid (show RR = seq (y.args.chk x fn t.deep) (restR x fn f t.fi y t.deep t.ar) by rw [← HEq.out]; unfold partsR; rw [HKd.out, if_neg k2, seq_ok (show (0 : Nat) = 0 from rfl), if_neg (by simp [k1, k2, k3, k4]), seq_ok (show (0 : Nat) = 0 from rfl)])
 by_cases h5 : kd = 5
 rotate_left
 · have e5 : (kd == 5) = false := by simp [h5]
   go_wp2_with fail
   skip
   clear s0 s1 s11 s14 s15 c0 c1 c2 c3 c4
   go_loopw [30] (fun i wr => ∃ (k : Nat) (r : Exs), i = .int .i64 k ∧ k + r.len = y.args.len ∧ Hid (r.At w N b2 (o2 + k * 4)) ∧ Hid (Below W0.heap.size W0 wr) ∧ Hid (RR = seq (r.chk x fn t.deep) (restR x fn f t.fi y t.deep t.ar))) (fun i _ => y.args.len - (intOf i).toNat)
   case atStart => exact ⟨0, y.args, rfl, by omega, Lib.hid (by rw [Nat.zero_mul]; exact HA2.out.1), HB1, HRa⟩
   case round =>
     obtain ⟨k, r, rfl, hk, hr, hB, hE⟩ := hrel
     obtain ⟨s0, s1, s11, s14, s15⟩ := HS.out _ (HU.out _ hB.out)
     obtain ⟨c0, c1, c2, c3, c4⟩ := HP.out _ hB.out
     cases r with
     | cons z r =>
       obtain ⟨hz, hr'⟩ := hr.out
       simp only [Exs.len] at hk
       have hlt : k < y.args.len := by omega
       have hpa : pg = some ⟨b2, o2, none⟩ := by
         rcases hq2 with h0 | h0
         · omega
         · exact h0
       have HR := Lib.hid hr'
       have HC := Lib.hid (HArg.out wr.drew (HU.out _ hB.out.drew) z (o2 + k * 4) hz (by have := HA2.out.2; omega))
       subst hpa
       clear hz hr hr'
       go_wp2_with fail
       go_still_tail 7, (by kernel_rfl)
       change wpList _ _ _ _ _ (World.drew _)
       go_wp2_with fail
       refine HC.out.mono ?_
       intro z1 w5 hc
       rcases hc with ⟨r1, hB5⟩ | ⟨r1, hB5⟩
       rotate_left
       · have HR := Lib.hid (HNo.out w5 _ (by rw [hE.out, Exs.chk, seq_no r1]; exact seq_no r1) r1 (HU.out _ (hB.out.drew.trans (hB5.mono hB.out.size))))
         unfold Pn
         clear hB5 r1 c0 c1 c2 c3 c4 s0 s1 s11 s14 s15
         go_wp2_with fail
         exact ⟨rfl, HR.out⟩
       have HE2 := Lib.hid (show RR = seq (r.chk x fn t.deep) (restR x fn f t.fi y t.deep t.ar) by rw [hE.out, Exs.chk, seq_ok r1])
       have HB5 := Lib.hid (hB.out.drew.trans (hB5.mono hB.out.size))
       clear hB5 r1 c0 c1 c2 c3 c4 s0 s1 s11 s14 s15
       go_wp2_with fail
       go_roundw
       case rel => exact ⟨k + 1, r, by go_num, by omega, Lib.hid (by rw [show o2 + (k + 1) * 4 = o2 + k * 4 + 4 by omega]; exact HR.out), HB5, HE2⟩
       case measure => simp [intOf]; omega
     | nil =>
       simp only [Exs.len] at hk
       have hge : ¬ k < y.args.len := by omega
       have HRr := Lib.hid (show RR = restR x fn f t.fi y t.deep t.ar by rw [hE.out, Exs.chk]; exact seq_ok rfl)
       have HBr := Lib.hid hB.out
       clear hE hr hB
       have HRs := Lib.hid (show restR x fn f t.fi y t.deep t.ar = seq (y.body.chk x fn f t.fi (t.deep + 1) t.ar) (y.els.chk x fn f t.fi (t.deep + 1) t.ar) by unfold restR arOf; rw [if_neg (by rw [HKd.out]; exact h5)])
       have HKv := Lib.hid (HK.out _ HBr.out)
       have HBv := Lib.hid (HU.out _ HBr.out)
       have f4 : wr.frozen? ⟨w.heap.size, 4, none⟩ = false := by simp [World.frozen?, show wr.heap[w.heap.size]? = some (Plc.obj t) from HKv.out, Plc.obj]
       obtain ⟨Wd, hWd⟩ : ∃ Wd, wr.setCell ⟨w.heap.size, 4, none⟩ (.int .i64 ((t.deep : Int) + 1)) = Wd := ⟨_, rfl⟩
       have HKd2 := Lib.hid (show Wd.heap[w.heap.size]? = some (Plc.down t).obj from by rw [← hWd]; exact down_obj HKv.out)
       have HBd2 := Lib.hid (show Below w.heap.size w Wd from by rw [← hWd]; exact HBv.out.setCell (p := ⟨w.heap.size, 4, none⟩) (Nat.le_refl _) _)
       have HPd := Lib.hid (show ∀ W, Below w.heap.size w W → Below Wd.heap.size Wd W → PlOk W N x s fn f (Plc.down t) from fun W h1 h2 => ((HPl.out W h1).down))
       have HWd2 := Lib.hid hWd
       have HLd := Lib.hid (show w.heap.size < Wd.heap.size from lt_blk HKd2.out)
       clear hWd
       go_upto_region 16 with fail
       rw [HWd2.out]
       clear HWd2 f4 c0 c1 c2 c3 c4 s0 s1 s11 s14 s15
       obtain ⟨s0, s1, s11, s14, s15⟩ := HS.out _ HBd2.out
       obtain ⟨c0, c1, c2, c3, c4⟩ := Plc.cells HKd2.out
       have HC1 := Lib.hid (HBd.out Wd.drew HBd2.out.drew _ (HPd.out _ HBd2.out.drew (Below.refl _ _).drew) (by show t.deep + 1 ≤ 65; omega) (by show t.ar.length ≤ t.deep + 1; omega))
       unfold Plc.v at HC1
       go_still_tail 5, (by kernel_rfl)
       change wpList _ _ _ _ _ (World.drew _)
       go_wp2_with fail
       refine HC1.out.mono ?_
       intro z w6 hc
       rcases hc with ⟨r1, hB6⟩ | ⟨r1, hB6⟩
       rotate_left
       · have HR := Lib.hid (HNo.out w6 _ (by rw [HRr.out, HRs.out]; exact seq_no r1) r1 (HBd2.out.drew.trans (hB6.mono HBd2.out.size)))
         unfold Pn
         clear hB6 r1 c0 c1 c2 c3 c4 s0 s1 s11 s14 s15
         go_wp2_with fail
         exact ⟨rfl, HR.out⟩
       have R6 := Lib.hid r1
       have HB6 := Lib.hid (And.intro (HBd2.out.drew.trans (hB6.mono HBd2.out.size)) (show Below Wd.heap.size Wd w6 from (Below.refl _ _).drew.trans hB6))
       clear hB6 r1 c0 c1 c2 c3 c4 s0 s1 s11 s14 s15
       obtain ⟨s0, s1, s11, s14, s15⟩ := HS.out _ HB6.out.1
       obtain ⟨c0, c1, c2, c3, c4⟩ := Plc.cells ((HB6.out.2.block _ HLd.out).trans HKd2.out)
       have HC2 := Lib.hid (HEl.out w6.drew HB6.out.1.drew _ (HPd.out _ HB6.out.1.drew HB6.out.2.drew) (by show t.deep + 1 ≤ 65; omega) (by show t.ar.length ≤ t.deep + 1; omega))
       unfold Plc.v at HC2
       go_wp2_with fail
       go_still_tail 5, (by kernel_rfl)
       change wpList _ _ _ _ _ (World.drew _)
       go_wp2_with fail
       refine HC2.out.mono ?_
       intro z w7 hc
       clear c0 c1 c2 c3 c4 s0 s1 s11 s14 s15
       rcases hc with ⟨r1, hB7⟩ | ⟨r1, hB7⟩
       · have HR := Lib.hid (HOK.out w7 (by rw [HRr.out, HRs.out]; exact (seq_ok R6.out).trans r1) (HB6.out.1.drew.trans (hB7.mono HB6.out.1.size)))
         clear hB7 r1
         go_wp2_with fail
         go_end0
         exact HR.out
       · have HR := Lib.hid (HNo.out w7 _ (by rw [HRr.out, HRs.out]; exact seq_ok R6.out) r1 (HB6.out.1.drew.trans (hB7.mono HB6.out.1.size)))
         unfold Pn
         clear hB7 r1
         go_wp2_with fail
         exact ⟨rfl, HR.out⟩
 subst h5
 clear e1 e2 e3 e4 k1 k2 k3 k4
 go_wp2_with fail
 skip
 clear s0 s1 s11 s14 s15 c0 c1 c2 c3 c4
 go_loopw [30] (fun i wr => ∃ (k : Nat) (r : Exs), i = .int .i64 k ∧ k + r.len = y.args.len ∧ Hid (r.At w N b2 (o2 + k * 4)) ∧ Hid (Below W0.heap.size W0 wr) ∧ Hid (RR = seq (r.chk x fn t.deep) (restR x fn f t.fi y t.deep t.ar))) (fun i _ => y.args.len - (intOf i).toNat)
 case atStart => exact ⟨0, y.args, rfl, by omega, Lib.hid (by rw [Nat.zero_mul]; exact HA2.out.1), HB1, HRa⟩
 case round =>
   obtain ⟨k, r, rfl, hk, hr, hB, hE⟩ := hrel
   obtain ⟨s0, s1, s11, s14, s15⟩ := HS.out _ (HU.out _ hB.out)
   obtain ⟨c0, c1, c2, c3, c4⟩ := HP.out _ hB.out
   cases r with
   | cons z r =>
     obtain ⟨hz, hr'⟩ := hr.out
     simp only [Exs.len] at hk
     have hlt : k < y.args.len := by omega
     have hpa : pg = some ⟨b2, o2, none⟩ := by
       rcases hq2 with h0 | h0
       · omega
       · exact h0
     have HR := Lib.hid hr'
     have HC := Lib.hid (HArg.out wr.drew (HU.out _ hB.out.drew) z (o2 + k * 4) hz (by have := HA2.out.2; omega))
     subst hpa
     clear hz hr hr'
     go_wp2_with fail
     go_still_tail 7, (by kernel_rfl)
     change wpList _ _ _ _ _ (World.drew _)
     go_wp2_with fail
     refine HC.out.mono ?_
     intro z1 w5 hc
     rcases hc with ⟨r1, hB5⟩ | ⟨r1, hB5⟩
     rotate_left
     · have HR := Lib.hid (HNo.out w5 _ (by rw [hE.out, Exs.chk, seq_no r1]; exact seq_no r1) r1 (HU.out _ (hB.out.drew.trans (hB5.mono hB.out.size))))
       unfold Pn
       clear hB5 r1 c0 c1 c2 c3 c4 s0 s1 s11 s14 s15
       go_wp2_with fail
       exact ⟨rfl, HR.out⟩
     have HE2 := Lib.hid (show RR = seq (r.chk x fn t.deep) (restR x fn f t.fi y t.deep t.ar) by rw [hE.out, Exs.chk, seq_ok r1])
     have HB5 := Lib.hid (hB.out.drew.trans (hB5.mono hB.out.size))
     clear hB5 r1 c0 c1 c2 c3 c4 s0 s1 s11 s14 s15
     go_wp2_with fail
     go_roundw
     case rel => exact ⟨k + 1, r, by go_num, by omega, Lib.hid (by rw [show o2 + (k + 1) * 4 = o2 + k * 4 + 4 by omega]; exact HR.out), HB5, HE2⟩
     case measure => simp [intOf]; omega
   | nil =>
     simp only [Exs.len] at hk
     have hge : ¬ k < y.args.len := by omega
     have HRr := Lib.hid (show RR = restR x fn f t.fi y t.deep t.ar by rw [hE.out, Exs.chk]; exact seq_ok rfl)
     have HBr := Lib.hid hB.out
     clear hE hr hB
     have HRs := Lib.hid (show restR x fn f t.fi y t.deep t.ar = seq (y.body.chk x fn f t.fi (t.deep + 1) (t.ar ++ [y.name])) (y.els.chk x fn f t.fi (t.deep + 1) (t.ar ++ [y.name])) by unfold restR arOf; rw [if_pos HKd.out])
     have HCp := Lib.hid (fun (W : World) => clip_any t.ar t.ap t.ac W (HPl.out _ HB0.out).cap (by omega))
     have h5t : ((5 : Int) == 5) = true := rfl
     go_upto_if 46 with fail
     go_cut [] from 47 to 56 (fun wx => ∃ (c2 g : Nat), Hid (g ≠ w.heap.size) ∧ Hid (wx.heap[w.heap.size]? = some (Plc.obj { t with ar := t.ar ++ [y.name], ap := some ⟨g, 0, none⟩, ac := c2 })) ∧ Hid (Below w.heap.size w wx) ∧ Hid (RowIn wx.heap.size (StrAt wx) 1 (t.ar ++ [y.name]) (some ⟨g, 0, none⟩) ∧ t.ar.length + 1 ≤ c2))
     case first =>
       have HLs := Lib.hid (show w.heap.size < wr.heap.size ∧ b < wr.heap.size from ⟨Nat.lt_of_lt_of_le HL0.out HBr.out.size, Nat.lt_of_lt_of_le (Nat.lt_trans hbN HL0.out) HBr.out.size⟩)
       have HX : Below wr.heap.size wr wr.drew := (Below.refl _ _).drew
       go_wp2_with fail
       refine wp_region_held_drew (S := fun W => W.cell? ⟨b, o + 1, none⟩ = some (.string (str y.name))) (by kernel_rfl) ?_ (fun hHeld => ?_)
       · exact (HX.cell (p := ⟨b, o + 1, none⟩) HLs.out.2).trans s1
       refine tq 0 ?_
       refine tq 3 ?_
       refine tq 4 ?_
       refine tq 5 ?_
       refine tq 6 ?_
       refine wpAnyH_ready (rs := [1, 7]) (by kernel_rfl) (by simp) ?_
       refine rdy rfl (fun K hK => ?_) (rdy rfl (fun K hK => ?_) AllReadyH.nil)
       · go_simp
         refine hK.out _ _ ?_ (fun hHeld => ?_)
         · exact (HX.cell (p := ⟨b, o + 1, none⟩) HLs.out.2).trans s1
         clear hK K
         try simp only [Act.put, List.setIfInBounds_toArray, List.set_cons_zero, List.set_cons_succ]
         refine wpAnyH_ready (rs := [2, 7]) (by kernel_rfl) (by simp) ?_
         refine rdy rfl (fun K hK => ?_) (rdy rfl (fun K hK => ?_) AllReadyH.nil)
         · go_simp
           refine (HCp.out _).mono ?_
           rintro z w' ⟨rfl, rfl⟩
           refine hK.out _ _ ?_ (fun hHeld => ?_)
           · exact (HX.cell (p := ⟨b, o + 1, none⟩) HLs.out.2).trans s1
           clear hK K
           try simp only [Act.put, List.setIfInBounds_toArray, List.set_cons_zero, List.set_cons_succ]
           refine wpAnyH_ready (rs := [7]) (by kernel_rfl) (by simp) ?_
           refine rdy rfl (fun K hK => ?_) AllReadyH.nil
           go_simp
           replace HX := HX.alloc HX.size (.cells #[.string (str y.name)] 9)
           refine hK.out _ _ ?_ (fun hHeld => ?_)
           · exact (HX.cell (p := ⟨b, o + 1, none⟩) HLs.out.2).trans s1
           clear hK K
           try simp only [Act.put, List.setIfInBounds_toArray, List.set_cons_zero, List.set_cons_succ]
           obtain ⟨w2, cap2, hap, hrow, hc2, hBa⟩ := clip_append t.ar y.name t.ap wr.heap.size _ (wr.drew.alloc (.cells #[.string (str y.name)] 9)) (HPl.out _ ((HU.out _ HBr.out).trans (HX.mono (HU.out _ HBr.out).size))).ar (cell_blk (heap_alloc_new wr.drew _) rfl) (by omega) 42
           have hXa : Below wr.heap.size wr w2 := HX.trans (hBa.mono (by simp))
           have HXa := Lib.hid hXa
           have HAp := Lib.hid (And.intro hrow hc2)
           have k2 : w2.heap[w.heap.size]? = some t.obj := (hXa.block _ HLs.out.1).trans (HK.out _ HBr.out)
           have z3 : w2.cell? ⟨w.heap.size, 3, none⟩ = some (.slice t.ap t.ar.length t.ac) := cell_blk k2 rfl
           have zf : w2.frozen? ⟨w.heap.size, 3, none⟩ = false := by simp [World.frozen?, k2, Plc.obj]
           have HKa := Lib.hid k2
           clear hrow hc2 hBa hXa k2
           refine wpAnyH_ready (rs := [8]) (by kernel_rfl) (by simp) ?_
           refine rdy rfl (fun K hK => ?_) AllReadyH.nil
           refine Lib.wp_append_run _ _ _ _ _ rfl _ _ rfl rfl _ _ hap ?_
           refine hK.out _ _ ?_ (fun hHeld => ?_)
           · exact (HXa.out.cell (p := ⟨b, o + 1, none⟩) HLs.out.2).trans s1
           clear hK K
           try simp only [Act.put, List.setIfInBounds_toArray, List.set_cons_zero, List.set_cons_succ]
           refine tq 9 ?_
           refine wpAnyH_ready (rs := [10]) (by kernel_rfl) (by simp) ?_
           refine rdy rfl (fun K hK => ?_) AllReadyH.nil
           go_simp
           have HXb := Lib.hid ((HU.out _ (HBr.out.trans (HXa.out.mono HBr.out.size))).setCell (p := ⟨w.heap.size, 3, none⟩) (Nat.le_refl _) (.slice (some ⟨wr.heap.size + 1, 0, none⟩) (t.ar.length + 1) cap2))
           refine hK.out _ _ ?_ (fun hHeld => ?_)
           · exact (World.cell?_of_block (w := w2) (Below.heap_setCell w2 _ _ _ (Nat.ne_of_lt hbN))).trans ((HXa.out.cell (p := ⟨b, o + 1, none⟩) HLs.out.2).trans s1)
           clear hK K
           try simp only [Act.put, List.setIfInBounds_toArray, List.set_cons_zero, List.set_cons_succ]
           refine wpAnyH_done (by kernel_rfl) ?_ _
           go_wp2_with fail
           go_meet
           have ha := around_obj (a := t.ar ++ [y.name]) (p := some ⟨wr.heap.size + 1, 0, none⟩) (c := cap2) HKa.out
           rw [List.length_append, List.length_singleton] at ha
           refine ⟨cap2, wr.heap.size + 1, Lib.hid (by have := HLs.out.1; omega), Lib.hid ha, Lib.hid HXb.out, Lib.hid ⟨?_, HAp.out.2⟩⟩
           exact row_set (W := w2.setCell ⟨w.heap.size, 3, none⟩ (.slice (some ⟨wr.heap.size + 1, 0, none⟩) (t.ar.length + 1) cap2)) (by simpa using HAp.out.1) (Below.heap_setCell w2 _ _ _ (by have := HLs.out.1; show wr.heap.size + 1 ≠ w.heap.size; omega)) (by simp [World.setCell])
         · go_simp
           replace HX := HX.alloc HX.size (.cells #[.string (str y.name)] 9)
           refine hK.out _ _ ?_ (fun hHeld => ?_)
           · exact (HX.cell (p := ⟨b, o + 1, none⟩) HLs.out.2).trans s1
           clear hK K
           try simp only [Act.put, List.setIfInBounds_toArray, List.set_cons_zero, List.set_cons_succ]
           refine wpAnyH_ready (rs := [2]) (by kernel_rfl) (by simp) ?_
           refine rdy rfl (fun K hK => ?_) AllReadyH.nil
           go_simp
           refine (HCp.out _).mono ?_
           rintro z w' ⟨rfl, rfl⟩
           refine hK.out _ _ ?_ (fun hHeld => ?_)
           · exact (HX.cell (p := ⟨b, o + 1, none⟩) HLs.out.2).trans s1
           clear hK K
           try simp only [Act.put, List.setIfInBounds_toArray, List.set_cons_zero, List.set_cons_succ]
           obtain ⟨w2, cap2, hap, hrow, hc2, hBa⟩ := clip_append t.ar y.name t.ap wr.heap.size _ (wr.drew.alloc (.cells #[.string (str y.name)] 9)) (HPl.out _ ((HU.out _ HBr.out).trans (HX.mono (HU.out _ HBr.out).size))).ar (cell_blk (heap_alloc_new wr.drew _) rfl) (by omega) 42
           have hXa : Below wr.heap.size wr w2 := HX.trans (hBa.mono (by simp))
           have HXa := Lib.hid hXa
           have HAp := Lib.hid (And.intro hrow hc2)
           have k2 : w2.heap[w.heap.size]? = some t.obj := (hXa.block _ HLs.out.1).trans (HK.out _ HBr.out)
           have z3 : w2.cell? ⟨w.heap.size, 3, none⟩ = some (.slice t.ap t.ar.length t.ac) := cell_blk k2 rfl
           have zf : w2.frozen? ⟨w.heap.size, 3, none⟩ = false := by simp [World.frozen?, k2, Plc.obj]
           have HKa := Lib.hid k2
           clear hrow hc2 hBa hXa k2
           refine wpAnyH_ready (rs := [8]) (by kernel_rfl) (by simp) ?_
           refine rdy rfl (fun K hK => ?_) AllReadyH.nil
           refine Lib.wp_append_run _ _ _ _ _ rfl _ _ rfl rfl _ _ hap ?_
           refine hK.out _ _ ?_ (fun hHeld => ?_)
           · exact (HXa.out.cell (p := ⟨b, o + 1, none⟩) HLs.out.2).trans s1
           clear hK K
           try simp only [Act.put, List.setIfInBounds_toArray, List.set_cons_zero, List.set_cons_succ]
           refine tq 9 ?_
           refine wpAnyH_ready (rs := [10]) (by kernel_rfl) (by simp) ?_
           refine rdy rfl (fun K hK => ?_) AllReadyH.nil
           go_simp
           have HXb := Lib.hid ((HU.out _ (HBr.out.trans (HXa.out.mono HBr.out.size))).setCell (p := ⟨w.heap.size, 3, none⟩) (Nat.le_refl _) (.slice (some ⟨wr.heap.size + 1, 0, none⟩) (t.ar.length + 1) cap2))
           refine hK.out _ _ ?_ (fun hHeld => ?_)
           · exact (World.cell?_of_block (w := w2) (Below.heap_setCell w2 _ _ _ (Nat.ne_of_lt hbN))).trans ((HXa.out.cell (p := ⟨b, o + 1, none⟩) HLs.out.2).trans s1)
           clear hK K
           try simp only [Act.put, List.setIfInBounds_toArray, List.set_cons_zero, List.set_cons_succ]
           refine wpAnyH_done (by kernel_rfl) ?_ _
           go_wp2_with fail
           go_meet
           have ha := around_obj (a := t.ar ++ [y.name]) (p := some ⟨wr.heap.size + 1, 0, none⟩) (c := cap2) HKa.out
           rw [List.length_append, List.length_singleton] at ha
           refine ⟨cap2, wr.heap.size + 1, Lib.hid (by have := HLs.out.1; omega), Lib.hid ha, Lib.hid HXb.out, Lib.hid ⟨?_, HAp.out.2⟩⟩
           exact row_set (W := w2.setCell ⟨w.heap.size, 3, none⟩ (.slice (some ⟨wr.heap.size + 1, 0, none⟩) (t.ar.length + 1) cap2)) (by simpa using HAp.out.1) (Below.heap_setCell w2 _ _ _ (by have := HLs.out.1; show wr.heap.size + 1 ≠ w.heap.size; omega)) (by simp [World.setCell])
       · go_simp
         replace HX := HX.alloc HX.size (.cells #[.string (str y.name)] 9)
         have c3 : ((wr.alloc (.cells #[.string (str y.name)] 9)).drew).cell? ⟨w.heap.size, 3, none⟩ = some (.slice t.ap t.ar.length t.ac) := (HX.cell (p := ⟨w.heap.size, 3, none⟩) HLs.out.1).trans c3
         refine hK.out _ _ ?_ (fun hHeld => ?_)
         · exact (HX.cell (p := ⟨b, o + 1, none⟩) HLs.out.2).trans s1
         clear hK K
         try simp only [Act.put, List.setIfInBounds_toArray, List.set_cons_zero, List.set_cons_succ]
         refine wpAnyH_ready (rs := [1]) (by kernel_rfl) (by simp) ?_
         refine rdy rfl (fun K hK => ?_) AllReadyH.nil
         go_simp
         refine hK.out _ _ ?_ (fun hHeld => ?_)
         · exact (HX.cell (p := ⟨b, o + 1, none⟩) HLs.out.2).trans s1
         clear hK K
         try simp only [Act.put, List.setIfInBounds_toArray, List.set_cons_zero, List.set_cons_succ]
         refine wpAnyH_ready (rs := [2]) (by kernel_rfl) (by simp) ?_
         refine rdy rfl (fun K hK => ?_) AllReadyH.nil
         go_simp
         refine (HCp.out _).mono ?_
         rintro z w' ⟨rfl, rfl⟩
         refine hK.out _ _ ?_ (fun hHeld => ?_)
         · exact (HX.cell (p := ⟨b, o + 1, none⟩) HLs.out.2).trans s1
         clear hK K
         try simp only [Act.put, List.setIfInBounds_toArray, List.set_cons_zero, List.set_cons_succ]
         obtain ⟨w2, cap2, hap, hrow, hc2, hBa⟩ := clip_append t.ar y.name t.ap wr.heap.size _ (wr.drew.alloc (.cells #[.string (str y.name)] 9)) (HPl.out _ ((HU.out _ HBr.out).trans (HX.mono (HU.out _ HBr.out).size))).ar (cell_blk (heap_alloc_new wr.drew _) rfl) (by omega) 42
         have hXa : Below wr.heap.size wr w2 := HX.trans (hBa.mono (by simp))
         have HXa := Lib.hid hXa
         have HAp := Lib.hid (And.intro hrow hc2)
         have k2 : w2.heap[w.heap.size]? = some t.obj := (hXa.block _ HLs.out.1).trans (HK.out _ HBr.out)
         have z3 : w2.cell? ⟨w.heap.size, 3, none⟩ = some (.slice t.ap t.ar.length t.ac) := cell_blk k2 rfl
         have zf : w2.frozen? ⟨w.heap.size, 3, none⟩ = false := by simp [World.frozen?, k2, Plc.obj]
         have HKa := Lib.hid k2
         clear hrow hc2 hBa hXa k2
         refine wpAnyH_ready (rs := [8]) (by kernel_rfl) (by simp) ?_
         refine rdy rfl (fun K hK => ?_) AllReadyH.nil
         refine Lib.wp_append_run _ _ _ _ _ rfl _ _ rfl rfl _ _ hap ?_
         refine hK.out _ _ ?_ (fun hHeld => ?_)
         · exact (HXa.out.cell (p := ⟨b, o + 1, none⟩) HLs.out.2).trans s1
         clear hK K
         try simp only [Act.put, List.setIfInBounds_toArray, List.set_cons_zero, List.set_cons_succ]
         refine tq 9 ?_
         refine wpAnyH_ready (rs := [10]) (by kernel_rfl) (by simp) ?_
         refine rdy rfl (fun K hK => ?_) AllReadyH.nil
         go_simp
         have HXb := Lib.hid ((HU.out _ (HBr.out.trans (HXa.out.mono HBr.out.size))).setCell (p := ⟨w.heap.size, 3, none⟩) (Nat.le_refl _) (.slice (some ⟨wr.heap.size + 1, 0, none⟩) (t.ar.length + 1) cap2))
         refine hK.out _ _ ?_ (fun hHeld => ?_)
         · exact (World.cell?_of_block (w := w2) (Below.heap_setCell w2 _ _ _ (Nat.ne_of_lt hbN))).trans ((HXa.out.cell (p := ⟨b, o + 1, none⟩) HLs.out.2).trans s1)
         clear hK K
         try simp only [Act.put, List.setIfInBounds_toArray, List.set_cons_zero, List.set_cons_succ]
         refine wpAnyH_done (by kernel_rfl) ?_ _
         go_wp2_with fail
         go_meet
         have ha := around_obj (a := t.ar ++ [y.name]) (p := some ⟨wr.heap.size + 1, 0, none⟩) (c := cap2) HKa.out
         rw [List.length_append, List.length_singleton] at ha
         refine ⟨cap2, wr.heap.size + 1, Lib.hid (by have := HLs.out.1; omega), Lib.hid ha, Lib.hid HXb.out, Lib.hid ⟨?_, HAp.out.2⟩⟩
         exact row_set (W := w2.setCell ⟨w.heap.size, 3, none⟩ (.slice (some ⟨wr.heap.size + 1, 0, none⟩) (t.ar.length + 1) cap2)) (by simpa using HAp.out.1) (Below.heap_setCell w2 _ _ _ (by have := HLs.out.1; show wr.heap.size + 1 ≠ w.heap.size; omega)) (by simp [World.setCell])
     case rest =>
       obtain ⟨c2', g', HNg, HKv, HBv, HRow'⟩ := hcut
       have hlw : w.heap.size < wc.heap.size := lt_blk HKv.out
       clear s0 s1 s11 s14 s15 c0 c1 c2 c3 c4
       obtain ⟨s0, s1, s11, s14, s15⟩ := HS.out _ HBv.out
       obtain ⟨c0, c1, c2, c3, c4⟩ := Plc.cells HKv.out
       have f4 : wc.frozen? ⟨w.heap.size, 4, none⟩ = false := by simp [World.frozen?, show wc.heap[w.heap.size]? = some (Plc.obj { t with ar := t.ar ++ [y.name], ap := some ⟨g', 0, none⟩, ac := c2' }) from HKv.out, Plc.obj]
       obtain ⟨Wd, hWd⟩ : ∃ Wd, wc.setCell ⟨w.heap.size, 4, none⟩ (.int .i64 ((t.deep : Int) + 1)) = Wd := ⟨_, rfl⟩
       have HKd2 := Lib.hid (show Wd.heap[w.heap.size]? = some (Plc.down { t with ar := t.ar ++ [y.name], ap := some ⟨g', 0, none⟩, ac := c2' }).obj from by rw [← hWd]; exact down_obj HKv.out)
       have HBd2 := Lib.hid (show Below w.heap.size w Wd from by rw [← hWd]; exact HBv.out.setCell (p := ⟨w.heap.size, 4, none⟩) (Nat.le_refl _) _)
       have HPd := Lib.hid (show ∀ W, Below w.heap.size w W → Below Wd.heap.size Wd W → PlOk W N x s fn f (Plc.down { t with ar := t.ar ++ [y.name], ap := some ⟨g', 0, none⟩, ac := c2' }) from fun W h1 h2 => ⟨((HPl.out W h1).pb), (HPl.out W h1).ok, (HPl.out W h1).fi, (HPl.out W h1).mp, (row_set (HRow'.out.1) (W := Wd) (by rw [← hWd]; exact Below.heap_setCell wc _ _ _ (HNg.out)) (by rw [← hWd]; simp [World.setCell])).imp h2.size (StrAt.later h2), by show (t.ar ++ [y.name]).length ≤ c2'; rw [List.length_append, List.length_singleton]; exact HRow'.out.2, (HPl.out W h1).hN⟩)
       have HWd2 := Lib.hid hWd
       have HLd := Lib.hid (show w.heap.size < Wd.heap.size from lt_blk HKd2.out)
       clear hWd
       go_upto_region 16 with fail
       rw [HWd2.out]
       clear HWd2 f4 c0 c1 c2 c3 c4 s0 s1 s11 s14 s15
       obtain ⟨s0, s1, s11, s14, s15⟩ := HS.out _ HBd2.out
       obtain ⟨c0, c1, c2, c3, c4⟩ := Plc.cells HKd2.out
       have HC1 := Lib.hid (HBd.out Wd.drew HBd2.out.drew _ (HPd.out _ HBd2.out.drew (Below.refl _ _).drew) (by show t.deep + 1 ≤ 65; omega) (by show (t.ar ++ [y.name]).length ≤ t.deep + 1; rw [List.length_append, List.length_singleton]; omega))
       unfold Plc.v at HC1
       go_still_tail 5, (by kernel_rfl)
       change wpList _ _ _ _ _ (World.drew _)
       go_wp2_with fail
       refine HC1.out.mono ?_
       intro z w6 hc
       rcases hc with ⟨r1, hB6⟩ | ⟨r1, hB6⟩
       rotate_left
       · have HR := Lib.hid (HNo.out w6 _ (by rw [HRr.out, HRs.out]; exact seq_no r1) r1 (HBd2.out.drew.trans (hB6.mono HBd2.out.size)))
         unfold Pn
         clear hB6 r1 c0 c1 c2 c3 c4 s0 s1 s11 s14 s15
         go_wp2_with fail
         exact ⟨rfl, HR.out⟩
       have R6 := Lib.hid r1
       have HB6 := Lib.hid (And.intro (HBd2.out.drew.trans (hB6.mono HBd2.out.size)) (show Below Wd.heap.size Wd w6 from (Below.refl _ _).drew.trans hB6))
       clear hB6 r1 c0 c1 c2 c3 c4 s0 s1 s11 s14 s15
       obtain ⟨s0, s1, s11, s14, s15⟩ := HS.out _ HB6.out.1
       obtain ⟨c0, c1, c2, c3, c4⟩ := Plc.cells ((HB6.out.2.block _ HLd.out).trans HKd2.out)
       have HC2 := Lib.hid (HEl.out w6.drew HB6.out.1.drew _ (HPd.out _ HB6.out.1.drew HB6.out.2.drew) (by show t.deep + 1 ≤ 65; omega) (by show (t.ar ++ [y.name]).length ≤ t.deep + 1; rw [List.length_append, List.length_singleton]; omega))
       unfold Plc.v at HC2
       go_wp2_with fail
       go_still_tail 5, (by kernel_rfl)
       change wpList _ _ _ _ _ (World.drew _)
       go_wp2_with fail
       refine HC2.out.mono ?_
       intro z w7 hc
       clear c0 c1 c2 c3 c4 s0 s1 s11 s14 s15
       rcases hc with ⟨r1, hB7⟩ | ⟨r1, hB7⟩
       · have HR := Lib.hid (HOK.out w7 (by rw [HRr.out, HRs.out]; exact (seq_ok R6.out).trans r1) (HB6.out.1.drew.trans (hB7.mono HB6.out.1.size)))
         clear hB7 r1
         go_wp2_with fail
         go_end0
         exact HR.out
       · have HR := Lib.hid (HNo.out w7 _ (by rw [HRr.out, HRs.out]; exact seq_ok R6.out) r1 (HB6.out.1.drew.trans (hB7.mono HB6.out.1.size)))
         unfold Pn
         clear hB7 r1
         go_wp2_with fail
         exact ⟨rfl, HR.out⟩
end Go.Proofs.YtihmibggonffdaaGreat
