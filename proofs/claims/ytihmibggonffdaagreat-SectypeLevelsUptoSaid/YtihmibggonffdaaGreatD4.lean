/- D3, D4 as one. -/
import Derived.Test.YtihmibggonffdaaGreatD2
import Derived.Test.YtihmibggonffdaaGreatF1
import Derived.Test.YtihmibggonffdaaGreatE5
import Derived.Deep.RegionHeld
import Derived.Deep.RegionHeld3
import Derived.WalkMore
import Derived.Deep.CutBlock
import Derived.Deep.CutRange
import Derived.Outline
import Derived.Test.YtihmibggonffdaaGreatH2
/- The document's count of statements and expressions. -/
namespace Go.Proofs.YtihmibggonffdaaGreat
open Go.RowKit

theorem Ex.oc_le (x : Ex) (deep : Nat) : x.oc deep ≤ x.size := by unfold Ex.oc; have := x.wc_le deep; split <;> omega
theorem Exs.oc_le : ∀ (l : Exs) (deep : Nat), l.oc deep ≤ l.size
 | .nil, _ => Nat.le_refl 0
 | .cons x r, deep => by rw [Exs.oc, Exs.size]; have := x.oc_le deep; have := Exs.oc_le r deep; omega
theorem St.own_le (x : St) (deep : Nat) : x.own deep ≤ x.e.size + x.a.size + x.args.size := by
 unfold St.own; have := x.a.oc_le deep; have := x.e.oc_le deep; have := x.args.oc_le deep; omega
mutual
theorem St.sc_le : ∀ (x : St) (deep : Nat), x.sc deep ≤ x.big
 | .mk kd nm ns e a as' lo hi bd el, deep => by
   rw [St.sc, St.big]
   have h1 := St.own_le (.mk kd nm ns e a as' lo hi bd el) deep
   have h2 := Sts.sc_le bd (deep + 1)
   have h3 := Sts.sc_le el (deep + 1)
   simp only [St.e, St.a, St.args] at h1
   omega
theorem Sts.sc_le : ∀ (l : Sts) (deep : Nat), l.sc deep ≤ l.big
 | .nil, _ => by rw [Sts.sc]; exact Nat.zero_le _
 | .cons x r, deep => by
   rw [Sts.sc, Sts.big]
   have h1 := St.sc_le x deep
   have h2 := Sts.sc_le r deep
   split <;> omega
end
def RS (n : Nat) : Prop := ∀ (l : Sts), l.size < n → l.big ≤ 4000000 → ∀ (deep : Nat), deep ≤ 65 → ∀ (p : Option Addr) (c N : Nat) (w : World), l.In w N p → N ≤ w.heap.size →
   Calls Tryz.prog 61 #[.slice p l.len c, .int .i64 (deep : Int)] w fun z w' => z = .returned (.int .i64 (l.sc deep : Nat)) ∧ Below w.heap.size w w'
set_option maxRecDepth 100000 in
set_option maxHeartbeats 12800000 in
theorem rstmts_step (n : Nat) (ih : RS n) : RS (n + 1) := by
 intro l hls hbig deep hd p c N w hl hN
 by_cases hdp : 64 < deep
 · rw [Sts.sc_deep l deep hdp]
   have hi : (64 : Int) < (deep : Int) := by omega
   clear hl ih
   go_enter Tryz.func61, Tryz.ntmps61
   go_wp2_with fail
   go_ret
   exact ⟨rfl, Below.refl _ _⟩
 have IH := Lib.hid ih
 clear ih
 have hi : ¬ (64 : Int) < (deep : Int) := by omega
 obtain ⟨d1, hd1⟩ : ∃ d1, d1 = deep + 1 := ⟨_, rfl⟩
 have hwd : IntKind.i64.wrap ((deep : Int) + 1) = ((d1 : Nat) : Int) := by rw [hd1]; simp [IntKind.wrap, IntKind.bits, IntKind.signed]; omega
 obtain ⟨hm, hs⟩ := hl
 obtain ⟨b, o, hp, hb, ha⟩ : ∃ b o, (l.len = 0 ∨ p = some ⟨b, o, none⟩) ∧ (b < N ∨ l.len = 0) ∧ l.At w N b o := by
   rcases hs with h0 | ⟨b, o, hp, hb, ha⟩
   · exact ⟨0, 0, .inl h0, .inr h0, by cases l with | nil => trivial | cons => simp [Sts.len] at h0⟩
   · exact ⟨b, o, .inr hp, .inl hb, ha⟩
 have Hb := Lib.hid hb
 have HNN := Lib.hid hN
 have HL := Lib.hid (show l.size ≤ n ∧ l.big ≤ 4000000 ∧ deep ≤ 64 ∧ d1 = deep + 1 ∧ l.sc deep ≤ 4000000 from ⟨by omega, hbig, by omega, hd1, Nat.le_trans (l.sc_le deep) hbig⟩)
 clear hs hb hls hbig hd hd1
 go_enter Tryz.func61, Tryz.ntmps61
 go_wp2_with fail
 go_loopw [5, 6, 7] (fun d i j wr => ∃ (k v : Nat) (r : Sts), d = .int .i64 v ∧ i = .int .i64 k ∧ k + r.len = l.len ∧ Hid (r.size ≤ l.size ∧ r.big ≤ l.big) ∧ Hid (r.At w N b (o + k * 16)) ∧ Hid (v + r.sc deep = l.sc deep) ∧ Hid (Below w.heap.size w wr)) (fun _ i _ _ => l.len - (intOf i).toNat)
 case atStart => exact ⟨0, 0, l, rfl, rfl, by omega, Lib.hid ⟨Nat.le_refl _, Nat.le_refl _⟩, Lib.hid (by rw [Nat.zero_mul]; exact ha), Lib.hid (by omega), Lib.hid (Below.refl _ _)⟩
 case round =>
   obtain ⟨k, v, r, rfl, rfl, hk, hrs, hr, hE, hB⟩ := hrel
   cases r with
   | nil =>
     simp only [Sts.len] at hk
     have hge : ¬ k < l.len := by omega
     have HV := Lib.hid (show v = l.sc deep by have := hE.out; rw [Sts.sc] at this; omega)
     go_wp2_with fail
     go_ret
     exact ⟨by rw [HV.out]; rfl, hB.out⟩
   | cons y r =>
     obtain ⟨hy, hr'⟩ := hr.out
     simp only [Sts.len] at hk
     have hrs2 := hrs.out
     simp only [Sts.size, Sts.big] at hrs2
     have hlt : k < l.len := by omega
     rcases hp with h0 | rfl
     · omega
     have hbN : b < N := by have := Hb.out; omega
     obtain ⟨wo, rfl⟩ : ∃ wo : World, wo = wr := ⟨_, rfl⟩
     obtain ⟨⟨pn, pe, pa, pg, pb, pl, cn, ce, ca, cg, cb, cl⟩, hcs, hok⟩ := hy.open
     have HCs := Lib.hid (fun (W : World) (hB : Below w.heap.size w W) (j : Nat) (v : Value) (hv : (y.cells ⟨pn, pe, pa, pg, pb, pl, cn, ce, ca, cg, cb, cl⟩)[j]? = some v) => show W.cell? ⟨b, o + k * 16 + j, none⟩ = some v from (hB.cell (p := ⟨b, o + k * 16 + j, none⟩) (Nat.lt_of_lt_of_le hbN HNN.out)).trans (hcs j v hv))
     have hE2 := hE.out
     rw [Sts.sc_cons HL.out.2.2.1] at hE2
     have hbe := y.big_eq
     have hye := y.own_le deep
     have HSz := Lib.hid (show y.e.size ≤ 4000000 ∧ y.a.size ≤ 4000000 ∧ y.args.size ≤ 4000000 ∧ y.body.big ≤ 4000000 ∧ y.els.big ≤ 4000000 ∧ y.body.size < n ∧ y.els.size < n by
       have h1 := HL.out
       have h2 : y.size = y.body.size + y.els.size + 1 := by obtain ⟨kd, nm, ns, e, a, as', lo, hi, bd, el⟩ := y; rw [St.size]; rfl
       omega)
     have HE2 := Lib.hid hE2
     have HLe := Lib.hid (show v + 1 + y.own deep + y.body.sc (deep + 1) + y.els.sc (deep + 1) ≤ 4000000 by have := HL.out; omega)
     have HR := Lib.hid hr'
     have HZE := Lib.hid (fun W => nothing_any y.e pe ce W)
     have HZA := Lib.hid (fun W => nothing_any y.a pa ca W)
     have HXE := Lib.hid (fun (W : World) (hB : Below w.heap.size w W) => rexprs_to _ y.e (Nat.lt_succ_self _) HSz.out.1 deep (by have := HL.out; omega) pe ce N W (hok.2.1.later (hB.mono HNN.out) (Nat.le_refl N)) (Nat.le_trans HNN.out hB.size))
     have HXA := Lib.hid (fun (W : World) (hB : Below w.heap.size w W) => rexprs_to _ y.a (Nat.lt_succ_self _) HSz.out.2.1 deep (by have := HL.out; omega) pa ca N W (hok.2.2.1.later (hB.mono HNN.out) (Nat.le_refl N)) (Nat.le_trans HNN.out hB.size))
     have HOK := Lib.hid hok
     rw [show y.e.wd deep = y.e.wc deep from if_neg (by have := HL.out; omega)] at HXE
     rw [show y.a.wd deep = y.a.wc deep from if_neg (by have := HL.out; omega)] at HXA
     unfold Ex.val at HZE HZA HXE HXA
     have HOwn := Lib.hid (show y.own deep = y.a.oc deep + y.e.oc deep + y.args.oc deep from rfl)
     have hw0 : IntKind.i64.wrap ((v : Int) + 1) = ((v + 1 : Nat) : Int) := by have := HLe.out; exact wrapS v 1 (by omega)
     clear hy hr' hr hcs hok hE2 hbe hye hrs2 hE
     -- the expression E
     obtain ⟨v1, hv1⟩ : ∃ v1, v1 = v + 1 := ⟨_, rfl⟩
     rw [← hv1] at hw0
     have HV1 := Lib.hid hv1
     clear hv1
     have g0 := HCs.out _ hB.out 3 _ rfl
     have g1 := HCs.out _ hB.out 4 _ rfl
     have g2 := HCs.out _ hB.out 5 _ rfl
     have g3 := HCs.out _ hB.out 6 _ rfl
     go_upto_if 24 with (go_at_call 88; refine (HZE.out _).mono ?_; rintro z w2 ⟨rfl, hB2⟩)
     clear g0 g1 g2 g3
     have HBx := Lib.hid (hB.out.trans (hB2.mono hB.out.size))
     clear hB2
     go_cut [5] from 10 to 100 (fun s5 wx => ∃ m : Nat, s5 = .int .i64 m ∧ Hid (m = v1 + y.e.oc deep) ∧ Hid (Below w.heap.size w wx))
     case first =>
       have HOc := Lib.hid (show y.e.oc deep = if y.e.isZ then 0 else y.e.wc deep from rfl)
       cases hz : y.e.isZ
       · have hw : IntKind.i64.wrap ((v1 : Int) + (y.e.wc deep : Int)) = ((v1 + y.e.wc deep : Nat) : Int) := by
           have h1 := HOc.out; rw [hz] at h1; have := HLe.out; have := HOwn.out; have := HV1.out; skip
           exact wrapS _ _ (by simp at h1; omega)
         have HM := Lib.hid (show v1 + y.e.wc deep = v1 + y.e.oc deep by have h1 := HOc.out; rw [hz] at h1; simp at h1; omega)
         have HC := Lib.hid (HXE.out _ HBx.out)
         have g0 := HCs.out _ HBx.out 3 _ rfl
         have g1 := HCs.out _ HBx.out 4 _ rfl
         have g2 := HCs.out _ HBx.out 5 _ rfl
         have g3 := HCs.out _ HBx.out 6 _ rfl
         generalize y.e.wc deep = u at HC hw HM
         clear HOc
         go_wp2_with fail
         refine HC.out.mono ?_
         rintro z w3 ⟨rfl, hB3⟩
         have HBy := Lib.hid (HBx.out.trans (hB3.mono HBx.out.size))
         clear hB3 g0 g1 g2 g3
         go_wp2_with fail
         go_meet
         exact ⟨v1 + u, rfl, HM, HBy⟩
       · have HM := Lib.hid (show v1 = v1 + y.e.oc deep by have h1 := HOc.out; rw [hz] at h1; simp at h1; omega)
         clear HOc
         go_wp2_with fail
         go_meet
         exact ⟨v1, rfl, HM, HBx⟩
     case rest =>
     obtain ⟨v2, rfl, HV2, HB2⟩ := hcut
     clear HBx
     have g0 := HCs.out _ HB2.out 7 _ rfl
     have g1 := HCs.out _ HB2.out 8 _ rfl
     have g2 := HCs.out _ HB2.out 9 _ rfl
     have g3 := HCs.out _ HB2.out 10 _ rfl
     go_upto_if 40 with (go_at_call 88; refine (HZA.out _).mono ?_; rintro z w2 ⟨rfl, hB2⟩)
     clear g0 g1 g2 g3
     have HBx := Lib.hid (HB2.out.trans (hB2.mono HB2.out.size))
     clear hB2
     go_cut [5] from 10 to 100 (fun s5 wx => ∃ m : Nat, s5 = .int .i64 m ∧ Hid (m = v2 + y.a.oc deep) ∧ Hid (Below w.heap.size w wx))
     case first =>
       have HOc := Lib.hid (show y.a.oc deep = if y.a.isZ then 0 else y.a.wc deep from rfl)
       cases hz : y.a.isZ
       · have hw : IntKind.i64.wrap ((v2 : Int) + (y.a.wc deep : Int)) = ((v2 + y.a.wc deep : Nat) : Int) := by
           have h1 := HOc.out; rw [hz] at h1; have := HLe.out; have := HOwn.out; have := HV1.out; have := HV2.out
           exact wrapS _ _ (by simp at h1; omega)
         have HM := Lib.hid (show v2 + y.a.wc deep = v2 + y.a.oc deep by have h1 := HOc.out; rw [hz] at h1; simp at h1; omega)
         have HC := Lib.hid (HXA.out _ HBx.out)
         have g0 := HCs.out _ HBx.out 7 _ rfl
         have g1 := HCs.out _ HBx.out 8 _ rfl
         have g2 := HCs.out _ HBx.out 9 _ rfl
         have g3 := HCs.out _ HBx.out 10 _ rfl
         generalize y.a.wc deep = u at HC hw HM
         clear HOc
         go_wp2_with fail
         refine HC.out.mono ?_
         rintro z w3 ⟨rfl, hB3⟩
         have HBy := Lib.hid (HBx.out.trans (hB3.mono HBx.out.size))
         clear hB3 g0 g1 g2 g3
         go_wp2_with fail
         go_meet
         exact ⟨v2 + u, rfl, HM, HBy⟩
       · have HM := Lib.hid (show v2 = v2 + y.a.oc deep by have h1 := HOc.out; rw [hz] at h1; simp at h1; omega)
         clear HOc
         go_wp2_with fail
         go_meet
         exact ⟨v2, rfl, HM, HBx⟩
     case rest =>
     obtain ⟨v3, rfl, HV3, HB3⟩ := hcut
     clear HBx
     have c11 : wc.cell? ⟨b, o + k * 16 + 11, none⟩ = some (.slice pg y.args.len cg) := HCs.out _ HB3.out 11 _ rfl
     have HHd := Lib.hid hlt
     have hgm := HOK.out.2.2.2.1.1
     obtain ⟨b', o', hp', hb', ha'⟩ : ∃ b' o', (y.args.len = 0 ∨ pg = some ⟨b', o', none⟩) ∧ (b' < N ∨ y.args.len = 0) ∧ y.args.At w N b' o' := by
       rcases HOK.out.2.2.2.1.2 with h0 | ⟨b', o', hp, hb', ha⟩
       · exact ⟨0, 0, .inl h0, .inr h0, by cases hxa : y.args with | nil => trivial | cons => rw [hxa] at h0; simp [Exs.len] at h0⟩
       · exact ⟨b', o', .inr hp, .inl hb', ha⟩
     have Hb' := Lib.hid hb'
     have HZG := Lib.hid (fun (x : Ex) (p : Option Addr) (c : Nat) W => nothing_any x p c W)
     have HXG := Lib.hid (fun (x : Ex) (p : Option Addr) (c : Nat) (W : World) (hB : Below w.heap.size w W) (hx : x.size ≤ 4000000) (hok : x.Ok W N p) => rexprs_to _ x (Nat.lt_succ_self _) hx deep (by have := HL.out; omega) p c N W hok (Nat.le_trans HNN.out hB.size))
     clear hb' HZE HZA HXE HXA
     go_wp2_with fail
     go_loopw [5, 7] (fun d j wx => ∃ (k2 v4 : Nat) (r2 : Exs), d = .int .i64 v4 ∧ j = .int .i64 k2 ∧ k2 + r2.len = y.args.len ∧ Hid (r2.size ≤ y.args.size) ∧ Hid (r2.At w N b' (o' + k2 * 4)) ∧ Hid (v4 + r2.oc deep = v3 + y.args.oc deep) ∧ Hid (Below w.heap.size w wx)) (fun _ j _ => y.args.len - (intOf j).toNat)
     case atStart => exact ⟨0, v3, y.args, rfl, rfl, by omega, Lib.hid (Nat.le_refl _), Lib.hid (by rw [Nat.zero_mul]; exact ha'), Lib.hid rfl, HB3⟩
     case round =>
       obtain ⟨k2, v4, r2, rfl, rfl, hk2, hrs3, hr2, hE3, hB4⟩ := hrel
       have c11r : wr.cell? ⟨b, o + k * 16 + 11, none⟩ = some (.slice pg y.args.len cg) := HCs.out _ hB4.out 11 _ rfl
       clear c11
       cases r2 with
       | nil =>
         simp only [Exs.len] at hk2
         have hge2 : ¬ k2 < y.args.len := by omega
         have hv4 : v4 = v3 + y.args.oc deep := by have := hE3.out; rw [Exs.oc] at this; omega
         have HV4 := Lib.hid hv4
         have hX : Below w.heap.size w wr.drew := hB4.out.drew
         have HBd := Lib.hid (fun (W : World) (hB : Below w.heap.size w W) => IH.out y.body HSz.out.2.2.2.2.2.1 HSz.out.2.2.2.1 d1 (by have := HL.out; omega) pb cb N W (HOK.out.2.2.2.2.1.later (hB.mono HNN.out) (Nat.le_refl N)) (Nat.le_trans HNN.out hB.size))
         have HEl := Lib.hid (fun (W : World) (hB : Below w.heap.size w W) => IH.out y.els HSz.out.2.2.2.2.2.2 HSz.out.2.2.2.2.1 d1 (by have := HL.out; omega) pl cl N W (HOK.out.2.2.2.2.2.1.later (hB.mono HNN.out) (Nat.le_refl N)) (Nat.le_trans HNN.out hB.size))
         have HTot := Lib.hid (show v4 + y.body.sc d1 + y.els.sc d1 + r.sc deep = l.sc deep ∧ v4 + y.body.sc d1 + y.els.sc d1 ≤ 4000000 by
           have h1 := HE2.out; have h2 := HLe.out; have h3 := HV4.out; have h4 := HV3.out; have h5 := HV2.out; have h6 := HV1.out; have h7 := HOwn.out; have h8 := HL.out
           rw [h8.2.2.2.1]; omega)
         generalize y.body.sc d1 = u1 at HBd HTot
         generalize y.els.sc d1 = u2 at HEl HTot
         clear hv4 hE3 hr2
         go_upto_region 17 with fail
         refine wp_region_held_drew (S := fun W => W.cell? ⟨b, o + k * 16 + 14, none⟩ = some (.slice pb y.body.len cb) ∧ W.cell? ⟨b, o + k * 16 + 15, none⟩ = some (.slice pl y.els.len cl)) (by kernel_rfl) ?_ (fun hHeld => ?_)
         · exact ⟨HCs.out _ hX 14 _ rfl, HCs.out _ hX 15 _ rfl⟩
         refine tq 0 ?_
         refine tq 1 ?_
         refine tq 2 ?_
         refine tq 3 ?_
         refine tq 4 ?_
         refine tq 5 ?_
         refine tq 6 ?_
         refine tq 7 ?_
         refine tq 10 ?_
         refine tq 11 ?_
         refine tq 12 ?_
         refine tq 13 ?_
         refine tq 14 ?_
         refine tq 15 ?_
         refine tq 16 ?_
         refine wpAnyH_ready (rs := [8]) (by kernel_rfl) (by simp) ?_
         refine rdy rfl (fun K hK => ?_) AllReadyH.nil
         go_simp
         refine (HBd.out _ hX).mono ?_
         rintro z w5 ⟨rfl, hB5⟩
         replace hX := hX.trans (hB5.mono hX.size)
         clear hB5
         refine hK.out _ _ ?_ (fun hHeld => ?_)
         · exact ⟨HCs.out _ hX 14 _ rfl, HCs.out _ hX 15 _ rfl⟩
         clear hK K
         try simp only [Act.put, List.setIfInBounds_toArray, List.set_cons_zero, List.set_cons_succ]
         obtain ⟨m1, hm1⟩ : ∃ m1, m1 = v4 + u1 := ⟨_, rfl⟩
         have HM1 := Lib.hid hm1
         have hwA : IntKind.i64.wrap ((v4 : Int) + (u1 : Int)) = ((m1 : Nat) : Int) := by rw [hm1]; have := HTot.out; exact wrapS _ _ (by omega)
         clear hm1
         refine tk 9 (.int .i64 ((m1 : Nat) : Int)) rfl (.inl ⟨by rfl, ?_⟩) ?_
         · (intro w hSw; (try dsimp only at hSw); go_simp)
         try simp only [Act.put, List.setIfInBounds_toArray, List.set_cons_zero, List.set_cons_succ]
         refine wpAnyH_ready (rs := [17]) (by kernel_rfl) (by simp) ?_
         refine rdy rfl (fun K hK => ?_) AllReadyH.nil
         go_simp
         refine (HEl.out _ hX).mono ?_
         rintro z w6 ⟨rfl, hB6⟩
         replace hX := hX.trans (hB6.mono hX.size)
         clear hB6
         refine hK.out _ _ ?_ (fun hHeld => ?_)
         · exact ⟨HCs.out _ hX 14 _ rfl, HCs.out _ hX 15 _ rfl⟩
         clear hK K
         try simp only [Act.put, List.setIfInBounds_toArray, List.set_cons_zero, List.set_cons_succ]
         obtain ⟨m2, hm2⟩ : ∃ m2, m2 = m1 + u2 := ⟨_, rfl⟩
         have HM2 := Lib.hid hm2
         have hwB : IntKind.i64.wrap ((m1 : Int) + (u2 : Int)) = ((m2 : Nat) : Int) := by rw [hm2]; have := HTot.out; have := HM1.out; exact wrapS _ _ (by omega)
         clear hm2
         refine tk 18 (.int .i64 ((m2 : Nat) : Int)) rfl (.inl ⟨by rfl, ?_⟩) ?_
         · (intro w hSw; (try dsimp only at hSw); go_simp)
         try simp only [Act.put, List.setIfInBounds_toArray, List.set_cons_zero, List.set_cons_succ]
         refine tq 19 ?_
         refine wpAnyH_done (by kernel_rfl) ?_ _
         have HX := Lib.hid hX
         clear hX
         go_wp2_with fail
         go_roundw
         case rel => exact ⟨k + 1, m2, r, by go_num, by go_num, by omega, Lib.hid (by have h := hrs.out; simp only [Sts.size, Sts.big] at h; omega), Lib.hid (by rw [show o + (k + 1) * 16 = o + k * 16 + 16 by omega]; exact HR.out), Lib.hid (by have := HTot.out; have := HM1.out; have := HM2.out; omega), HX⟩
         case measure => simp [intOf]; omega
       | cons e2 r2 =>
         obtain ⟨he, hr3⟩ := hr2.out
         simp only [Exs.len] at hk2
         have hlt2 : k2 < y.args.len := by omega
         rcases hp' with h0 | rfl
         · omega
         have hbN' : b' < N := by have := Hb'.out; omega
         obtain ⟨q, cq, d0, d1', d2, d3, hok2⟩ := (Ex.At.later (hB4.out.mono HNN.out) (Nat.le_refl N) e2 b' (o' + k2 * 4) hbN' he).open'
         have HZ2 := Lib.hid (HZG.out e2 q cq wr)
         have HRr := Lib.hid hr3
         have HS3 := Lib.hid (show e2.size ≤ 4000000 ∧ r2.size ≤ y.args.size by have h := hrs3.out; simp only [Exs.size] at h; have := HSz.out; omega)
         have HE4 := Lib.hid (show v4 + e2.oc deep + r2.oc deep = v3 + y.args.oc deep ∧ v4 + e2.oc deep ≤ 4000000 by
           have h := hE3.out; rw [Exs.oc] at h
           have h2 := HLe.out; have h4 := HV3.out; have h5 := HV2.out; have h6 := HV1.out; have h7 := HOwn.out
           omega)
         have HXX := Lib.hid (fun (W : World) (hB : Below wr.heap.size wr W) => HXG.out e2 q cq W (hB4.out.trans (hB.mono hB4.out.size)) HS3.out.1 (Ex.Ok.later hok2 (hB.mono (Nat.le_trans HNN.out hB4.out.size)) (Nat.le_refl N)))
         have HD := Lib.hid (fun (W : World) (hB : Below wr.heap.size wr W) => show W.cell? ⟨b', o' + k2 * 4, none⟩ = some (.int .i64 e2.op) ∧ W.cell? ⟨b', o' + k2 * 4 + 1, none⟩ = some (.int .u64 (e2.word : Int)) ∧ W.cell? ⟨b', o' + k2 * 4 + 2, none⟩ = some (.string (str e2.name)) ∧ W.cell? ⟨b', o' + k2 * 4 + 3, none⟩ = some (.slice q e2.args.len cq) from
           have hbw : b' < wr.heap.size := Nat.lt_of_lt_of_le hbN' (Nat.le_trans HNN.out hB4.out.size)
           ⟨(hB.cell (p := ⟨b', _, none⟩) hbw).trans d0, (hB.cell (p := ⟨b', _, none⟩) hbw).trans d1', (hB.cell (p := ⟨b', _, none⟩) hbw).trans d2, (hB.cell (p := ⟨b', _, none⟩) hbw).trans d3⟩)
         rw [show e2.wd deep = e2.wc deep from if_neg (by have := HL.out; omega)] at HXX
         unfold Ex.val at HZ2 HXX
         have hoc : e2.oc deep = if e2.isZ then 0 else e2.wc deep := rfl
         clear he hr3 hr2 hok2 hE3 HXG
         cases hz : e2.isZ
         · rw [hz] at HZ2 hoc
           simp only [Bool.false_eq_true, if_false] at hoc
           rw [hoc] at HE4
           have hw2 : IntKind.i64.wrap ((v4 : Int) + (e2.wc deep : Int)) = ((v4 + e2.wc deep : Nat) : Int) := wrapS _ _ (by have := HE4.out; omega)
           generalize e2.wc deep = u at HXX hw2 HE4
           clear hoc
           go_wp2_with fail
           refine HZ2.out.mono ?_
           rintro z w5 ⟨rfl, hB5⟩
           have HC := Lib.hid (HXX.out _ hB5)
           obtain ⟨g0, g1, g2, g3⟩ := HD.out _ hB5
           have c11s : w5.cell? ⟨b, o + k * 16 + 11, none⟩ = some (.slice (some ⟨b', o', none⟩) y.args.len cg) := HCs.out _ (hB4.out.trans (hB5.mono hB4.out.size)) 11 _ rfl
           have HB5 := Lib.hid (hB4.out.trans (hB5.mono hB4.out.size))
           clear hB5 d0 d1' d2 d3 c11r
           go_wp2_with fail
           refine HC.out.mono ?_
           rintro z w6 ⟨rfl, hB6⟩
           have HB6 := Lib.hid (HB5.out.trans (hB6.mono HB5.out.size))
           clear hB6 g0 g1 g2 g3 c11s
           go_wp2_with fail
           go_roundw
           case rel => exact ⟨k2 + 1, v4 + u, r2, by go_num, by go_num, by omega, Lib.hid HS3.out.2, Lib.hid (by rw [show o' + (k2 + 1) * 4 = o' + k2 * 4 + 4 by omega]; exact HRr.out), Lib.hid HE4.out.1, HB6⟩
           case measure => simp [intOf]; omega
         · rw [hz] at HZ2 hoc
           simp only [if_true] at hoc
           rw [hoc] at HE4
           clear hoc
           go_wp2_with fail
           refine HZ2.out.mono ?_
           rintro z w5 ⟨rfl, hB5⟩
           have HB5 := Lib.hid (hB4.out.trans (hB5.mono hB4.out.size))
           clear hB5 d0 d1' d2 d3 c11r
           go_wp2_with fail
           go_roundw
           case rel => exact ⟨k2 + 1, v4, r2, by go_num, by go_num, by omega, Lib.hid HS3.out.2, Lib.hid (by rw [show o' + (k2 + 1) * 4 = o' + k2 * 4 + 4 by omega]; exact HRr.out), Lib.hid HE4.out.1, HB5⟩
           case measure => simp [intOf]; omega
theorem rstmts_to : ∀ n, RS n
 | 0 => fun _ h => absurd h (Nat.not_lt_zero _)
 | n + 1 => rstmts_step n (rstmts_to n)
/- The document's arguments of an operation, size of a program, variables of a function. -/
open Go.RowKit


theorem rargs_any (op : Int) (w : World) : Calls Tryz.prog 42 #[.int .i64 op] w fun z w' => z = .returned (.int .i64 (argsN op)) ∧ w = w' := by
 unfold argsN
 by_cases h1 : op < 1
 · have e : decide (op < 1) = true := decide_eq_true h1
   rw [if_pos (.inl h1)]
   go_enter Tryz.func42, Tryz.ntmps42
   go_wp2_with fail
   go_ret
   exact ⟨rfl, rfl⟩
 by_cases h2 : 21 < op
 · have e : decide (op < 1) = false := decide_eq_false h1
   rw [if_pos (.inr h2)]
   go_enter Tryz.func42, Tryz.ntmps42
   go_wp2_with fail
   go_ret
   exact ⟨rfl, rfl⟩
 rw [if_neg (by omega)]
 by_cases h3 : op ≤ 2
 · rw [if_pos h3]
   go_enter Tryz.func42, Tryz.ntmps42
   go_wp2_with fail
   go_ret
   exact ⟨rfl, rfl⟩
 rw [if_neg h3]
 by_cases h4 : op ≤ 5
 · rw [if_pos h4]
   go_enter Tryz.func42, Tryz.ntmps42
   go_wp2_with fail
   go_ret
   exact ⟨rfl, rfl⟩
 rw [if_neg h4]
 by_cases h5 : op ≤ 20
 · have e21 : (op == 21) = false := by rw [beq_eq_false_iff_ne]; omega
   rw [if_pos h5]
   go_enter Tryz.func42, Tryz.ntmps42
   go_wp2_with fail
   go_ret
   exact ⟨rfl, rfl⟩
 · obtain rfl : op = 21 := by omega
   rw [if_neg h5]
   go_enter Tryz.func42, Tryz.ntmps42
   go_wp2_with fail
   go_ret
   exact ⟨rfl, rfl⟩

theorem sumSc_le : ∀ l : List Fnc, sumSc l ≤ fnsBig l
 | [] => Nat.le_refl 0
 | f :: r => by rw [sumSc, fnsBig]; have := Sts.sc_le f.body 1; have := sumSc_le r; omega
set_option maxHeartbeats 3200000 in
theorem rsize_any (x : Prg) (s : PrgP) (N : Nat) (w : World) (h : x.Ok w N s.p s.q) (hN : N ≤ w.heap.size) (hbig : fnsBig x.fns ≤ 4000000) :
   Calls Tryz.prog 29 #[x.v s] w fun z w' => z = .returned (.int .i64 (cap x.total : Nat)) ∧ Below w.heap.size w w' := by
 obtain ⟨p, q, c, d⟩ := s
 obtain ⟨w1, hw1, k0, hB1, hz1⟩ := one_alloc w (.cells #[.slice p x.regs.length c, .slice q x.fns.length d] 25)
 have hm := h.2.1
 have hlz : w.heap.size < w1.heap.size := lt_blk k0
 have HA := Lib.hid (Row.start (RowIn.imp h.2 (Nat.le_refl N) (Fnc.At.later (hB1.mono hN) (Nat.le_refl N))))
 have HB1 := Lib.hid hB1
 have HK := Lib.hid k0
 have HNN := Lib.hid hN
 have HT := Lib.hid (show x.total ≤ 4000000 from Nat.le_trans (sumSc_le x.fns) hbig)
 have HBg := Lib.hid (fun (f : Fnc) (hf : f ∈ x.fns) => show f.body.big ≤ 4000000 by have := fnsBig_mem x.fns f hf; omega)
 have htot : x.total = sumSc x.fns := rfl
 obtain ⟨b, o, hq, hb, ha⟩ := HA.out
 have Hb := Lib.hid hb
 have HAt := Lib.hid ha
 unfold Prg.v
 clear h k0 hB1 HA ha hb hbig
 go_enter Tryz.func29, Tryz.ntmps29
 go_wp2_with fail
 go_loopw [3, 4] (fun n i wr => ∃ (k v : Nat) (r : List Fnc), n = .int .i64 v ∧ i = .int .i64 k ∧ k + r.length = x.fns.length ∧ Hid (∀ f ∈ r, f ∈ x.fns) ∧ Hid (Row (Fnc.At w1 N) 5 r b (o + k * 5)) ∧ Hid (v + sumSc r = x.total) ∧ Hid (Below w1.heap.size w1 wr)) (fun _ i _ => x.fns.length - (intOf i).toNat)
 case atStart => exact ⟨0, 0, x.fns, rfl, rfl, by omega, Lib.hid (fun _ h => h), Lib.hid (by rw [Nat.zero_mul]; exact HAt.out), Lib.hid (by omega), Lib.hid (Below.refl _ _)⟩
 case round =>
   obtain ⟨k, v, r, rfl, rfl, hk, hmem, hr, hE, hB⟩ := hrel
   have c1 : wr.cell? ⟨w.heap.size, 1, none⟩ = some (.slice q x.fns.length d) := cell_blk ((hB.out.block _ (lt_blk HK.out)).trans HK.out) rfl
   cases r with
   | nil =>
     simp only [List.length_nil] at hk
     have hge : ¬ k < x.fns.length := by omega
     have hv : v = x.total := by have := hE.out; rw [sumSc] at this; omega
     have HR := Lib.hid (HB1.out.trans (hB.out.mono (by omega)))
     clear htot
     by_cases h7 : 65537 < v
     · have HV := Lib.hid (show cap x.total = 65537 by unfold cap; rw [if_neg (by omega)])
       have hi7 : (65537 : Int) < (v : Int) := by omega
       clear hv
       go_wp2_with fail
       go_ret
       exact ⟨by rw [HV.out]; rfl, HR.out⟩
     · have HV := Lib.hid (show v = cap x.total by unfold cap; split <;> omega)
       have hi7 : ¬ (65537 : Int) < (v : Int) := by omega
       clear hv
       go_wp2_with fail
       go_ret
       exact ⟨by rw [← HV.out]; rfl, HR.out⟩
   | cons y r =>
     obtain ⟨hy, hr'⟩ := hr.out
     simp only [List.length_cons] at hk
     have hlt : k < x.fns.length := by omega
     rcases hq with h0 | rfl
     · omega
     have hbN : b < N := by have := Hb.out; omega
     obtain ⟨pb, cb, hc4, hin⟩ := Fnc.At.bodyC (Fnc.At.later (hB.out.mono (Nat.le_trans HNN.out (by omega))) (Nat.le_refl N) y b _ hbN hy)
     have HC := Lib.hid (rstmts_to _ y.body (Nat.lt_succ_self _) (HBg.out y (hmem.out y (by simp))) 1 (by decide) pb cb N wr hin (Nat.le_trans HNN.out (Nat.le_trans (by omega) hB.out.size)))
     have hE2 := hE.out
     rw [sumSc] at hE2
     have hw0 := wrapS v (y.body.sc 1) (by have := HT.out; omega)
     have HE2 := Lib.hid (show v + y.body.sc 1 + sumSc r = x.total by omega)
     have HR := Lib.hid hr'
     generalize y.body.sc 1 = u at HC hw0 HE2
     clear hy hr' hr hin hE2 hE htot
     go_wp2_with fail
     refine HC.out.mono ?_
     rintro e w2 ⟨rfl, hB2⟩
     have HB2 := Lib.hid (hB.out.trans (hB2.mono hB.out.size))
     clear hB2 HC
     go_wp2_with fail
     go_roundw
     case rel => exact ⟨k + 1, v + u, r, by go_num, by go_num, by omega, Lib.hid (fun f hf => hmem.out f (List.mem_cons_of_mem _ hf)), Lib.hid (by rw [show o + (k + 1) * 5 = o + k * 5 + 5 by omega]; exact HR.out), HE2, HB2⟩
     case measure => simp [intOf]; omega
set_option maxRecDepth 100000 in
set_option maxHeartbeats 3200000 in
theorem rvars_any (f : Fnc) (s : FncP) (N : Nat) (w : World) (h : f.Ok w N s) (hN : N ≤ w.heap.size) (hbig : f.params.length + f.vars.length ≤ 4000000) :
   Calls Tryz.prog 30 #[f.v s] w fun z w' => ∃ p c, z = .returned (.slice p (f.params ++ f.vars).length c) ∧ RowIn w'.heap.size (Vr.At w') 4 (f.params ++ f.vars) p ∧ Below w.heap.size w w' := by
 obtain ⟨i0, hi, hz0, hz1, hz2⟩ := info_parts infoVr
 obtain ⟨pp, pv, pr, pb, cp, cv, cr, cb⟩ := s
 obtain ⟨l, hl⟩ : ∃ l, l = f.params ++ f.vars := ⟨_, rfl⟩
 rw [← hl]
 have HL := Lib.hid hl
 clear hl
 obtain ⟨w1, hw1, k0, hB1, hz⟩ := one_alloc w (.cells #[.string (str f.name), .slice pp f.params.length cp, .slice pv f.vars.length cv, .slice pr f.rets.length cr, .slice pb f.body.len cb] 48)
 have HK := Lib.hid (fun (W : World) (hB : Below w1.heap.size w1 W) => show W.cell? ⟨w.heap.size, 1, none⟩ = some (.slice pp f.params.length cp) ∧ W.cell? ⟨w.heap.size, 2, none⟩ = some (.slice pv f.vars.length cv) from ⟨cell_blk ((hB.block _ (lt_blk k0)).trans k0) rfl, cell_blk ((hB.block _ (lt_blk k0)).trans k0) rfl⟩)
 have H1 := Lib.hid (fun (W : World) (hB : Below w1.heap.size w1 W) => vr_src (h.1.imp (Nat.le_refl N) (Vr.At.later ((hB1.mono hN).trans (hB.mono (by omega))))))
 have H2 := Lib.hid (fun (W : World) (hB : Below w1.heap.size w1 W) => vr_src (h.2.1.imp (Nat.le_refl N) (Vr.At.later ((hB1.mono hN).trans (hB.mono (by omega))))))
 have HB1 := Lib.hid hB1
 have HZ := Lib.hid hz
 have HW1 := Lib.hid hw1
 have hX : Below w1.heap.size w1 w1.drew := (Below.refl _ _).drew
 unfold Fnc.v
 clear k0 hB1 h hw1 hz
 go_enter Tryz.func30, Tryz.ntmps30
 go_upto_region 1 with fail
 rw [HW1.out]
 refine wp_region_held_drew (S := fun W => W.cell? ⟨w.heap.size, 1, none⟩ = some (.slice pp f.params.length cp) ∧ W.cell? ⟨w.heap.size, 2, none⟩ = some (.slice pv f.vars.length cv)) (by kernel_rfl) ?_ (fun hHeld => ?_)
 · exact HK.out _ hX
 refine tq 0 ?_
 refine tq 1 ?_
 refine tq 3 ?_
 refine tq 4 ?_
 obtain ⟨v1, w2, hap, hown, hgr⟩ := run_app (P := Tryz.prog) w1.drew w1.heap.size 46 46 58 i0 _ 4 40 Tryz.underlying46 hi hz0 hz1 hz2 rfl (by decide) (.slice none 0 0) 0 [] ⟨rfl, .inl ⟨rfl, rfl⟩⟩ pp f.params.length cp (vrCells f.params) (H1.out _ hX) (vr_one f.params) (by unfold maxLen; omega) (by omega) (Nat.le_refl _)
 rw [Nat.zero_add, List.nil_append] at hown
 have hX2 : Below w1.heap.size w1 w2 := below_grown (e := 58) (n := 0) (size := 4) (xs := []) hX hgr (Nat.le_refl _) ⟨rfl, .inl ⟨rfl, rfl⟩⟩
 replace hX := hX2
 refine wpAnyH_ready (rs := [2]) (by kernel_rfl) (by simp) ?_
 refine rdy rfl (fun K hK => ?_) AllReadyH.nil
 refine Lib.wp_append_run _ _ _ _ _ rfl _ _ rfl rfl _ _ hap ?_
 refine hK.out _ _ ?_ (fun hHeld => ?_)
 · exact HK.out _ hX
 clear hK K
 try simp only [Act.put, List.setIfInBounds_toArray, List.set_cons_zero, List.set_cons_succ]
 obtain ⟨v2, w3, hap2, hown2, hgr2⟩ := run_app (P := Tryz.prog) w2 w1.heap.size 46 46 58 i0 _ 4 40 Tryz.underlying46 hi hz0 hz1 hz2 rfl (by decide) v1 f.params.length (vrCells f.params) hown pv f.vars.length cv (vrCells f.vars) (H2.out _ hX) (vr_one f.vars) (by unfold maxLen; omega) (by omega) hX.size
 have hX3 : Below w1.heap.size w1 w3 := below_grown hX hgr2 hX.size hown
 replace hX := hX3
 have hO2 : w3.ownsRow w1.heap.size 58 4 v2 l.length (vrCells l) := by rw [HL.out]; simpa [vrCells] using hown2
 refine wpAnyH_ready (rs := [5]) (by kernel_rfl) (by simp) ?_
 refine rdy rfl (fun K hK => ?_) AllReadyH.nil
 refine Lib.wp_append_run _ _ _ _ _ rfl _ _ rfl rfl _ _ hap2 ?_
 refine hK.out _ _ ?_ (fun hHeld => ?_)
 · exact HK.out _ hX
 clear hK K
 try simp only [Act.put, List.setIfInBounds_toArray, List.set_cons_zero, List.set_cons_succ]
 refine tq 6 ?_
 refine wpAnyH_done (by kernel_rfl) ?_ _
 obtain ⟨p, c, rfl, hrow⟩ := own_row hO2 (by rw [HL.out, List.length_append]; omega)
 have HR := Lib.hid (And.intro hrow (HB1.out.trans (hX.mono (by have := HZ.out; omega))))
 clear hO2 hrow hX hX2 hX3 hown hown2 hgr hgr2 hap hap2
 go_wp2_with fail
 go_ret
 first | exact ⟨p, c, rfl, HR.out⟩ | exact ⟨p, ⟨c, rfl⟩, HR.out⟩
end Go.Proofs.YtihmibggonffdaaGreat
