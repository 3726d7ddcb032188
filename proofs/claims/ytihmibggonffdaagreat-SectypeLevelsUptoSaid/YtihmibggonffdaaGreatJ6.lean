/- What is asked of a call. -/
import Derived.Test.YtihmibggonffdaaGreatF1
import Derived.Test.YtihmibggonffdaaGreatJ5
namespace Go.Proofs.YtihmibggonffdaaGreat
open Go.RowKit

def calleeOf : List Fnc → List UInt8 → Nat → Option (Nat × Fnc)
 | [], _, _ => none
 | g :: r, nm, k => if fnNamed nm g then some (k, g) else calleeOf r nm (k + 1)
theorem callee_some {nm : List UInt8} {g : Fnc} {r : List Fnc} (hg : fnNamed nm g = true) : ∀ (d : List Fnc) (k : Nat), d.all (fun y => !fnNamed nm y) = true → calleeOf (d ++ g :: r) nm k = some (k + d.length, g)
 | [], k, _ => by simp [calleeOf, hg]
 | x :: d, k, h => by
   simp only [List.all_cons, Bool.and_eq_true, Bool.not_eq_true'] at h
   rw [List.cons_append, calleeOf, if_neg (by simp [h.1]), callee_some hg d (k + 1) (by simpa using h.2), List.length_cons]
   congr 2; omega
theorem callee_none {nm : List UInt8} : ∀ (d : List Fnc) (k : Nat), d.all (fun y => !fnNamed nm y) = true → calleeOf d nm k = none
 | [], _, _ => rfl
 | x :: d, k, h => by
   simp only [List.all_cons, Bool.and_eq_true, Bool.not_eq_true'] at h
   rw [calleeOf, if_neg (by simp [h.1]), callee_none d (k + 1) (by simpa using h.2)]
def namesR (x : Prg) (fn : Fnc) (f : List UInt8 → Nat) : List (List UInt8) → List (List UInt8) → Nat
 | _, [] => 0
 | ds, s :: r => seq (setR x fn f s) (seq (ask (!ds.any (fun z => z == s)) 2) (namesR x fn f (ds ++ [s]) r))
def fitR (y : St) (g : Fnc) : Nat := ask (decide (y.args.len = g.params.length) && decide (y.names.length = g.rets.length)) 2
def callR (x : Prg) (fn : Fnc) (f : List UInt8 → Nat) (t : Plc) (y : St) : Nat :=
 match calleeOf x.fns y.name 0 with
 | none => 8
 | some (k, g) => seq (ask (decide (k < t.fi)) 9) (seq (namesR x fn f [] y.names) (fitR y g))
set_option maxRecDepth 100000 in
set_option maxHeartbeats 12800000 in
theorem call_any (x : Prg) (s : PrgP) (fn : Fnc) (f : List UInt8 → Nat) (t : Plc) (y : St) (b o N : Nat) (w : World) (h : PlOk w N x s fn f t) (hy : y.At w N b o) (hb : b < N) :
   Calls Tryz.prog 107 #[t.v, .pointer (some ⟨b, o, none⟩)] w (Chk (callR x fn f t y) w) := by
 obtain ⟨W0, hW0, k0, k1, hB0, hz0⟩ := two_alloc w t.obj (.cells #[.pointer (some ⟨b, o, none⟩)] 140)
 have h0 := h.later hB0
 have hbN : b < w.heap.size := Nat.lt_of_lt_of_le hb h.hN
 have hNw := h.hN
 obtain ⟨⟨pn, pe, pa, pg, pbd, pl, cn, ce, ca, cg, cb, cl⟩, hcy, hoky⟩ := hy.open
 obtain ⟨b', o', hq, hb', ha'⟩ := Row.start h.ok.2
 obtain ⟨b2, o2, hq2, hb2, ha2⟩ := Row.start hoky.1.2
 have hcn := hoky.1.1
 have hmn := hoky.1.2.1
 have hmf := h.ok.2.1
 have hma := hoky.2.2.2.1.1
 have HU := Lib.hid (fun (W : World) (hB : Below W0.heap.size W0 W) => show Below w.heap.size w W from hB0.trans (hB.mono (by omega)))
 have HS := Lib.hid (fun (W : World) (hB : Below W0.heap.size W0 W) => show W.cell? ⟨w.heap.size + 1, 0, none⟩ = some (.pointer (some ⟨b, o, none⟩)) ∧ W.cell? ⟨b, o + 1, none⟩ = some (.string (str y.name)) ∧ W.cell? ⟨b, o + 2, none⟩ = some (.slice pn y.names.length cn) ∧ W.cell? ⟨b, o + 11, none⟩ = some (.slice pg y.args.len cg) from
   ⟨cell_blk ((hB.block _ (lt_blk k1)).trans k1) rfl, ((HU.out W hB).cell (p := ⟨b, o + 1, none⟩) hbN).trans (hcy 1 _ rfl), ((HU.out W hB).cell (p := ⟨b, o + 2, none⟩) hbN).trans (hcy 2 _ rfl), ((HU.out W hB).cell (p := ⟨b, o + 11, none⟩) hbN).trans (hcy 11 _ rfl)⟩)
 have HP := Lib.hid (fun (W : World) (hB : Below W0.heap.size W0 W) => Plc.cells (t := t) ((hB.block _ (lt_blk k0)).trans k0))
 have HQ := Lib.hid (fun (W : World) (hB : Below W0.heap.size W0 W) => show W.cell? ⟨t.pb, 0, none⟩ = some (.slice s.p x.regs.length s.c) ∧ W.cell? ⟨t.pb, 1, none⟩ = some (.slice s.q x.fns.length s.d) from
   ⟨cell_blk (h0.later hB).pb rfl, cell_blk (h0.later hB).pb rfl⟩)
 have HIx := Lib.hid (fun (W : World) (hB : Below W0.heap.size W0 W) => ixCall_any x.fns s.q s.d N y.name (w.heap.size + 1) b o W ((h0.later hB).ok.2) (h0.later hB).hN ⟨(hB.block _ (lt_blk k1)).trans k1, (HS.out W hB).2.1, by have := hB.size; omega⟩)
 have HSt := Lib.hid (fun (W : World) (nm : List UInt8) (hB : Below W0.heap.size W0 W) => set_any x s fn f t nm N W (h0.later hB))
 have HFn := Lib.hid (fun (W : World) (d r : List Fnc) (g : Fnc) (hB : Below W0.heap.size W0 W) (hE : x.fns = d ++ g :: r) => show ∃ sg : FncP, s.q = some ⟨b', o', none⟩ ∧ W.cell? ⟨b', o' + d.length * 5 + 1, none⟩ = some (.slice sg.pp g.params.length sg.cp) ∧ W.cell? ⟨b', o' + d.length * 5 + 3, none⟩ = some (.slice sg.pr g.rets.length sg.cr) from by
   have hlt : d.length < x.fns.length := by rw [hE]; simp
   obtain ⟨sg, e0, e1, e2, e3, e4, _⟩ := Fnc.At.all (Row.get (i := d.length) (x := g) ha' (by rw [hE]; simp))
   have hbw : b' < w.heap.size := by have := h.hN; omega
   refine ⟨sg, ?_, ((HU.out W hB).cell (p := ⟨b', _, none⟩) hbw).trans e1, ((HU.out W hB).cell (p := ⟨b', _, none⟩) hbw).trans e3⟩
   rcases hq with h0 | h0
   · omega
   · exact h0)
 have HCn := Lib.hid (fun (W : World) (ds r : List (List UInt8)) (nm : List UInt8) (p : Option Addr) (hp : y.names.length = 0 ∨ p = some ⟨b2, o2, none⟩) (hB : Below W0.heap.size W0 W) (hE : y.names = ds ++ r) => contains_any ds nm p cn N W (by
   refine ⟨by have : ds.length ≤ y.names.length := by rw [hE]; simp
              omega, ?_⟩
   rcases hp with h0 | h0
   · left; have : ds.length ≤ y.names.length := by rw [hE]; simp
     omega
   · by_cases hz : ds.length = 0
     · exact .inl hz
     · have hl : ds.length ≤ y.names.length := by rw [hE]; simp
       right
       refine ⟨b2, o2, h0, by omega, ?_⟩
       have h1 := ha2
       rw [hE] at h1
       exact Row.imp (fun z o hz => StrAt.later (HU.out W hB) z b2 o (by omega) hz) _ _ (Row.pre _ _ _ h1)))
 have HNmC := Lib.hid (fun (W : World) (ds r : List (List UInt8)) (nm : List UInt8) (hB : Below W0.heap.size W0 W) (hE : y.names = ds ++ nm :: r) => show W.cell? ⟨b2, o2 + ds.length, none⟩ = some (.string (str nm)) from by
   have hl : ds.length < y.names.length := by rw [hE]; simp
   exact ((HU.out W hB).cell (p := ⟨b2, _, none⟩) (by have := h.hN; show b2 < _; omega)).trans (str_get ha2 hE))
 have HW0 := Lib.hid hW0
 have HNo := Lib.hid (fun (w' : World) (e : Nat) (he : callR x fn f t y = e) (h0 : e ≠ 0) (hB : Below W0.heap.size W0 w') => show Chk (callR x fn f t y) w (Pn (e : Int)) w' from Chk.no' he h0 (HU.out w' hB))
 have HOK := Lib.hid (fun (w' : World) (he : callR x fn f t y = 0) (hB : Below W0.heap.size W0 w') => show Chk (callR x fn f t y) w (.returned (.tuple #[])) w' from .ok he (HU.out w' hB))
 obtain ⟨c0, c1, c2, c3, c4⟩ := HP.out _ (Below.refl _ _)
 obtain ⟨p0, p1⟩ := HQ.out _ (Below.refl _ _)
 have HQ2 := Lib.hid hq2
 unfold Plc.obj at HW0
 unfold Plc.v at HSt ⊢
 unfold Pn at HNo
 clear h0 hW0 k0 k1 hB0 hz0 h hy hb hcy hq hb' ha' hq2 hb2 ha2 hoky hbN
 go_enter Tryz.func107, Tryz.ntmps107
 go_upto_region 1 with fail
 rw [HW0.out]
 clear HW0
 go_wp2_with fail
 refine (HIx.out _ (Below.refl _ _)).mono ?_
 rintro z w1 ⟨⟨i, rfl, hix⟩, hB1⟩
 have HB1 := Lib.hid hB1
 clear hB1 c0 c1 c2 c3 c4 p0 p1
 rcases hix with ⟨k, g, d, r, rfl, hE, rfl, hg, hd⟩ | ⟨rfl, hd⟩
 rotate_left
 · have HR := Lib.hid (HNo.out w1 8 (by unfold callR; rw [callee_none _ _ hd]) (by decide) HB1.out)
   clear hd
   go_wp2_with (go_at_call 79; refine (must_no 8 _).mono ?_; rintro e w' ⟨rfl, hw⟩; subst hw; unfold Pn)
   exact ⟨rfl, HR.out⟩
 have HCal := Lib.hid (show calleeOf x.fns y.name 0 = some (d.length, g) by rw [hE, callee_some hg d 0 hd, Nat.zero_add])
 have HE := Lib.hid hE
 have hdl : d.length < x.fns.length := by rw [hE]; simp
 clear hg hd hE
 obtain ⟨c0, c1, c2, c3, c4⟩ := HP.out _ HB1.out
 obtain ⟨s0, s1, s2, s3⟩ := HS.out _ HB1.out
 have hge0 : decide ((0 : Int) ≤ (d.length : Int)) = true := decide_eq_true (by omega)
 obtain ⟨q, hq⟩ : ∃ q, decide (d.length < t.fi) = q := ⟨_, rfl⟩
 have hqi : decide ((d.length : Int) < (t.fi : Int)) = q := by rw [← hq, Bool.eq_iff_iff]; simp
 have HQq := Lib.hid hq
 cases q with
 | false =>
   have HR := Lib.hid (HNo.out w1 9 (by unfold callR; rw [HCal.out]; simp only [hq]; rfl) (by decide) HB1.out)
   go_wp2_with (first | (go_at_call 79; refine (must_yes 8 _).mono ?_; rintro e w' ⟨rfl, hw⟩; subst hw) | (go_at_call 79; refine (must_no 9 _).mono ?_; rintro e w' ⟨rfl, hw⟩; subst hw; unfold Pn))
   exact ⟨rfl, HR.out⟩
 | true =>
   have HRx := Lib.hid (show callR x fn f t y = seq (namesR x fn f [] y.names) (fitR y g) by unfold callR; rw [HCal.out]; simp only [hq]; rfl)
   go_wp2_with (first | (go_at_call 79; refine (must_yes 8 _).mono ?_; rintro e w' ⟨rfl, hw⟩; subst hw) | (go_at_call 79; refine (must_yes 9 _).mono ?_; rintro e w' ⟨rfl, hw⟩; subst hw))
   clear c0 c1 c2 c3 c4 s0 s1 s2 s3 hq hqi hge0
   go_loopw [27] (fun i wr => ∃ (ds r : List (List UInt8)), i = .int .i64 ds.length ∧ ds.length + r.length = y.names.length ∧ Hid (y.names = ds ++ r) ∧ Hid (Below W0.heap.size W0 wr) ∧ Hid (namesR x fn f [] y.names = namesR x fn f ds r)) (fun i _ => y.names.length - (intOf i).toNat)
   case atStart => exact ⟨[], y.names, rfl, by simp, Lib.hid rfl, HB1, Lib.hid rfl⟩
   case round =>
     obtain ⟨ds, r, rfl, hk, hds, hB, hE⟩ := hrel
     cases r with
     | cons z r =>
       simp only [List.length_cons] at hk
       have hlt : ds.length < y.names.length := by omega
       have hq2 : pn = some ⟨b2, o2, none⟩ := by
         rcases HQ2.out with h0 | h0
         · omega
         · exact h0
       have d0 := HNmC.out wr ds r z hB.out hds.out
       obtain ⟨c0, c1, c2, c3, c4⟩ := HP.out _ hB.out
       subst hq2
       go_wp2_with fail
       refine (HSt.out wr z hB.out).mono ?_
       intro z1 w2 hc
       rcases hc with ⟨r1, hB2⟩ | ⟨r1, hB2⟩
       rotate_left
       · have HR := Lib.hid (HNo.out w2 _ (by rw [HRx.out, hE.out, namesR, seq_no r1, seq_no r1]) r1 (hB.out.trans (hB2.mono hB.out.size)))
         unfold Pn
         clear hB2 r1 c0 c1 c2 c3 c4 d0
         go_wp2_with fail
         exact ⟨rfl, HR.out⟩
       have R1 := Lib.hid r1
       have HB2 := Lib.hid (hB.out.trans (hB2.mono hB.out.size))
       clear hB2 r1 c0 c1 c2 c3 c4 d0
       obtain ⟨s0, s1, s2, s3⟩ := HS.out _ HB2.out
       have hsl : ds.length ≤ cn := by omega
       go_wp2_with fail
       refine (HCn.out w2 ds (z :: r) z _ (.inr rfl) HB2.out hds.out).mono ?_
       rintro z1 w3 ⟨rfl, rfl⟩
       clear s0 s1 s2 s3
       obtain ⟨q, hq⟩ : ∃ q, ds.any (fun u => u == z) = q := ⟨_, rfl⟩
       rw [hq]
       cases q with
       | true =>
         have HR := Lib.hid (HNo.out w2 2 (by rw [HRx.out, hE.out, namesR, seq_ok R1.out, hq]; rfl) (by decide) HB2.out)
         clear hq
         go_wp2_with (go_at_call 79; refine (must_no 2 _).mono ?_; rintro e w' ⟨rfl, hw⟩; subst hw; unfold Pn)
         exact ⟨rfl, HR.out⟩
       | false =>
         have HE2 := Lib.hid (show namesR x fn f [] y.names = namesR x fn f (ds ++ [z]) r by rw [hE.out, namesR, seq_ok R1.out, hq]; rfl)
         clear hq
         go_wp2_with (go_at_call 79; refine (must_yes 2 _).mono ?_; rintro e w' ⟨rfl, hw⟩; subst hw)
         go_roundw
         case rel => exact ⟨ds ++ [z], r, by rw [List.length_append]; go_num, by simp; omega, Lib.hid (by rw [hds.out]; simp), HB2, HE2⟩
         case measure => simp [intOf]; omega
     | nil =>
       simp only [List.length_nil] at hk
       have hge : ¬ ds.length < y.names.length := by omega
       have HRy := Lib.hid (show callR x fn f t y = fitR y g by rw [HRx.out, hE.out, namesR]; rfl)
       obtain ⟨sg, hqs, g1, g3⟩ := HFn.out wr d _ g hB.out HE.out
       obtain ⟨s0, s1, s2, s3⟩ := HS.out _ hB.out
       obtain ⟨c0, c1, c2, c3, c4⟩ := HP.out _ hB.out
       obtain ⟨p0, p1⟩ := HQ.out _ hB.out
       rw [hqs] at p1
       have hdi : (d.length : Int) < (x.fns.length : Int) := by omega
       obtain ⟨t1, ht1⟩ : ∃ t1, decide (y.args.len = g.params.length) = t1 := ⟨_, rfl⟩
       obtain ⟨t2, ht2⟩ : ∃ t2, decide (y.names.length = g.rets.length) = t2 := ⟨_, rfl⟩
       have hn1 : ((y.args.len : Int) == (g.params.length : Int)) = t1 := by rw [← ht1, Bool.eq_iff_iff]; simp; omega
       have hn2 : ((y.names.length : Int) == (g.rets.length : Int)) = t2 := by rw [← ht2, Bool.eq_iff_iff]; simp; omega
       have HT := Lib.hid (show fitR y g = Proofs.YtihmibggonffdaaGreat.ask (t1 && t2) 2 by unfold fitR; rw [ht1, ht2])
       clear ht1 ht2 hE
       go_upto_region 10 with fail
       cases t1
       · refine wp_region_held_drew (S := fun W => W.cell? ⟨w.heap.size + 1, 0, none⟩ = some (.pointer (some ⟨b, o, none⟩)) ∧ W.cell? ⟨b, o + 2, none⟩ = some (.slice pn y.names.length cn) ∧ W.cell? ⟨b, o + 11, none⟩ = some (.slice pg y.args.len cg) ∧ W.cell? ⟨w.heap.size, 0, none⟩ = some (.pointer (some ⟨t.pb, 0, none⟩)) ∧ W.cell? ⟨t.pb, 1, none⟩ = some (.slice (some ⟨b', o', none⟩) x.fns.length s.d) ∧ W.cell? ⟨b', o' + d.length * 5 + 1, none⟩ = some (.slice sg.pp g.params.length sg.cp) ∧ W.cell? ⟨b', o' + d.length * 5 + 3, none⟩ = some (.slice sg.pr g.rets.length sg.cr)) (by kernel_rfl) ?_ (fun hHeld => ?_)
         · exact ⟨s0, s2, s3, c0, p1, g1, g3⟩
         refine tq 0 ?_
         refine tq 1 ?_
         refine tq 2 ?_
         refine tq 3 ?_
         refine tq 4 ?_
         refine tq 5 ?_
         refine tq 6 ?_
         refine tq 7 ?_
         refine tq 8 ?_
         refine tq 9 ?_
         refine tq 10 ?_
         refine tq 11 ?_
         refine tq 12 ?_
         refine tq 13 ?_
         refine tq 14 ?_
         refine tq 15 ?_
         refine tq 16 ?_
         refine sq 17 ?_
         refine sq 18 ?_
         refine sq 19 ?_
         refine sq 20 ?_
         refine sq 21 ?_
         refine sq 22 ?_
         refine sq 23 ?_
         refine sq 24 ?_
         refine sq 25 ?_
         refine sq 26 ?_
         refine sq 27 ?_
         refine sq 28 ?_
         refine sq 29 ?_
         refine sq 30 ?_
         refine sq 31 ?_
         refine sq 32 ?_
         refine tq 33 ?_
         have HR := Lib.hid (HNo.out _ 2 (by rw [HRy.out, HT.out]; rfl) (by decide) hB.out.drew)
         refine wpAnyH_ready (rs := [34]) (by kernel_rfl) (by simp) ?_
         refine rdy rfl (fun K hK => ?_) AllReadyH.nil
         go_simp
         refine (must_no 2 _).mono ?_
         rintro e w' ⟨rfl, rfl⟩
         unfold Pn
         exact ⟨rfl, HR.out⟩
       cases t2
       · refine wp_region_held_drew (S := fun W => W.cell? ⟨w.heap.size + 1, 0, none⟩ = some (.pointer (some ⟨b, o, none⟩)) ∧ W.cell? ⟨b, o + 2, none⟩ = some (.slice pn y.names.length cn) ∧ W.cell? ⟨b, o + 11, none⟩ = some (.slice pg y.args.len cg) ∧ W.cell? ⟨w.heap.size, 0, none⟩ = some (.pointer (some ⟨t.pb, 0, none⟩)) ∧ W.cell? ⟨t.pb, 1, none⟩ = some (.slice (some ⟨b', o', none⟩) x.fns.length s.d) ∧ W.cell? ⟨b', o' + d.length * 5 + 1, none⟩ = some (.slice sg.pp g.params.length sg.cp) ∧ W.cell? ⟨b', o' + d.length * 5 + 3, none⟩ = some (.slice sg.pr g.rets.length sg.cr)) (by kernel_rfl) ?_ (fun hHeld => ?_)
         · exact ⟨s0, s2, s3, c0, p1, g1, g3⟩
         refine tq 0 ?_
         refine tq 1 ?_
         refine tq 2 ?_
         refine tq 3 ?_
         refine tq 4 ?_
         refine tq 5 ?_
         refine tq 6 ?_
         refine tq 7 ?_
         refine tq 8 ?_
         refine tq 9 ?_
         refine tq 10 ?_
         refine tq 11 ?_
         refine tq 12 ?_
         refine tq 13 ?_
         refine tq 14 ?_
         refine tq 15 ?_
         refine tq 16 ?_
         refine tq 17 ?_
         refine tq 18 ?_
         refine tq 19 ?_
         refine tq 20 ?_
         refine tq 21 ?_
         refine tq 22 ?_
         refine tq 23 ?_
         refine tq 24 ?_
         refine tq 25 ?_
         refine tq 26 ?_
         refine tq 27 ?_
         refine tq 28 ?_
         refine tq 29 ?_
         refine tq 30 ?_
         refine tq 31 ?_
         refine tq 32 ?_
         refine tq 33 ?_
         have HR := Lib.hid (HNo.out _ 2 (by rw [HRy.out, HT.out]; rfl) (by decide) hB.out.drew)
         refine wpAnyH_ready (rs := [34]) (by kernel_rfl) (by simp) ?_
         refine rdy rfl (fun K hK => ?_) AllReadyH.nil
         go_simp
         refine (must_no 2 _).mono ?_
         rintro e w' ⟨rfl, rfl⟩
         unfold Pn
         exact ⟨rfl, HR.out⟩
       refine wp_region_held_drew (S := fun W => W.cell? ⟨w.heap.size + 1, 0, none⟩ = some (.pointer (some ⟨b, o, none⟩)) ∧ W.cell? ⟨b, o + 2, none⟩ = some (.slice pn y.names.length cn) ∧ W.cell? ⟨b, o + 11, none⟩ = some (.slice pg y.args.len cg) ∧ W.cell? ⟨w.heap.size, 0, none⟩ = some (.pointer (some ⟨t.pb, 0, none⟩)) ∧ W.cell? ⟨t.pb, 1, none⟩ = some (.slice (some ⟨b', o', none⟩) x.fns.length s.d) ∧ W.cell? ⟨b', o' + d.length * 5 + 1, none⟩ = some (.slice sg.pp g.params.length sg.cp) ∧ W.cell? ⟨b', o' + d.length * 5 + 3, none⟩ = some (.slice sg.pr g.rets.length sg.cr)) (by kernel_rfl) ?_ (fun hHeld => ?_)
       · exact ⟨s0, s2, s3, c0, p1, g1, g3⟩
       refine tq 0 ?_
       refine tq 1 ?_
       refine tq 2 ?_
       refine tq 3 ?_
       refine tq 4 ?_
       refine tq 5 ?_
       refine tq 6 ?_
       refine tq 7 ?_
       refine tq 8 ?_
       refine tq 9 ?_
       refine tq 10 ?_
       refine tq 11 ?_
       refine tq 12 ?_
       refine tq 13 ?_
       refine tq 14 ?_
       refine tq 15 ?_
       refine tq 16 ?_
       refine tq 17 ?_
       refine tq 18 ?_
       refine tq 19 ?_
       refine tq 20 ?_
       refine tq 21 ?_
       refine tq 22 ?_
       refine tq 23 ?_
       refine tq 24 ?_
       refine tq 25 ?_
       refine tq 26 ?_
       refine tq 27 ?_
       refine tq 28 ?_
       refine tq 29 ?_
       refine tq 30 ?_
       refine tq 31 ?_
       refine tq 32 ?_
       refine tq 33 ?_
       refine wpAnyH_ready (rs := [34]) (by kernel_rfl) (by simp) ?_
       refine rdy rfl (fun K hK => ?_) AllReadyH.nil
       go_simp
       refine (must_yes 2 _).mono ?_
       rintro e w' ⟨rfl, hw⟩
       subst hw
       refine hK.out _ _ ?_ (fun hHeld => ?_)
       · exact ⟨s0, s2, s3, c0, p1, g1, g3⟩
       clear hK K
       try simp only [Act.put, List.setIfInBounds_toArray, List.set_cons_zero, List.set_cons_succ]
       refine wpAnyH_done (by kernel_rfl) ?_ _
       have HR := Lib.hid (HOK.out _ (by rw [HRy.out, HT.out]; rfl) hB.out.drew)
       go_wp2_with fail
       go_end0
       exact HR.out
end Go.Proofs.YtihmibggonffdaaGreat
