/- The document's Alike. -/
import Derived.Test.YtihmibggonffdaaGreatAL2
import Derived.Test.YtihmibggonffdaaGreatDG
namespace Go.Proofs.YtihmibggonffdaaGreat
open Go.RowKit

theorem lenB_at : ∀ (d : List Nat) (ds : List Rgn) (n : Nat) (r : List Nat) (v : Rgn) (rs : List Rgn), d.length = ds.length → lenB (d ++ n :: r) (ds ++ v :: rs) = true → (n : Int) = v.size
  | [], [], n, r, v, rs, _, h => by
    simp only [List.nil_append, lenB, Bool.and_eq_true, Bool.not_eq_true', bne_eq_false_iff_eq] at h
    exact h.1
  | [], _ :: _, _, _, _, _, hl, _ => by simp at hl
  | _ :: _, [], _, _, _, _, hl, _ => by simp at hl
  | x :: d, y :: ds, n, r, v, rs, hl, h => by
    simp only [List.cons_append, lenB, Bool.and_eq_true] at h
    exact lenB_at d ds n r v rs (by simpa using hl) h.2
set_option maxRecDepth 100000 in
set_option maxHeartbeats 12800000 in
theorem ralike_any (x : Prg) (s : PrgP) (a b : InW) (N : Nat) (w : World) (h : x.Ok w N s.p s.q) (hA : a.Ok w N) (hB : b.Ok w N) (hN : N ≤ w.heap.size) (hbig : fnsBig x.fns ≤ 4000000) :
    Calls Tryz.prog 17 #[x.v s, a.v, b.v] w fun z w' => z = .returned (.bool (alB x a b)) ∧ Below w.heap.size w w' := by
  obtain ⟨p, q, c, d⟩ := s
  obtain ⟨apa, apr, aca, acr, aa, ar⟩ := a
  obtain ⟨bpa, bpr, bca, bcr, ba, br⟩ := b
  obtain ⟨W0, hW0, k0, k1, k2, hB0, hz0⟩ := three w (.cells #[.slice p x.regs.length c, .slice q x.fns.length d] 25) (.cells #[.slice apa aa.length aca, .slice apr ar.length acr] 66) (.cells #[.slice bpa ba.length bca, .slice bpr br.length bcr] 66)
  have HU := Lib.hid (fun (W : World) (hB : Below W0.heap.size W0 W) => show Below w.heap.size w W from hB0.trans (hB.mono (by omega)))
  have HP := Lib.hid (fun (W : World) (hB : Below W0.heap.size W0 W) => show W.cell? ⟨w.heap.size, 0, none⟩ = some (.slice p x.regs.length c) ∧ W.cell? ⟨w.heap.size, 1, none⟩ = some (.slice q x.fns.length d) ∧ W.cell? ⟨w.heap.size + 1, 0, none⟩ = some (.slice apa aa.length aca) ∧ W.cell? ⟨w.heap.size + 1, 1, none⟩ = some (.slice apr ar.length acr) ∧ W.cell? ⟨w.heap.size + 1 + 1, 0, none⟩ = some (.slice bpa ba.length bca) ∧ W.cell? ⟨w.heap.size + 1 + 1, 1, none⟩ = some (.slice bpr br.length bcr) from
    have e0 := (hB.block _ (lt_blk k0)).trans k0
    have e1 := (hB.block _ (lt_blk k1)).trans k1
    have e2 := (hB.block _ (lt_blk k2)).trans k2
    ⟨cell_blk e0 rfl, cell_blk e0 rfl, cell_blk e1 rfl, cell_blk e1 rfl, cell_blk e2 rfl, cell_blk e2 rfl⟩)
  have HFa := Lib.hid (fun (W : World) (hW : Below w.heap.size w W) => rfit_any x ⟨p, q, c, d⟩ (InW.p ⟨apa, apr, aca, acr, aa, ar⟩) N W (h.later (hW.mono hN) (Nat.le_refl N)) (hA.later (hW.mono hN)).p (Nat.le_trans hN hW.size) hbig)
  have HFb := Lib.hid (fun (W : World) (hW : Below w.heap.size w W) => rfit_any x ⟨p, q, c, d⟩ (InW.p ⟨bpa, bpr, bca, bcr, ba, br⟩) N W (h.later (hW.mono hN) (Nat.le_refl N)) (hB.later (hW.mono hN)).p (Nat.le_trans hN hW.size) hbig)
  have HAa := Lib.hid (fun (W : World) (hW : Below w.heap.size w W) => show RowIn N (UAt W) 1 aa apa ∧ RowIn N (WRow W N) 1 ar apr from ⟨(hA.later (hW.mono hN)).args, (hA.later (hW.mono hN)).rows⟩)
  have HAb := Lib.hid (fun (W : World) (hW : Below w.heap.size w W) => show RowIn N (UAt W) 1 ba bpa ∧ RowIn N (WRow W N) 1 br bpr from ⟨(hB.later (hW.mono hN)).args, (hB.later (hW.mono hN)).rows⟩)
  have HX := Lib.hid (fun (W : World) (hW : Below w.heap.size w W) => h.later (hW.mono hN) (Nat.le_refl N))
  have HN := Lib.hid hN
  obtain ⟨R, hR⟩ : ∃ R, R = alB x ⟨apa, apr, aca, acr, aa, ar⟩ ⟨bpa, bpr, bca, bcr, ba, br⟩ := ⟨_, rfl⟩
  have HR := Lib.hid hR
  rw [← hR]
  obtain ⟨Fa, hFa⟩ : ∃ F, F = fitW x ⟨apa, apr, aca, acr, aa, ar⟩ := ⟨_, rfl⟩
  obtain ⟨Fb, hFb⟩ : ∃ F, F = fitW x ⟨bpa, bpr, bca, bcr, ba, br⟩ := ⟨_, rfl⟩
  have HFA := Lib.hid hFa
  have HFB := Lib.hid hFb
  have HW0 := Lib.hid hW0
  replace HFa := Lib.hid (fun (W : World) (hW : Below w.heap.size w W) => show Calls Tryz.prog 18 #[.agg #[.slice p x.regs.length c, .slice q x.fns.length d], .agg #[.slice apa aa.length aca, .slice apr ar.length acr]] W fun z w' => z = .returned (.bool Fa) ∧ Below W.heap.size W w' from by have e := HFa.out W hW; rw [InW.p_v] at e; rw [hFa]; exact e)
  replace HFb := Lib.hid (fun (W : World) (hW : Below w.heap.size w W) => show Calls Tryz.prog 18 #[.agg #[.slice p x.regs.length c, .slice q x.fns.length d], .agg #[.slice bpa ba.length bca, .slice bpr br.length bcr]] W fun z w' => z = .returned (.bool Fb) ∧ Below W.heap.size W w' from by have e := HFb.out W hW; rw [InW.p_v] at e; rw [hFb]; exact e)
  unfold Prg.v InW.v
  dsimp only
  have HC := Lib.hid (HFa.out W0 (HU.out _ (Below.refl _ _)))
  obtain ⟨p0, p1, p2, p3, p4, p5⟩ := HP.out W0 (Below.refl _ _)
  clear hW0 k0 k1 k2 hB0 hz0 h hA hB hN hbig hR hFa hFb HFa
  cases Fa
  · have HRf := Lib.hid (show R = false by rw [HR.out, alB, ← HFA.out]; rfl)
    go_enter Tryz.func17, Tryz.ntmps17
    go_wp2_with fail
    erw [HW0.out]
    refine HC.out.mono ?_
    rintro z w1 ⟨rfl, hB1⟩
    have HY := Lib.hid (HU.out _ hB1)
    clear hB1 p0 p1 p2 p3 p4 p5 HC
    go_wp2_with fail
    go_ret
    exact ⟨ret_bool HRf.out.symm, HY.out⟩
  go_enter Tryz.func17, Tryz.ntmps17
  go_wp2_with fail
  erw [HW0.out]
  refine HC.out.mono ?_
  rintro z w1 ⟨rfl, hB1⟩
  have HX1 := Lib.hid hB1
  clear hB1 p0 p1 p2 p3 p4 p5 HC HW0
  obtain ⟨p0, p1, p2, p3, p4, p5⟩ := HP.out w1 HX1.out
  have HC := Lib.hid (HFb.out w1 (HU.out _ HX1.out))
  clear HFb
  cases Fb
  · have HRf := Lib.hid (show R = false by rw [HR.out, alB, ← HFA.out, ← HFB.out]; rfl)
    go_wp2_with fail
    refine HC.out.mono ?_
    rintro z w2 ⟨rfl, hB2⟩
    have HY := Lib.hid ((HU.out _ HX1.out).trans (hB2.mono (HU.out _ HX1.out).size))
    clear hB2 p0 p1 p2 p3 p4 p5 HC
    go_wp2_with fail
    go_ret
    exact ⟨ret_bool HRf.out.symm, HY.out⟩
  go_wp2_with fail
  refine HC.out.mono ?_
  rintro z w2 ⟨rfl, hB2⟩
  have HX2 := Lib.hid (HX1.out.trans (hB2.mono HX1.out.size))
  clear hB2 p0 p1 p2 p3 p4 p5 HC HX1
  obtain ⟨hmy, hla, hra, hlna⟩ := fitW_len HFA.out.symm
  obtain ⟨_, hlb, hrb, hlnb⟩ := fitW_len HFB.out.symm
  obtain ⟨ds, fn, hds, hlp⟩ := last_of (may_fns hmy)
  have hv : lastV x = fn.params := by unfold lastV; rw [hds]; simp
  have HRv := Lib.hid (show R = (pubA fn.params aa ba && pubR x.regs ar br) by rw [HR.out, alB, ← HFA.out, ← HFB.out, hv]; rfl)
  rw [hv] at hla hlb
  have HLn := Lib.hid (And.intro (And.intro hla hlb) (And.intro (And.intro hra hrb) (And.intro hlna hlnb)))
  have hxl : x.fns.length = ds.length + 1 := by rw [hds]; simp
  obtain ⟨b', o', hq, hb', ha'⟩ := Row.start (HX.out w (Below.refl _ _)).2
  obtain ⟨⟨pp, pv, pr, pb, cp, cv, cr, cb⟩, e0, e1, e2, e3, e4, hok⟩ := Fnc.At.all (Row.get (i := ds.length) (x := fn) ha' (by rw [hds]; simp))
  have hqs : q = some ⟨b', o', none⟩ := by
    rcases hq with h0 | h0
    · omega
    · exact h0
  subst hqs
  have hlt : ds.length < x.fns.length := by omega
  have hws : IntKind.i64.wrap ((x.fns.length : Int) - 1) = ((ds.length : Nat) : Int) := by rw [hxl]; simp [IntKind.wrap, IntKind.bits, IntKind.signed]; have := (HX.out w (Below.refl _ _)).2.1; omega
  have H5 := Lib.hid (show w2.cell? ⟨b', o' + ds.length * 5, none⟩ = some (.string (str fn.name)) ∧ w2.cell? ⟨b', o' + ds.length * 5 + 2, none⟩ = some (.slice pv fn.vars.length cv) ∧ w2.cell? ⟨b', o' + ds.length * 5 + 3, none⟩ = some (.slice pr fn.rets.length cr) ∧ w2.cell? ⟨b', o' + ds.length * 5 + 4, none⟩ = some (.slice pb fn.body.len cb) from
    have hlt : b' < w.heap.size := by have := HN.out; omega
    have hB := HU.out _ HX2.out
    ⟨(hB.cell (p := ⟨b', _, none⟩) hlt).trans e0, (hB.cell (p := ⟨b', _, none⟩) hlt).trans e2, (hB.cell (p := ⟨b', _, none⟩) hlt).trans e3, (hB.cell (p := ⟨b', _, none⟩) hlt).trans e4⟩)
  have HPar := Lib.hid (fun (W : World) (hW : Below w.heap.size w W) => show RowIn N (Vr.At W) 4 fn.params pp from hok.1.imp (Nat.le_refl N) (Vr.At.later (hW.mono HN.out)))
  replace e1 := ((HU.out _ HX2.out).cell (p := ⟨b', o' + ds.length * 5 + 1, none⟩) (show b' < w.heap.size by have := HN.out; omega)).trans e1
  obtain ⟨p0, p1, p2, p3, p4, p5⟩ := HP.out w2 HX2.out
  clear hmy hla hlb hra hrb hlna hlnb hds hlp hv hq hb' ha' hok
  clear e0 e2 e3 e4
  obtain ⟨e0, e2, e3, e4⟩ := H5.out
  have hxe : (x.fns.length : Int) - 1 = ((ds.length : Nat) : Int) := by omega
  have hdl : ds.length ≤ 140737488355328 := by have := (HX.out w (Below.refl _ _)).2.1; omega
  have hmp : fn.params.length ≤ 140737488355328 := (HPar.out w (Below.refl _ _)).1
  have hm : x.regs.length ≤ 140737488355328 := (HX.out w (Below.refl _ _)).1.1
  clear hxl hws
  obtain ⟨W3, hW3, k3, hB3, hz3⟩ := one_alloc w2 (.cells #[.string (str fn.name), .slice pp fn.params.length cp, .slice pv fn.vars.length cv, .slice pr fn.rets.length cr, .slice pb fn.body.len cb] 48)
  have HX3 := Lib.hid (HX2.out.trans (hB3.mono HX2.out.size))
  have HG := Lib.hid (fun (W : World) (hW : Below W3.heap.size W3 W) => show W.cell? ⟨w2.heap.size, 1, none⟩ = some (.slice pp fn.params.length cp) from cell_blk ((hW.block _ (lt_blk k3)).trans k3) rfl)
  have HW3 := Lib.hid hW3
  have HB3 := Lib.hid hB3
  clear hW3 k3 hB3 hz3
  have hg := HG.out W3 (Below.refl _ _)
  go_upto_region 4 with fail
  erw [HW3.out]
  clear p0 p1 p2 p3 p4 p5 e0 e1 e2 e3 e4 hlt hxe hdl hg H5
  go_wp2_with fail
  go_loopw [8] (fun i wr => ∃ (d r : List Vr) (da ra db rb : List Int), i = .int .i64 d.length ∧ d.length + r.length = fn.params.length ∧ Hid (fn.params = d ++ r) ∧ Hid (aa = da ++ ra) ∧ Hid (ba = db ++ rb) ∧ Hid (da.length = d.length ∧ db.length = d.length) ∧ Hid (R = (pubA r ra rb && pubR x.regs ar br)) ∧ Hid (Below W3.heap.size W3 wr)) (fun i _ => fn.params.length - (intOf i).toNat)
  case atStart => exact ⟨[], fn.params, [], aa, [], ba, rfl, by rw [List.length_nil]; omega, Lib.hid rfl, Lib.hid rfl, Lib.hid rfl, Lib.hid ⟨rfl, rfl⟩, HRv, Lib.hid (Below.refl _ _)⟩
  case round =>
    obtain ⟨d1, r1, da, ra, db, rb, rfl, hk, hE, hEa, hEb, hLd, hRr, hBs⟩ := hrel
    have hBr := Lib.hid (HX3.out.trans (hBs.out.mono HX3.out.size))
    have hg := HG.out wr hBs.out
    cases r1 with
    | nil =>
      simp only [List.length_nil] at hk
      have hge : ¬ d1.length < fn.params.length := by omega
      have HR2 := Lib.hid (show R = pubR x.regs ar br by rw [hRr.out]; unfold pubA; simp)
      clear hE hEa hEb hLd hRr
      go_wp2_with fail
      clear hg
      go_loopw [9] (fun i wx => ∃ (d r : List Rgn) (da ra db rb : List (List Int)), i = .int .i64 d.length ∧ d.length + r.length = x.regs.length ∧ Hid (x.regs = d ++ r) ∧ Hid (ar = da ++ ra) ∧ Hid (br = db ++ rb) ∧ Hid (da.length = d.length ∧ db.length = d.length) ∧ Hid (R = pubR r ra rb) ∧ Hid (Below W0.heap.size W0 wx)) (fun i _ => x.regs.length - (intOf i).toNat)
      case atStart => exact ⟨[], x.regs, [], ar, [], br, rfl, by rw [List.length_nil]; omega, Lib.hid rfl, Lib.hid rfl, Lib.hid rfl, Lib.hid ⟨rfl, rfl⟩, HR2, hBr⟩
      case round =>
        obtain ⟨d2, r2, da2, ra2, db2, rb2, rfl, hk2, hE2, hEa2, hEb2, hLd2, hRr2, hBr2⟩ := hrel
        have p0 := (HP.out wr hBr2.out).1
        cases r2 with
        | nil =>
          simp only [List.length_nil] at hk2
          have hge2 : ¬ d2.length < x.regs.length := by omega
          have HRf := Lib.hid (show R = true by rw [hRr2.out]; unfold pubR; rfl)
          have HY := Lib.hid (HU.out _ hBr2.out)
          clear hE2 hEa2 hEb2 hLd2 hRr2
          go_wp2_with fail
          go_ret
          exact ⟨ret_bool HRf.out.symm, HY.out⟩
        | cons v r2 =>
          simp only [List.length_cons] at hk2
          have hlt2 : d2.length < x.regs.length := by omega
          obtain ⟨ya, ra', rfl⟩ := cons_of hEa2.out (by have := hLd2.out.1; omega) HLn.out.2.1.1
          obtain ⟨yb, rb', rfl⟩ := cons_of hEb2.out (by have := hLd2.out.2; omega) HLn.out.2.1.2
          obtain ⟨xa, oa, rfl, hba, qa, ka, hca, hra⟩ := row_at (HAa.out wr (HU.out _ hBr2.out)).2 hEa2.out
          obtain ⟨xb, ob, rfl, hbb, qb, kb, hcb, hrb⟩ := row_at (HAb.out wr (HU.out _ hBr2.out)).2 hEb2.out
          rw [hLd2.out.1] at hca
          rw [hLd2.out.2] at hcb
          obtain ⟨bp, op, rfl, hbp, hvp⟩ := row_atk (HX.out wr (HU.out _ hBr2.out)).1 hE2.out
          have hYl := Lib.hid (show ya.length = yb.length by
            have h1 := lenB_at (da2.map List.length) d2 ya.length (ra'.map List.length) v r2 (by rw [List.length_map]; exact hLd2.out.1) (by have h := HLn.out.2.2.1; rw [hEa2.out, hE2.out, List.map_append, List.map_cons] at h; exact h)
            have h2 := lenB_at (db2.map List.length) d2 yb.length (rb'.map List.length) v r2 (by rw [List.length_map]; exact hLd2.out.2) (by have h := HLn.out.2.2.2; rw [hEb2.out, hE2.out, List.map_append, List.map_cons] at h; exact h)
            omega)
          obtain ⟨nm, ad, sz, sc⟩ := v
          obtain ⟨v0, v1, v2, v3⟩ := hvp
          have hNr : N ≤ wr.heap.size := by have := HN.out; have := (HU.out _ hBr2.out).size; omega
          have HQ := Lib.hid (fun (W : World) (hW : Below wr.heap.size wr W) => show W.cell? ⟨bp, op + d2.length * 4 + 3, none⟩ = some (.bool sc) ∧ W.cell? ⟨xa, oa + d2.length, none⟩ = some (.slice qa ya.length ka) ∧ W.cell? ⟨xb, ob + d2.length, none⟩ = some (.slice qb yb.length kb) ∧ RowIn N (UAt W) 1 ya qa ∧ RowIn N (UAt W) 1 yb qb from
            ⟨(hW.cell (p := ⟨bp, _, none⟩) (show bp < wr.heap.size by omega)).trans v3, (hW.cell (p := ⟨xa, _, none⟩) (show xa < wr.heap.size by omega)).trans hca, (hW.cell (p := ⟨xb, _, none⟩) (show xb < wr.heap.size by omega)).trans hcb, hra.imp (Nat.le_refl N) (UAt.later (hW.mono hNr)), hrb.imp (Nat.le_refl N) (UAt.later (hW.mono hNr))⟩)
          have hlta : d2.length < ar.length := by have := HLn.out.2.1.1; omega
          have hltb : d2.length < br.length := by have := HLn.out.2.1.2; omega
          have hmy : ya.length ≤ 140737488355328 := hra.1
          obtain ⟨wv, hwv⟩ : ∃ wv : World, wv = wr := ⟨_, rfl⟩
          have HBv := Lib.hid (show Below W0.heap.size W0 wv from by rw [hwv]; exact hBr2.out)
          rw [← hwv] at HQ
          have HWV := Lib.hid (show Below wv.heap.size wv wr by rw [hwv]; exact Below.refl _ _)
          clear hca hcb hba hbb hbp hra hrb v0 v1 v2 v3 hNr hwv
          go_wp2_with fail
          clear p0
          go_loopw [10] (fun i wx => ∃ (e f g : List Int), i = .int .i64 e.length ∧ e.length + f.length = ya.length ∧ Hid (f.length = g.length) ∧ Hid (ya = e ++ f) ∧ Hid (yb = e ++ g) ∧ Hid (Below wv.heap.size wv wx)) (fun i _ => ya.length - (intOf i).toNat)
          case atStart => exact ⟨[], ya, yb, rfl, by simp, hYl, Lib.hid rfl, Lib.hid rfl, HWV⟩
          case round =>
            obtain ⟨e1, f1, g1, rfl, hke, hfg, hEe, hEg, hBe⟩ := hrel
            have hBo := Lib.hid (HBv.out.trans (hBe.out.mono HBv.out.size))
            obtain ⟨p0, p1, p2, p3, p4, p5⟩ := HP.out wr hBo.out
            obtain ⟨v3, hca, hcb, hra, hrb⟩ := HQ.out wr hBe.out
            cases f1 with
            | nil =>
              simp only [List.length_nil] at hke
              have hgee : ¬ e1.length < ya.length := by omega
              have HRn := Lib.hid (show R = pubR r2 ra' rb' by
                have hg0 : g1 = [] := by have := hfg.out; simpa using this.symm
                rw [hRr2.out, pubR, hEe.out, hEg.out, hg0]; simp)
              have HXn := hBo
              clear hra hrb hEe hEg hfg
              go_wp2_with fail
              go_roundw
              case rel => exact ⟨d2 ++ [⟨nm, ad, sz, sc⟩], r2, da2 ++ [ya], ra', db2 ++ [yb], rb', by rw [List.length_append]; go_num, by simp; omega, Lib.hid (by rw [hE2.out]; simp), Lib.hid (by rw [hEa2.out]; simp), Lib.hid (by rw [hEb2.out]; simp), Lib.hid (by simp [hLd2.out.1, hLd2.out.2]), HRn, HXn⟩
              case measure => simp [intOf]; omega
            | cons ua f1 =>
              cases sc with
              | true =>
                have hlte : e1.length < ya.length := by simp only [List.length_cons] at hke; omega
                have HRn := Lib.hid (show R = pubR r2 ra' rb' by rw [hRr2.out, pubR]; simp)
                have HXn := hBo
                clear hra hrb hEe hEg hfg hke
                go_wp2_with fail
                go_roundw
                case rel => exact ⟨d2 ++ [⟨nm, ad, sz, true⟩], r2, da2 ++ [ya], ra', db2 ++ [yb], rb', by rw [List.length_append]; go_num, by simp; omega, Lib.hid (by rw [hE2.out]; simp), Lib.hid (by rw [hEa2.out]; simp), Lib.hid (by rw [hEb2.out]; simp), Lib.hid (by simp [hLd2.out.1, hLd2.out.2]), HRn, HXn⟩
                case measure => simp [intOf]; omega
              | false =>
                simp only [List.length_cons] at hke
                obtain ⟨ub, g1', rfl⟩ : ∃ y r, g1 = y :: r := by
                  cases g1 with
                  | nil => have := hfg.out; simp at this
                  | cons y r => exact ⟨y, r, rfl⟩
                obtain ⟨qa, na, rfl, hqa, hua⟩ := row_at hra hEe.out
                obtain ⟨qb, nb, rfl, hqb, hub⟩ := row_at hrb hEg.out
                have hlte : e1.length < ya.length := by omega
                have hltf : e1.length < yb.length := by have := hYl.out; omega
                have HS := Lib.hid (show (wr.drew.cell? ⟨w.heap.size + 1, 1, none⟩ = some (.slice (some ⟨xa, oa, none⟩) ar.length acr) ∧ wr.drew.cell? ⟨w.heap.size + 1 + 1, 1, none⟩ = some (.slice (some ⟨xb, ob, none⟩) br.length bcr) ∧ wr.drew.cell? ⟨xa, oa + d2.length, none⟩ = some (.slice (some ⟨qa, na, none⟩) ya.length ka) ∧ wr.drew.cell? ⟨xb, ob + d2.length, none⟩ = some (.slice (some ⟨qb, nb, none⟩) yb.length kb) ∧ wr.drew.cell? ⟨qa, na + e1.length, none⟩ = some (.int .u64 ua) ∧ wr.drew.cell? ⟨qb, nb + e1.length, none⟩ = some (.int .u64 ub)) from ⟨(HP.out wr.drew hBo.out.drew).2.2.2.1, (HP.out wr.drew hBo.out.drew).2.2.2.2.2, hca, hcb, hua, hub⟩)
                have HYn := Lib.hid (HU.out _ hBo.out.drew)
                have HXe := Lib.hid hBe.out.drew
                clear hua hub hra hrb hqa hqb
                go_upto_region 15 with fail
                clear p0 p1 p2 p3 p4 p5 v3 hca hcb
                by_cases hy : ua = ub
                rotate_left
                · have hne : (ua != ub) = true := by simpa using hy
                  refine wp_region_held_drew (S := fun W => W.cell? ⟨w.heap.size + 1, 1, none⟩ = some (.slice (some ⟨xa, oa, none⟩) ar.length acr) ∧ W.cell? ⟨w.heap.size + 1 + 1, 1, none⟩ = some (.slice (some ⟨xb, ob, none⟩) br.length bcr) ∧ W.cell? ⟨xa, oa + d2.length, none⟩ = some (.slice (some ⟨qa, na, none⟩) ya.length ka) ∧ W.cell? ⟨xb, ob + d2.length, none⟩ = some (.slice (some ⟨qb, nb, none⟩) yb.length kb) ∧ W.cell? ⟨qa, na + e1.length, none⟩ = some (.int .u64 ua) ∧ W.cell? ⟨qb, nb + e1.length, none⟩ = some (.int .u64 ub)) (by kernel_rfl) ?_ (fun hHeld => ?_)
                  · exact HS.out
                  refine tq 0 ?_
                  refine tq 1 ?_
                  refine tq 2 ?_
                  refine tq 3 ?_
                  refine tq 4 ?_
                  refine tq 5 ?_
                  refine tq 6 ?_
                  refine tq 7 ?_
                  refine tq 8 ?_
                  refine tq 9 ?_
                  refine tq 10 ?_
                  refine tq 11 ?_
                  refine tq 12 ?_
                  refine tq 13 ?_
                  refine tq 14 ?_
                  refine tq 15 ?_
                  refine tk 16 (.bool true) rfl (.inl ⟨by rfl, ?_⟩) ?_
                  · (intro w hSw; (try dsimp only at hSw); go_simp)
                  try simp only [Act.put, List.setIfInBounds_toArray, List.set_cons_zero, List.set_cons_succ]
                  refine wpAnyH_done (by kernel_rfl) ?_ _
                  clear hHeld
                  have HRn := Lib.hid (show R = false by
                    have hne2 : ya ≠ yb := fun e => by rw [hEe.out, hEg.out] at e; exact hy (List.cons.inj (List.append_cancel_left e)).1
                    rw [hRr2.out, pubR, decide_eq_false hne2]; rfl)
                  clear HS hne hy
                  go_wp2_with fail
                  go_ret
                  exact ⟨ret_bool HRn.out.symm, HYn.out⟩
                have hne : (ua != ub) = false := by simp [hy]
                refine wp_region_held_drew (S := fun W => W.cell? ⟨w.heap.size + 1, 1, none⟩ = some (.slice (some ⟨xa, oa, none⟩) ar.length acr) ∧ W.cell? ⟨w.heap.size + 1 + 1, 1, none⟩ = some (.slice (some ⟨xb, ob, none⟩) br.length bcr) ∧ W.cell? ⟨xa, oa + d2.length, none⟩ = some (.slice (some ⟨qa, na, none⟩) ya.length ka) ∧ W.cell? ⟨xb, ob + d2.length, none⟩ = some (.slice (some ⟨qb, nb, none⟩) yb.length kb) ∧ W.cell? ⟨qa, na + e1.length, none⟩ = some (.int .u64 ua) ∧ W.cell? ⟨qb, nb + e1.length, none⟩ = some (.int .u64 ub)) (by kernel_rfl) ?_ (fun hHeld => ?_)
                · exact HS.out
                refine tq 0 ?_
                refine tq 1 ?_
                refine tq 2 ?_
                refine tq 3 ?_
                refine tq 4 ?_
                refine tq 5 ?_
                refine tq 6 ?_
                refine tq 7 ?_
                refine tq 8 ?_
                refine tq 9 ?_
                refine tq 10 ?_
                refine tq 11 ?_
                refine tq 12 ?_
                refine tq 13 ?_
                refine tq 14 ?_
                refine tq 15 ?_
                refine tk 16 (.bool false) rfl (.inl ⟨by rfl, ?_⟩) ?_
                · (intro w hSw; (try dsimp only at hSw); go_simp)
                try simp only [Act.put, List.setIfInBounds_toArray, List.set_cons_zero, List.set_cons_succ]
                refine wpAnyH_done (by kernel_rfl) ?_ _
                clear hHeld
                have HEg2 := Lib.hid (show yb = (e1 ++ [ua]) ++ g1' by rw [hEg.out, hy]; simp)
                clear HS hne hy
                go_wp2_with fail
                go_roundw
                case rel => exact ⟨e1 ++ [ua], f1, g1', by rw [List.length_append]; go_num, by simp; omega, Lib.hid (by have := hfg.out; simpa using this), Lib.hid (by rw [hEe.out]; simp), HEg2, HXe⟩
                case measure => simp [intOf]; omega
    | cons v r1 =>
      simp only [List.length_cons] at hk
      have hlt1 : d1.length < fn.params.length := by omega
      obtain ⟨ya, ra', rfl⟩ := cons_of hEa.out (by have := hLd.out.1; omega) HLn.out.1.1
      obtain ⟨yb, rb', rfl⟩ := cons_of hEb.out (by have := hLd.out.2; omega) HLn.out.1.2
      obtain ⟨xa, oa, rfl, hba, hca⟩ := row_at (HAa.out wr (HU.out _ hBr.out)).1 hEa.out
      obtain ⟨xb, ob, rfl, hbb, hcb⟩ := row_at (HAb.out wr (HU.out _ hBr.out)).1 hEb.out
      rw [hLd.out.1] at hca
      rw [hLd.out.2] at hcb
      obtain ⟨bp, op, rfl, hbp, hvp⟩ := row_atk (HPar.out wr (HU.out _ hBr.out)) hE.out
      obtain ⟨nm, kd, sz, sc⟩ := v
      obtain ⟨v0, v1, v2, v3⟩ := hvp
      have hlta : d1.length < aa.length := by have := HLn.out.1.1; omega
      have hltb : d1.length < ba.length := by have := HLn.out.1.2; omega
      have HS := Lib.hid (show (wr.drew.cell? ⟨w2.heap.size, 1, none⟩ = some (.slice (some ⟨bp, op, none⟩) fn.params.length cp) ∧ wr.drew.cell? ⟨bp, op + d1.length * 4 + 3, none⟩ = some (.bool sc) ∧ wr.drew.cell? ⟨w.heap.size + 1, 0, none⟩ = some (.slice (some ⟨xa, oa, none⟩) aa.length aca) ∧ wr.drew.cell? ⟨w.heap.size + 1 + 1, 0, none⟩ = some (.slice (some ⟨xb, ob, none⟩) ba.length bca) ∧ wr.drew.cell? ⟨xa, oa + d1.length, none⟩ = some (.int .u64 ya) ∧ wr.drew.cell? ⟨xb, ob + d1.length, none⟩ = some (.int .u64 yb)) from ⟨HG.out wr.drew hBs.out.drew, v3, (HP.out wr.drew hBr.out.drew).2.2.1, (HP.out wr.drew hBr.out.drew).2.2.2.2.1, hca, hcb⟩)
      have HXn := Lib.hid hBs.out.drew
      have HYn := Lib.hid (HU.out _ hBr.out.drew)
      clear hca hcb hba hbb hbp v0 v1 v2 v3
      go_upto_region 7 with fail
      clear hg
      cases sc with
      | true =>
        refine wp_region_held_drew (S := fun W => W.cell? ⟨w2.heap.size, 1, none⟩ = some (.slice (some ⟨bp, op, none⟩) fn.params.length cp) ∧ W.cell? ⟨bp, op + d1.length * 4 + 3, none⟩ = some (.bool true) ∧ W.cell? ⟨w.heap.size + 1, 0, none⟩ = some (.slice (some ⟨xa, oa, none⟩) aa.length aca) ∧ W.cell? ⟨w.heap.size + 1 + 1, 0, none⟩ = some (.slice (some ⟨xb, ob, none⟩) ba.length bca) ∧ W.cell? ⟨xa, oa + d1.length, none⟩ = some (.int .u64 ya) ∧ W.cell? ⟨xb, ob + d1.length, none⟩ = some (.int .u64 yb)) (by kernel_rfl) ?_ (fun hHeld => ?_)
        · exact HS.out
        refine tq 0 ?_
        refine tq 1 ?_
        refine tq 2 ?_
        refine tq 3 ?_
        refine tq 4 ?_
        refine tq 5 ?_
        refine tq 6 ?_
        refine tq 7 ?_
        refine sq 8 ?_
        refine sq 9 ?_
        refine sq 10 ?_
        refine sq 11 ?_
        refine sq 12 ?_
        refine sq 13 ?_
        refine sq 14 ?_
        refine sq 15 ?_
        refine sq 16 ?_
        refine sq 17 ?_
        refine sq 18 ?_
        refine tq 19 ?_
        refine wpAnyH_done (by kernel_rfl) ?_ _
        clear hHeld
        have HRn := Lib.hid (show R = (pubA r1 ra' rb' && pubR x.regs ar br) by rw [hRr.out, pubA]; simp)
        clear HS
        go_wp2_with fail
        go_roundw
        case rel => exact ⟨d1 ++ [⟨nm, kd, sz, true⟩], r1, da ++ [ya], ra', db ++ [yb], rb', by rw [List.length_append]; go_num, by simp; omega, Lib.hid (by rw [hE.out]; simp), Lib.hid (by rw [hEa.out]; simp), Lib.hid (by rw [hEb.out]; simp), Lib.hid (by simp [hLd.out.1, hLd.out.2]), HRn, HXn⟩
        case measure => simp [intOf]; omega
      | false =>
        by_cases hy : ya = yb
        rotate_left
        · have hne : (ya != yb) = true := by simpa using hy
          refine wp_region_held_drew (S := fun W => W.cell? ⟨w2.heap.size, 1, none⟩ = some (.slice (some ⟨bp, op, none⟩) fn.params.length cp) ∧ W.cell? ⟨bp, op + d1.length * 4 + 3, none⟩ = some (.bool false) ∧ W.cell? ⟨w.heap.size + 1, 0, none⟩ = some (.slice (some ⟨xa, oa, none⟩) aa.length aca) ∧ W.cell? ⟨w.heap.size + 1 + 1, 0, none⟩ = some (.slice (some ⟨xb, ob, none⟩) ba.length bca) ∧ W.cell? ⟨xa, oa + d1.length, none⟩ = some (.int .u64 ya) ∧ W.cell? ⟨xb, ob + d1.length, none⟩ = some (.int .u64 yb)) (by kernel_rfl) ?_ (fun hHeld => ?_)
          · exact HS.out
          refine tq 0 ?_
          refine tq 1 ?_
          refine tq 2 ?_
          refine tq 3 ?_
          refine tq 4 ?_
          refine tq 5 ?_
          refine tq 6 ?_
          refine tq 7 ?_
          refine tq 8 ?_
          refine tq 9 ?_
          refine tq 10 ?_
          refine tq 11 ?_
          refine tq 12 ?_
          refine tq 13 ?_
          refine tq 14 ?_
          refine tq 15 ?_
          refine tq 16 ?_
          refine tq 17 ?_
          refine tk 18 (.bool true) rfl (.inl ⟨by rfl, ?_⟩) ?_
          · (intro w hSw; (try dsimp only at hSw); go_simp)
          try simp only [Act.put, List.setIfInBounds_toArray, List.set_cons_zero, List.set_cons_succ]
          refine tq 19 ?_
          refine wpAnyH_done (by kernel_rfl) ?_ _
          clear hHeld
          have HRn := Lib.hid (show R = false by rw [hRr.out, pubA, decide_eq_false hy]; rfl)
          clear HS hne hy
          go_wp2_with fail
          go_ret
          exact ⟨ret_bool HRn.out.symm, HYn.out⟩
        have hne : (ya != yb) = false := by simp [hy]
        refine wp_region_held_drew (S := fun W => W.cell? ⟨w2.heap.size, 1, none⟩ = some (.slice (some ⟨bp, op, none⟩) fn.params.length cp) ∧ W.cell? ⟨bp, op + d1.length * 4 + 3, none⟩ = some (.bool false) ∧ W.cell? ⟨w.heap.size + 1, 0, none⟩ = some (.slice (some ⟨xa, oa, none⟩) aa.length aca) ∧ W.cell? ⟨w.heap.size + 1 + 1, 0, none⟩ = some (.slice (some ⟨xb, ob, none⟩) ba.length bca) ∧ W.cell? ⟨xa, oa + d1.length, none⟩ = some (.int .u64 ya) ∧ W.cell? ⟨xb, ob + d1.length, none⟩ = some (.int .u64 yb)) (by kernel_rfl) ?_ (fun hHeld => ?_)
        · exact HS.out
        refine tq 0 ?_
        refine tq 1 ?_
        refine tq 2 ?_
        refine tq 3 ?_
        refine tq 4 ?_
        refine tq 5 ?_
        refine tq 6 ?_
        refine tq 7 ?_
        refine tq 8 ?_
        refine tq 9 ?_
        refine tq 10 ?_
        refine tq 11 ?_
        refine tq 12 ?_
        refine tq 13 ?_
        refine tq 14 ?_
        refine tq 15 ?_
        refine tq 16 ?_
        refine tq 17 ?_
        refine tk 18 (.bool false) rfl (.inl ⟨by rfl, ?_⟩) ?_
        · (intro w hSw; (try dsimp only at hSw); go_simp)
        try simp only [Act.put, List.setIfInBounds_toArray, List.set_cons_zero, List.set_cons_succ]
        refine tq 19 ?_
        refine wpAnyH_done (by kernel_rfl) ?_ _
        clear hHeld
        have HRn := Lib.hid (show R = (pubA r1 ra' rb' && pubR x.regs ar br) by rw [hRr.out, pubA, decide_eq_true hy]; simp)
        clear HS hne hy
        go_wp2_with fail
        go_roundw
        case rel => exact ⟨d1 ++ [⟨nm, kd, sz, false⟩], r1, da ++ [ya], ra', db ++ [yb], rb', by rw [List.length_append]; go_num, by simp; omega, Lib.hid (by rw [hE.out]; simp), Lib.hid (by rw [hEa.out]; simp), Lib.hid (by rw [hEb.out]; simp), Lib.hid (by simp [hLd.out.1, hLd.out.2]), HRn, HXn⟩
        case measure => simp [intOf]; omega
end Go.Proofs.YtihmibggonffdaaGreat
