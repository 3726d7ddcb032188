/- What is asked of the whole program's names. -/
import Derived.Test.YtnghehcjklkoeaaI1
import Derived.Test.YtnghehcjklkoeaaF1
namespace Go.Proofs.Ytnghehcjklkoeaa
open Go.RowKit

def namesB (x : Prg) : Bool := newB nz (rnm x.regs ++ fnm x.fns) && x.fns.all (ownN x.regs)
theorem ask8 {b : Bool} (h : ask b 8 ≠ 0) : b = false := by cases b with | false => rfl | true => exact absurd rfl h
theorem ask8' {b : Bool} (h : ask b 8 = 0) : b = true := by cases b with | false => cases h | true => rfl
set_option maxRecDepth 100000 in
set_option maxHeartbeats 12800000 in
theorem mustBeNamed_any (x : Prg) (s : PrgP) (N : Nat) (w : World) (h : x.Ok w N s.p s.q) (hN : N ≤ w.heap.size) (hvs : ∀ f ∈ x.fns, f.params.length + f.vars.length ≤ 1000) :
    Calls Try.prog 34 #[x.v s] w (Chk (ask (namesB x) 8) w) := by
  obtain ⟨p, q, c, d⟩ := s
  obtain ⟨W0, hW0, k0, hB0, hz0⟩ := one_alloc w (.cells #[.slice p x.regs.length c, .slice q x.fns.length d] 25)
  obtain ⟨b, o, hp, hb, ha⟩ := Row.start h.1
  obtain ⟨b', o', hq, hb', ha'⟩ := Row.start h.2
  have hm := h.1.1
  have hm' := h.2.1
  have HA := Lib.hid (And.intro ha hb)
  have HA' := Lib.hid (And.intro ha' hb')
  have HOwn := Lib.hid (fun (W : World) (f : Fnc) (sf : FncP) (hB : Below w.heap.size w W) (hf : f ∈ x.fns) (hok : f.Ok w N sf) => mustNameOwn_any x.regs f sf p c N W (hok.later (hB.mono hN) (Nat.le_refl N)) ((h.later (hB.mono hN) (Nat.le_refl N)).1) (Nat.le_trans hN hB.size) (hvs f hf))
  have HB0 := Lib.hid hB0
  have HZ0 := Lib.hid hz0
  have HW0 := Lib.hid hW0
  have HK := Lib.hid k0
  have HNm := Lib.hid names_any
  have HNo := Lib.hid (fun (w' : World) (hf : namesB x = false) (hB : Below w.heap.size w w') => show Chk (ask (namesB x) 8) w (Pn 8) w' from Chk.no' (e := 8) (by rw [hf]; rfl) (by decide) hB)
  have HNo2 := Lib.hid (fun (w' : World) (r : Nat) (hr : ask (namesB x) 8 = r) (h0 : r ≠ 0) (hB : Below w.heap.size w w') => show Chk (ask (namesB x) 8) w (Pn (r : Int)) w' from Chk.no' hr h0 hB)
  unfold Pn at HNo HNo2
  unfold Prg.v
  clear hW0 k0 hB0 h hb hb' ha ha' hz0 hvs
  go_enter Try.func34, Try.ntmps34
  go_wp2_with fail
  rw [HW0.out]
  refine (HNm.out _).mono ?_
  rintro z W1 ⟨g1, b1, rfl, m1, l1, l1', hB1⟩
  have HM1 := Lib.hid (And.intro m1 hB1)
  have HG := Lib.hid l1'
  have HU := Lib.hid (fun (W : World) (hB : Below W0.heap.size W0 W) => show Below w.heap.size w W from HB0.out.trans (hB.mono (by have := HZ0.out; omega)))
  have HV := Lib.hid (fun (W W' : World) (k : Nat) (hB : Below W0.heap.size W0 W) (hb : But k W W') (hk : W0.heap.size ≤ k) => show Below W0.heap.size W0 W' from But.below hB hb hk hB.size)
  have HC := Lib.hid (fun (W : World) (hB : Below W0.heap.size W0 W) => show W.cell? ⟨w.heap.size, 0, none⟩ = some (.slice p x.regs.length c) ∧ W.cell? ⟨w.heap.size, 1, none⟩ = some (.slice q x.fns.length d) from ⟨cell_blk ((hB.block _ (lt_blk HK.out)).trans HK.out) rfl, cell_blk ((hB.block _ (lt_blk HK.out)).trans HK.out) rfl⟩)
  clear m1 l1 l1' hB1 HNm
  unfold nmFn
  obtain ⟨c0, c1⟩ := HC.out _ HM1.out.2
  go_wp2_with fail
  clear c0 c1
  go_loopw [11] (fun i wr => ∃ (ds r : List Rgn), i = .int .i64 ds.length ∧ ds.length + r.length = x.regs.length ∧ Hid (x.regs = ds ++ r) ∧ Hid (Row (Rgn.At w) 4 r b (o + ds.length * 4)) ∧ Hid (Nm wr g1 b1 (adds nz (rnm ds)) ∧ Below W0.heap.size W0 wr) ∧ Hid (newB nz (rnm ds) = true)) (fun i _ => x.regs.length - (intOf i).toNat)
  case atStart => exact ⟨[], x.regs, rfl, by simp, Lib.hid rfl, Lib.hid (by simpa using HA.out.1), HM1, Lib.hid rfl⟩
  case round =>
    obtain ⟨ds, r, rfl, hk, hds, hr, hM, hE⟩ := hrel
    cases r with
    | cons y r =>
      obtain ⟨hy, hr'⟩ := hr.out
      simp only [List.length_cons] at hk
      have hlt : ds.length < x.regs.length := by omega
      rcases hp with h0 | rfl
      · omega
      obtain ⟨d0, d1, d2, d3⟩ := Rgn.At.of hy (HU.out _ hM.out.2) (by have := HA.out.2; omega)
      have HR := Lib.hid hr'
      obtain ⟨Wa, hWa, ka, hBa, hza⟩ := one_alloc wr (.cells #[.string (str y.name), .int .i64 y.addr, .int .i64 y.size, .bool y.secret] 58)
      have HWa := Lib.hid hWa
      have HMa := Lib.hid (And.intro (hM.out.1.later hBa) (hM.out.2.trans (hBa.mono hM.out.2.size)))
      have a0 : Wa.cell? ⟨wr.heap.size, 0, none⟩ = some (.string (str y.name)) := cell_blk ka rfl
      clear hy hr hr' hWa ka hBa hza
      go_upto_region 5 with fail
      rw [HWa.out]
      clear d0 d1 d2 d3 HWa
      cases hn : (nameB y.name && decide (adds nz (rnm ds) y.name = 0)) with
      | false =>
        have HC1 := Lib.hid (name1_no y.name g1 b1 _ _ HMa.out.1 hn)
        have HX := Lib.hid (HNo.out Wa (by unfold namesB; rw [hds.out, show rnm (ds ++ y :: r) = rnm ds ++ y.name :: rnm r by simp [rnm], List.append_assoc, List.cons_append, newB_bad hn]; simp) (HU.out _ HMa.out.2))
        clear hn
        go_wp2_with fail
        refine HC1.out.mono ?_
        rintro z w1 ⟨rfl, rfl⟩
        unfold Pn
        go_wp2_with fail
        exact ⟨rfl, HX.out⟩
      | true =>
        have HC1 := Lib.hid (name1_yes y.name g1 b1 _ _ HMa.out.1 hn)
        have HE := Lib.hid (show newB nz (rnm (ds ++ [y])) = true by rw [show rnm (ds ++ [y]) = rnm ds ++ [y.name] by simp [rnm]]; exact newB_snoc hE.out hn)
        have HEq := Lib.hid (show adds nz (rnm (ds ++ [y])) = add (adds nz (rnm ds)) y.name by rw [show rnm (ds ++ [y]) = rnm ds ++ [y.name] by simp [rnm], adds_app])
        clear hn
        go_wp2_with fail
        refine HC1.out.mono ?_
        rintro z w1 ⟨rfl, hM1, hb1⟩
        have HM1 := Lib.hid (And.intro hM1 (HV.out _ _ _ HMa.out.2 hb1 HG.out))
        clear hM1 hb1 a0
        go_wp2_with fail
        go_roundw
        case rel => exact ⟨ds ++ [y], r, by rw [List.length_append]; go_num, by simp; omega, Lib.hid (by rw [hds.out]; simp), Lib.hid (by rw [List.length_append, List.length_singleton, show o + (ds.length + 1) * 4 = o + ds.length * 4 + 4 by omega]; exact HR.out), Lib.hid (by rw [HEq.out]; exact HM1.out), HE⟩
        case measure => simp [intOf]; omega
    | nil =>
      simp only [List.length_nil] at hk
      have hge : ¬ ds.length < x.regs.length := by omega
      have hdr : x.regs = ds := by rw [hds.out, List.append_nil]
      have HR1 := Lib.hid (show newB nz (rnm x.regs) = true by rw [hdr]; exact hE.out)
      have HM := Lib.hid (show Nm wr g1 b1 (adds nz (rnm x.regs)) ∧ Below W0.heap.size W0 wr by rw [hdr]; exact hM.out)
      obtain ⟨c0, c1⟩ := HC.out _ HM.out.2
      clear hdr hE hM hr hds
      go_wp2_with fail
      clear c0 c1
      obtain ⟨wq, rfl⟩ : ∃ wq : World, wq = wr := ⟨_, rfl⟩
      go_loopw [23] (fun i' wr => ∃ (ds r : List Fnc), i' = .int .i64 ds.length ∧ ds.length + r.length = x.fns.length ∧ Hid (x.fns = ds ++ r) ∧ Hid (Row (Fnc.At w N) 5 r b' (o' + ds.length * 5)) ∧ Hid (Nm wr g1 b1 (adds nz (rnm x.regs ++ fnm ds)) ∧ Below W0.heap.size W0 wr) ∧ Hid (newB nz (rnm x.regs ++ fnm ds) = true ∧ ds.all (ownN x.regs) = true)) (fun i' _ => x.fns.length - (intOf i').toNat)
      case atStart => exact ⟨[], x.fns, rfl, by simp, Lib.hid rfl, Lib.hid (by simpa using HA'.out.1), Lib.hid (by simpa [fnm] using HM.out), Lib.hid (by simpa [fnm] using HR1.out)⟩
      case round =>
        obtain ⟨ds, r, rfl, hk, hds, hr, hM, hE⟩ := hrel
        cases r with
        | nil =>
          simp only [List.length_nil] at hk
          have hge : ¬ ds.length < x.fns.length := by omega
          have HOK := Lib.hid (show Chk (ask (namesB x) 8) w (.returned (.tuple #[])) wr from .ok (by
            have h1 := hE.out
            rw [← List.append_nil ds, ← hds.out] at h1
            unfold namesB
            rw [h1.1, h1.2]; rfl) (HU.out _ hM.out.2))
          go_wp2_with fail
          go_end0
          exact HOK.out
        | cons y r =>
          obtain ⟨hy, hr'⟩ := hr.out
          simp only [List.length_cons] at hk
          have hlt : ds.length < x.fns.length := by omega
          rcases hq with h0 | rfl
          · omega
          have hbw : b' < w.heap.size := by have := HA'.out.2; omega
          obtain ⟨⟨pp, pv, pr, pb, cp, cv, cr, cb⟩, e0, e1, e2, e3, e4, hok⟩ := Fnc.At.all hy
          have hu := HU.out _ hM.out.2
          have d0 := (hu.cell (p := ⟨b', o' + ds.length * 5, none⟩) hbw).trans e0
          have d1 := (hu.cell (p := ⟨b', o' + ds.length * 5 + 1, none⟩) hbw).trans e1
          have d2 := (hu.cell (p := ⟨b', o' + ds.length * 5 + 2, none⟩) hbw).trans e2
          have d3 := (hu.cell (p := ⟨b', o' + ds.length * 5 + 3, none⟩) hbw).trans e3
          have d4 := (hu.cell (p := ⟨b', o' + ds.length * 5 + 4, none⟩) hbw).trans e4
          have HR := Lib.hid hr'
          have HF := Lib.hid (fun (W : World) (hB : Below W0.heap.size W0 W) => HOwn.out W y ⟨pp, pv, pr, pb, cp, cv, cr, cb⟩ (HU.out W hB) (by rw [hds.out]; simp) hok)
          unfold Fnc.v at HF
          obtain ⟨Wa, hWa, ka, hBa, hza⟩ := one_alloc wr (.cells #[.string (str y.name), .slice pp y.params.length cp, .slice pv y.vars.length cv, .slice pr y.rets.length cr, .slice pb y.body.len cb] 55)
          have HWa := Lib.hid hWa
          have HKa := Lib.hid ka
          have HMa := Lib.hid (And.intro (hM.out.1.later hBa) (hM.out.2.trans (hBa.mono hM.out.2.size)))
          have HNE := Lib.hid (show wr.heap.size < Wa.heap.size ∧ wr.heap.size ≠ b1 from ⟨by omega, by have := hM.out.1.2.1.lt; omega⟩)
          have a0 : Wa.cell? ⟨wr.heap.size, 0, none⟩ = some (.string (str y.name)) := cell_blk ka rfl
          clear hy hr hr' hWa ka hBa hza hu e0 e1 e2 e3 e4 hok hbw
          go_upto_region 10 with fail
          rw [HWa.out]
          clear d0 d1 d2 d3 d4 HWa
          cases hn : (nameB y.name && decide (adds nz (rnm x.regs ++ fnm ds) y.name = 0)) with
          | false =>
            have HC1 := Lib.hid (name1_no y.name g1 b1 _ _ HMa.out.1 hn)
            have HX := Lib.hid (HNo.out Wa (by unfold namesB; rw [hds.out, show rnm x.regs ++ fnm (ds ++ y :: r) = (rnm x.regs ++ fnm ds) ++ y.name :: fnm r by simp [fnm], newB_bad hn]; rfl) (HU.out _ HMa.out.2))
            clear hn
            go_wp2_with fail
            refine HC1.out.mono ?_
            rintro z w1 ⟨rfl, rfl⟩
            unfold Pn
            go_wp2_with fail
            exact ⟨rfl, HX.out⟩
          | true =>
            have HC1 := Lib.hid (name1_yes y.name g1 b1 _ _ HMa.out.1 hn)
            have HE := Lib.hid (show newB nz (rnm x.regs ++ fnm (ds ++ [y])) = true by rw [show rnm x.regs ++ fnm (ds ++ [y]) = (rnm x.regs ++ fnm ds) ++ [y.name] by simp [fnm]]; exact newB_snoc hE.out.1 hn)
            have HEq := Lib.hid (show adds nz (rnm x.regs ++ fnm (ds ++ [y])) = add (adds nz (rnm x.regs ++ fnm ds)) y.name by rw [show rnm x.regs ++ fnm (ds ++ [y]) = (rnm x.regs ++ fnm ds) ++ [y.name] by simp [fnm], adds_app])
            clear hn
            go_wp2_with fail
            refine HC1.out.mono ?_
            rintro z w1 ⟨rfl, hM1, hb1⟩
            have HM1 := Lib.hid (And.intro hM1 (HV.out _ _ _ HMa.out.2 hb1 HG.out))
            have k1 := (hb1.block _ HNE.out.1 HNE.out.2).trans HKa.out
            have a0 : w1.cell? ⟨wr.heap.size, 0, none⟩ = some (.string (str y.name)) := cell_blk k1 rfl
            have a1 : w1.cell? ⟨wr.heap.size, 1, none⟩ = some (.slice pp y.params.length cp) := cell_blk k1 rfl
            have a2 : w1.cell? ⟨wr.heap.size, 2, none⟩ = some (.slice pv y.vars.length cv) := cell_blk k1 rfl
            have a3 : w1.cell? ⟨wr.heap.size, 3, none⟩ = some (.slice pr y.rets.length cr) := cell_blk k1 rfl
            have a4 : w1.cell? ⟨wr.heap.size, 4, none⟩ = some (.slice pb y.body.len cb) := cell_blk k1 rfl
            obtain ⟨c0, c1⟩ := HC.out _ HM1.out.2
            have HF1 := Lib.hid (HF.out _ HM1.out.2)
            clear hM1 hb1 k1
            go_wp2_with fail
            refine HF1.out.mono ?_
            intro z w2 hc
            clear a0 a1 a2 a3 a4 c0 c1
            rcases hc with ⟨r1, hB2⟩ | ⟨r1, hB2⟩
            rotate_left
            · have hf := ask8 r1
              have HX := Lib.hid (HNo2.out w2 _ (show ask (namesB x) 8 = ask (ownN x.regs y) 8 by rw [hf]; unfold namesB; rw [show x.fns.all (ownN x.regs) = false by rw [hds.out, List.all_append, List.all_cons, hf, Bool.false_and, Bool.and_false], Bool.and_false]) r1 (HU.out _ (HM1.out.2.trans (hB2.mono HM1.out.2.size))))
              unfold Pn
              clear hB2 r1 hf
              go_wp2_with fail
              exact ⟨rfl, HX.out⟩
            have hf := ask8' r1
            have HM2 := Lib.hid (And.intro (HM1.out.1.later hB2) (HM1.out.2.trans (hB2.mono HM1.out.2.size)))
            have HE2 := Lib.hid (show (ds ++ [y]).all (ownN x.regs) = true by rw [List.all_append, hE.out.2, List.all_cons, hf]; rfl)
            clear hB2 r1 hf
            go_wp2_with fail
            go_roundw
            case rel => exact ⟨ds ++ [y], r, by rw [List.length_append]; go_num, by simp; omega, Lib.hid (by rw [hds.out]; simp), Lib.hid (by rw [List.length_append, List.length_singleton, show o' + (ds.length + 1) * 5 = o' + ds.length * 5 + 5 by omega]; exact HR.out), Lib.hid (by rw [HEq.out]; exact HM2.out), Lib.hid ⟨HE.out, HE2.out⟩⟩
            case measure => simp [intOf]; omega
end Go.Proofs.Ytnghehcjklkoeaa
