/- May's closure. -/
import Derived.Test.YtldjcnpkgbdlpaaVK
import Derived.Test.YtldjcnpkgbdlpaaK3
namespace Go.Proofs.Ytldjcnpkgbdlpaa
open Go.RowKit
def bodyR (x : Prg) (i : Nat) (f : Fnc) : Nat := f.body.chk x f (adds nz (f.body.fors 1)) i 1 []
def fnsR (x : Prg) : Nat → List Fnc → Nat
  | _, [] => 0
  | i, f :: r => seq (ask (namedB x i f) 8) (seq (ask f.varsB 9) (seq (bodyR x i f) (fnsR x (i + 1) r)))
/-- why a program may not be -/
def mayR (x : Prg) : Nat := seq (ask x.few 13) (seq (regsR x.regs) (fnsR x 0 x.fns))
theorem few_parts {x : Prg} (h : x.few = true) : x.regs.all Rgn.few = true ∧ (∀ f ∈ x.fns, f.params.length + f.vars.length ≤ 1000) ∧ x.total ≤ 65536 := by
  simp only [Prg.few, Bool.and_eq_true] at h
  obtain ⟨⟨⟨⟨_, _⟩, h3⟩, h4⟩, h5⟩ := h
  have h6 : ((cap x.total : Nat) : Int) ≤ 65536 := by
    have := (Bool.and_eq_true _ _ ▸ h5).2
    exact of_decide_eq_true this
  refine ⟨h3, fun f hf => ?_, ?_⟩
  · have := List.all_eq_true.1 h4 f hf
    simp only [Fnc.few, fewB, Bool.and_eq_true, decide_eq_true_eq] at this
    omega
  · by_cases ht : x.total ≤ 65536
    · exact ht
    · rw [show cap x.total = 65537 from if_neg ht] at h6; omega
set_option maxRecDepth 100000 in
set_option maxHeartbeats 12800000 in
theorem may1_any (x : Prg) (s : PrgP) (pb N : Nat) (w : World) (hP : PB w N x pb s.p s.q s.c s.d) (hN : N ≤ w.heap.size) (hc : x.regs.length ≤ s.c) (hd : x.fns.length ≤ s.d) :
    Calls Try.prog 28 #[.pointer (some ⟨pb, 0, none⟩)] w (Chk (mayR x) w) := by
  obtain ⟨b', o', hq, hb', ha'⟩ := Row.start hP.ok.2
  have HA' := Lib.hid (And.intro ha' hb')
  have hmf := hP.ok.2.1
  have HPB := Lib.hid (fun (W : World) (hB : Below w.heap.size w W) => show PB W N x pb s.p s.q s.c s.d from ⟨(hB.block _ (lt_blk hP.cs)).trans hP.cs, hP.ok.later (hB.mono hN) (Nat.le_refl N)⟩)
  have HC := Lib.hid (fun (W : World) (hB : Below w.heap.size w W) => show W.cell? ⟨pb, 0, none⟩ = some (.slice s.p x.regs.length s.c) ∧ W.cell? ⟨pb, 1, none⟩ = some (.slice s.q x.fns.length s.d) from ⟨cell_blk (HPB.out W hB).cs rfl, cell_blk (HPB.out W hB).cs rfl⟩)
  have HFw := Lib.hid (mustBeFew_any x s N w hP.ok hN)
  have HRg := Lib.hid (fun (W : World) (hB : Below w.heap.size w W) (hf : x.regs.all Rgn.few = true) => mustBeRegions_any x.regs s.p s.c N W (HPB.out W hB).ok.1 (Nat.le_trans hN hB.size) hf hc)
  have HNd := Lib.hid (fun (W : World) (i : Nat) (fn : Fnc) (hB : Below w.heap.size w W) (hi : x.fns[i]? = some fn) (hvs : fn.params.length + fn.vars.length ≤ 1000) => mustBeNamed_any x s i fn N W (HPB.out W hB).ok (Nat.le_trans hN hB.size) hi hd hvs)
  have HPi := Lib.hid (fun (W : World) (i : Nat) (fn : Fnc) (hB : Below w.heap.size w W) (hi : x.fns[i]? = some fn) (hT : x.total ≤ 65536) => placeIn_any x s i fn pb N W (HPB.out W hB) (Nat.le_trans hN hB.size) hi hT)
  have HSt := Lib.hid (fun (W : World) (i m : Nat) (fn : Fnc) (f : List UInt8 → Nat) (q : Option Addr) (c : Nat) (hB : Below w.heap.size w W) (hi : x.fns[i]? = some fn) (hm : Cm W m f) (hin : fn.body.In w N q) => stmts_to _ fn.body (Nat.lt_succ_self _) x s fn f ⟨pb, i, m, [], none, 0, 1⟩ q c N W ⟨(HPB.out W hB).cs, (HPB.out W hB).ok, hi, hm, ⟨Nat.zero_le _, .inl rfl⟩, Nat.le_refl _, Nat.le_trans hN hB.size⟩ (hin.later (hB.mono hN) (Nat.le_refl N)) (show (1 : Nat) ≤ 65 by decide) (Nat.zero_le _))
  have HVr := Lib.hid (fun (W : World) (fn : Fnc) (sf : FncP) (hB : Below w.heap.size w W) (hok : fn.Ok w N sf) => mustBeVars_any fn sf N W (hok.later (hB.mono hN) (Nat.le_refl N)) (Nat.le_trans hN hB.size))
  have HNo := Lib.hid (fun (w' : World) (r : Nat) (hr : mayR x = r) (h0 : r ≠ 0) (hB : Below w.heap.size w w') => show Chk (mayR x) w (Pn (r : Int)) w' from Chk.no' hr h0 hB)
  have HOK := Lib.hid (fun (w' : World) (hr : mayR x = 0) (hB : Below w.heap.size w w') => show Chk (mayR x) w (.returned (.tuple #[])) w' from .ok hr hB)
  obtain ⟨c0, c1⟩ := HC.out w (Below.refl _ _)
  have hNw := hN
  unfold Prg.v at HFw HNd
  unfold Pn at HNo
  clear hP hb' ha' hc hN
  go_enter Try.func28, Try.ntmps28
  go_wp2_with fail
  refine HFw.out.mono ?_
  intro z w1 hc
  clear c0 c1
  rcases hc with ⟨r1, hB1⟩ | ⟨r1, hB1⟩
  rotate_left
  · have HR := Lib.hid (HNo.out w1 _ (seq_no r1) r1 hB1)
    unfold Pn
    clear hB1 r1
    go_wp2_with fail
    exact ⟨rfl, HR.out⟩
  have hfew : x.few = true := by
    cases hf : x.few with
    | true => rfl
    | false => rw [hf] at r1; cases r1
  obtain ⟨hf1, hf2, hf3⟩ := few_parts hfew
  have HF2 := Lib.hid hf2
  have R1 := Lib.hid (show mayR x = seq (regsR x.regs) (fnsR x 0 x.fns) from seq_ok r1)
  have HB1 := Lib.hid hB1
  have HRg1 := Lib.hid (HRg.out w1 hB1 hf1)
  obtain ⟨c0, c1⟩ := HC.out w1 hB1
  clear r1 hB1 hfew hf1 hf2
  go_wp2_with fail
  refine HRg1.out.mono ?_
  intro z w2 hc
  clear c0 c1
  rcases hc with ⟨r1, hB2⟩ | ⟨r1, hB2⟩
  rotate_left
  · have HR := Lib.hid (HNo.out w2 _ (by rw [R1.out]; exact seq_no r1) r1 (HB1.out.trans (hB2.mono HB1.out.size)))
    unfold Pn
    clear hB2 r1
    go_wp2_with fail
    exact ⟨rfl, HR.out⟩
  have R2 := Lib.hid (show mayR x = fnsR x 0 x.fns by rw [R1.out]; exact seq_ok r1)
  have HB2 := Lib.hid (HB1.out.trans (hB2.mono HB1.out.size))
  obtain ⟨c0, c1⟩ := HC.out w2 HB2.out
  clear r1 hB2
  go_wp2_with fail
  clear c0 c1
  go_loopw [10] (fun i wr => ∃ (d r : List Fnc), i = .int .i64 d.length ∧ d.length + r.length = x.fns.length ∧ Hid (x.fns = d ++ r) ∧ Hid (Row (Fnc.At w N) 5 r b' (o' + d.length * 5)) ∧ Hid (Below w.heap.size w wr) ∧ Hid (mayR x = fnsR x d.length r)) (fun i _ => x.fns.length - (intOf i).toNat)
  case atStart => exact ⟨[], x.fns, rfl, by simp, Lib.hid rfl, Lib.hid (by simpa using HA'.out.1), HB2, R2⟩
  case round =>
    obtain ⟨d, r, rfl, hk, hds, hr, hB, hE⟩ := hrel
    obtain ⟨c0, c1⟩ := HC.out wr hB.out
    cases r with
    | nil =>
      simp only [List.length_nil] at hk
      have hge : ¬ d.length < x.fns.length := by omega
      have HR := Lib.hid (HOK.out wr (by rw [hE.out, fnsR]) hB.out)
      go_wp2_with fail
      go_end0
      exact HR.out
    | cons y r =>
      obtain ⟨hy, hr'⟩ := hr.out
      simp only [List.length_cons] at hk
      have hlt : d.length < x.fns.length := by omega
      have hlti : (d.length : Int) < (x.fns.length : Int) := by omega
      have hqs : s.q = some ⟨b', o', none⟩ := by
        rcases hq with h0 | h0
        · omega
        · exact h0
      have hxi : x.fns[d.length]? = some y := by rw [hds.out]; simp
      have hbw : b' < w.heap.size := by have := HA'.out.2; omega
      have HXi := Lib.hid hxi
      obtain ⟨⟨pp, pv, pr, pbb, cp, cv, cr, cb⟩, e0, e1, e2, e3, e4, hok⟩ := Fnc.At.all hy
      have HR := Lib.hid hr'
      have HFc := Lib.hid (fun (W : World) (hB : Below w.heap.size w W) => show W.cell? ⟨b', o' + d.length * 5, none⟩ = some (.string (str y.name)) ∧ W.cell? ⟨b', o' + d.length * 5 + 1, none⟩ = some (.slice pp y.params.length cp) ∧ W.cell? ⟨b', o' + d.length * 5 + 2, none⟩ = some (.slice pv y.vars.length cv) ∧ W.cell? ⟨b', o' + d.length * 5 + 3, none⟩ = some (.slice pr y.rets.length cr) ∧ W.cell? ⟨b', o' + d.length * 5 + 4, none⟩ = some (.slice pbb y.body.len cb) from
        ⟨(hB.cell (p := ⟨b', _, none⟩) hbw).trans e0, (hB.cell (p := ⟨b', _, none⟩) hbw).trans e1, (hB.cell (p := ⟨b', _, none⟩) hbw).trans e2, (hB.cell (p := ⟨b', _, none⟩) hbw).trans e3, (hB.cell (p := ⟨b', _, none⟩) hbw).trans e4⟩)
      have HOk := Lib.hid hok
      have HN1 := Lib.hid (HNd.out wr d.length y hB.out hxi (HF2.out y (by rw [hds.out]; simp)))
      rw [hqs] at HN1
      clear hy hr hr' e0 e1 e2 e3 e4 hok hxi hbw
      go_wp2_with fail
      refine HN1.out.mono ?_
      intro z w3 hc
      clear c0 c1
      rcases hc with ⟨r1, hB3⟩ | ⟨r1, hB3⟩
      rotate_left
      · have HR := Lib.hid (HNo.out w3 _ (by rw [hE.out, fnsR]; exact seq_no r1) r1 (hB.out.trans (hB3.mono hB.out.size)))
        unfold Pn
        clear hB3 r1
        go_wp2_with fail
        exact ⟨rfl, HR.out⟩
      have R3 := Lib.hid (show mayR x = seq (ask y.varsB 9) (seq (bodyR x d.length y) (fnsR x (d.length + 1) r)) by rw [hE.out, fnsR]; exact seq_ok r1)
      have HB3 := Lib.hid (hB.out.trans (hB3.mono hB.out.size))
      have HV1 := Lib.hid (HVr.out w3 y ⟨pp, pv, pr, pbb, cp, cv, cr, cb⟩ HB3.out HOk.out)
      unfold Fnc.v at HV1
      obtain ⟨c0, c1⟩ := HC.out w3 HB3.out
      rw [hqs] at c1
      obtain ⟨g0, g1, g2, g3, g4⟩ := HFc.out w3 HB3.out
      clear r1 hB3 hE
      go_wp2_with fail
      refine HV1.out.mono ?_
      intro z w4 hc
      clear c0 c1 g0 g1 g2 g3 g4
      rcases hc with ⟨r1, hB4⟩ | ⟨r1, hB4⟩
      rotate_left
      · have HR := Lib.hid (HNo.out w4 _ (by rw [R3.out]; exact seq_no r1) r1 (HB3.out.trans (hB4.mono HB3.out.size)))
        unfold Pn
        clear hB4 r1
        go_wp2_with fail
        exact ⟨rfl, HR.out⟩
      have R4 := Lib.hid (show mayR x = seq (bodyR x d.length y) (fnsR x (d.length + 1) r) by rw [R3.out]; exact seq_ok r1)
      have HB4 := Lib.hid (HB3.out.trans (hB4.mono HB3.out.size))
      have hX : Below w.heap.size w w4.drew := HB4.out.drew
      clear r1 hB4
      go_wp2_with fail
      refine wp_region_held_drew (S := fun W => W.cell? ⟨pb, 1, none⟩ = some (.slice (some ⟨b', o', none⟩) x.fns.length s.d) ∧ W.cell? ⟨b', o' + d.length * 5 + 4, none⟩ = some (.slice pbb y.body.len cb)) (by kernel_rfl) ?_ (fun hHeld => ?_)
      · exact ⟨by rw [← hqs]; exact (HC.out _ hX).2, (HFc.out _ hX).2.2.2.2⟩
      refine tk 0 ?_ rfl (.inl ⟨by rfl, ?_⟩) ?_
      rotate_left
      · (intro w hSw; (try dsimp only at hSw); go_simp; try with_reducible rfl)
      try simp only [Act.put, List.setIfInBounds_toArray, List.set_cons_zero, List.set_cons_succ]
      refine tk 2 ?_ rfl (.inl ⟨by rfl, ?_⟩) ?_
      rotate_left
      · (intro w hSw; (try dsimp only at hSw); go_simp; try with_reducible rfl)
      try simp only [Act.put, List.setIfInBounds_toArray, List.set_cons_zero, List.set_cons_succ]
      refine tk 3 ?_ rfl (.inl ⟨by rfl, ?_⟩) ?_
      rotate_left
      · (intro w hSw; (try dsimp only at hSw); go_simp; try with_reducible rfl)
      try simp only [Act.put, List.setIfInBounds_toArray, List.set_cons_zero, List.set_cons_succ]
      refine tk 4 ?_ rfl (.inl ⟨by rfl, ?_⟩) ?_
      rotate_left
      · (intro w hSw; (try dsimp only at hSw); go_simp; try with_reducible rfl)
      try simp only [Act.put, List.setIfInBounds_toArray, List.set_cons_zero, List.set_cons_succ]
      refine tk 5 ?_ rfl (.inl ⟨by rfl, ?_⟩) ?_
      rotate_left
      · (intro w hSw; (try dsimp only at hSw); go_simp; try with_reducible rfl)
      try simp only [Act.put, List.setIfInBounds_toArray, List.set_cons_zero, List.set_cons_succ]
      refine tk 6 ?_ rfl (.inl ⟨by rfl, ?_⟩) ?_
      rotate_left
      · (intro w hSw; (try dsimp only at hSw); go_simp; try with_reducible rfl)
      try simp only [Act.put, List.setIfInBounds_toArray, List.set_cons_zero, List.set_cons_succ]
      refine tk 7 ?_ rfl (.inl ⟨by rfl, ?_⟩) ?_
      rotate_left
      · (intro w hSw; (try dsimp only at hSw); go_simp; try with_reducible rfl)
      try simp only [Act.put, List.setIfInBounds_toArray, List.set_cons_zero, List.set_cons_succ]
      refine wpAnyH_ready (rs := [1]) (by kernel_rfl) (by simp) ?_
      refine rdy rfl (fun K hK => ?_) AllReadyH.nil
      go_simp
      refine (HPi.out _ d.length y hX HXi.out hf3).mono ?_
      rintro z w5 ⟨mm, rfl, hCm, hB5⟩
      replace hX := hX.trans (hB5.mono hX.size)
      unfold Plc.v
      refine hK.out _ _ ?_ (fun hHeld => ?_)
      · exact ⟨by rw [← hqs]; exact (HC.out _ hX).2, (HFc.out _ hX).2.2.2.2⟩
      clear hK K
      try simp only
      have HS1 := Lib.hid (HSt.out _ d.length mm y _ pbb cb hX HXi.out hCm HOk.out.2.2.2)
      unfold Plc.v at HS1
      refine wpAnyH_ready (rs := [8]) (by kernel_rfl) (by simp) ?_
      refine rdy rfl (fun K hK => ?_) AllReadyH.nil
      go_simp
      refine HS1.out.mono ?_
      intro z w6 hc
      rcases hc with ⟨r1, hB6⟩ | ⟨r1, hB6⟩
      rotate_left
      · have HR := Lib.hid (HNo.out w6 _ (by rw [R4.out]; exact seq_no r1) r1 (hX.trans (hB6.mono hX.size)))
        unfold Pn
        exact ⟨rfl, HR.out⟩
      replace hX := hX.trans (hB6.mono hX.size)
      have HE2 := Lib.hid (show mayR x = fnsR x (d.length + 1) r by rw [R4.out]; exact seq_ok r1)
      clear r1 hB6
      refine hK.out _ _ ?_ (fun hHeld => ?_)
      · exact ⟨by rw [← hqs]; exact (HC.out _ hX).2, (HFc.out _ hX).2.2.2.2⟩
      clear hK K
      try simp only [Act.put, List.setIfInBounds_toArray, List.set_cons_zero, List.set_cons_succ]
      refine wpAnyH_done (by kernel_rfl) ?_ _
      have HX := Lib.hid hX
      clear hX
      go_wp2_with fail
      go_roundw
      case rel => exact ⟨d ++ [y], by rw [List.length_append]; go_num, r, by simp; omega, Lib.hid (by rw [hds.out]; simp), Lib.hid (by rw [List.length_append, List.length_singleton, show o' + (d.length + 1) * 5 = o' + d.length * 5 + 5 by omega]; exact HR.out), Lib.hid (by rw [List.length_append, List.length_singleton]; exact HE2.out)⟩
      case measure => simp [intOf]; omega
end Go.Proofs.Ytldjcnpkgbdlpaa
