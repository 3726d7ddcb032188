/- K4, K5, L1, L2 as one. -/
import Derived.Test.YtnghehcjklkoeaaF1
import Derived.Test.YtnghehcjklkoeaaK3
import Derived.Test.YtnghehcjklkoeaaI3
/- May's closure. -/
namespace Go.Proofs.Ytnghehcjklkoeaa
open Go.RowKit
def bodyR (x : Prg) (i : Nat) (f : Fnc) : Nat := f.body.chk x f (adds nz (f.body.fors 1)) i 1 []
def bodiesR (x : Prg) : Nat → List Fnc → Nat
  | _, [] => 0
  | i, f :: r => seq (bodyR x i f) (bodiesR x (i + 1) r)
/-- why a program may not be -/
def mayR (x : Prg) : Nat := seq (ask x.few 13) (seq (ask (namesB x) 8) (seq (ask (rgsAt [] x.regs) 14) (seq (ask (x.fns.all Fnc.varsB) 9) (bodiesR x 0 x.fns))))
theorem ask9 {b : Bool} (h : ask b 9 ≠ 0) : b = false := by cases b with | false => rfl | true => exact absurd rfl h
theorem ask9' {b : Bool} (h : ask b 9 = 0) : b = true := by cases b with | false => cases h | true => rfl

theorem few_parts {x : Prg} (h : x.few = true) : x.regs.all Rgn.few = true ∧ (∀ f ∈ x.fns, f.params.length + f.vars.length ≤ 1000) ∧ x.total ≤ 65536 := by
  simp only [Prg.few, Bool.and_eq_true] at h
  obtain ⟨⟨⟨⟨_, _⟩, h3⟩, h4⟩, h5⟩ := h
  have h6 : ((cap x.total : Nat) : Int) ≤ 65536 := by
    have := (Bool.and_eq_true _ _ ▸ h5).2
    exact of_decide_eq_true this
  refine ⟨h3, fun f hf => ?_, ?_⟩
  · have := List.all_eq_true.1 h4 f hf
    simp only [Fnc.few, fewB, Bool.and_eq_true, decide_eq_true_eq] at this
    omega
  · by_cases ht : x.total ≤ 65536
    · exact ht
    · rw [show cap x.total = 65537 from if_neg ht] at h6; omega

set_option maxRecDepth 100000 in
set_option maxHeartbeats 12800000 in
theorem may1_any (x : Prg) (s : PrgP) (pb N : Nat) (w : World) (hP : PB w N x pb s.p s.q s.c s.d) (hN : N ≤ w.heap.size) (hc : x.regs.length ≤ s.c) (hd : x.fns.length ≤ s.d) :
    Calls Try.prog 32 #[.pointer (some ⟨pb, 0, none⟩)] w (Chk (mayR x) w) := by
  obtain ⟨sp, sq, sc, sd⟩ := s
  simp only at hc hd
  obtain ⟨b', o', hq, hb', ha'⟩ := Row.start hP.ok.2
  have HA' := Lib.hid (And.intro ha' hb')
  have hmf := hP.ok.2.1
  have HPB := Lib.hid (fun (W : World) (hB : Below w.heap.size w W) => show PB W N x pb sp sq sc sd from ⟨(hB.block _ (lt_blk hP.cs)).trans hP.cs, hP.ok.later (hB.mono hN) (Nat.le_refl N)⟩)
  have HC := Lib.hid (fun (W : World) (hB : Below w.heap.size w W) => show W.cell? ⟨pb, 0, none⟩ = some (.slice sp x.regs.length sc) ∧ W.cell? ⟨pb, 1, none⟩ = some (.slice sq x.fns.length sd) from ⟨cell_blk (HPB.out W hB).cs rfl, cell_blk (HPB.out W hB).cs rfl⟩)
  have HFw := Lib.hid (mustBeFew_any x ⟨sp, sq, sc, sd⟩ N w hP.ok hN)
  have HRg := Lib.hid (fun (W : World) (hB : Below w.heap.size w W) (hf : x.regs.all Rgn.few = true) => mustLie_any x.regs sp sc N W (HPB.out W hB).ok.1 (Nat.le_trans hN hB.size) hf hc)
  have HNd := Lib.hid (fun (W : World) (hB : Below w.heap.size w W) (hvs : ∀ f ∈ x.fns, f.params.length + f.vars.length ≤ 1000) => mustBeNamed_any x ⟨sp, sq, sc, sd⟩ N W (HPB.out W hB).ok (Nat.le_trans hN hB.size) hvs)
  have HPi := Lib.hid (fun (W : World) (i : Nat) (fn : Fnc) (hB : Below w.heap.size w W) (hi : x.fns[i]? = some fn) (hT : x.total ≤ 65536) => placeIn_any x ⟨sp, sq, sc, sd⟩ i fn pb N W (HPB.out W hB) (Nat.le_trans hN hB.size) hi hT)
  have HSt := Lib.hid (fun (W : World) (i m : Nat) (fn : Fnc) (f : List UInt8 → Nat) (q : Option Addr) (c : Nat) (hB : Below w.heap.size w W) (hi : x.fns[i]? = some fn) (hm : Cm W m f) (hin : fn.body.In w N q) => stmts_to _ fn.body (Nat.lt_succ_self _) x ⟨sp, sq, sc, sd⟩ fn f ⟨pb, i, m, [], none, 0, 1⟩ q c N W ⟨(HPB.out W hB).cs, (HPB.out W hB).ok, hi, hm, ⟨Nat.zero_le _, .inl rfl⟩, Nat.le_refl _, Nat.le_trans hN hB.size⟩ (hin.later (hB.mono hN) (Nat.le_refl N)) (show (1 : Nat) ≤ 65 by decide) (Nat.zero_le _))
  have HVr := Lib.hid (fun (W : World) (fn : Fnc) (sf : FncP) (hB : Below w.heap.size w W) (hok : fn.Ok w N sf) => mustBeVars_any fn sf N W (hok.later (hB.mono hN) (Nat.le_refl N)) (Nat.le_trans hN hB.size))
  have HNo := Lib.hid (fun (w' : World) (r : Nat) (hr : mayR x = r) (h0 : r ≠ 0) (hB : Below w.heap.size w w') => show Chk (mayR x) w (Pn (r : Int)) w' from Chk.no' hr h0 hB)
  have HOK := Lib.hid (fun (w' : World) (hr : mayR x = 0) (hB : Below w.heap.size w w') => show Chk (mayR x) w (.returned (.tuple #[])) w' from .ok hr hB)
  obtain ⟨c0, c1⟩ := HC.out w (Below.refl _ _)
  have hNw := hN
  unfold Prg.v at HFw HNd
  unfold Pn at HNo
  clear hP hb' ha' hc hN
  go_enter Try.func32, Try.ntmps32
  go_wp2_with fail
  refine HFw.out.mono ?_
  intro z w1 hc
  clear c0 c1
  rcases hc with ⟨r1, hB1⟩ | ⟨r1, hB1⟩
  rotate_left
  · have HR := Lib.hid (HNo.out w1 _ (seq_no r1) r1 hB1)
    unfold Pn
    clear hB1 r1
    go_wp2_with fail
    exact ⟨rfl, HR.out⟩
  have hfew : x.few = true := by
    cases hf : x.few with
    | true => rfl
    | false => rw [hf] at r1; cases r1
  obtain ⟨hf1, hf2, hf3⟩ := few_parts hfew
  have h1f : 1 ≤ x.fns.length := by simp only [Prg.few, fewB, Bool.and_eq_true, decide_eq_true_eq] at hfew; omega
  have hqs : sq = some ⟨b', o', none⟩ := by
    rcases hq with h0 | h0
    · omega
    · exact h0
  subst hqs
  clear hq h1f
  have HNd1 := Lib.hid (HNd.out w1 hB1 hf2)
  have HF1 := Lib.hid hf1
  have R1 := Lib.hid (show mayR x = seq (ask (namesB x) 8) (seq (ask (rgsAt [] x.regs) 14) (seq (ask (x.fns.all Fnc.varsB) 9) (bodiesR x 0 x.fns))) from seq_ok r1)
  have HB1 := Lib.hid hB1
  obtain ⟨c0, c1⟩ := HC.out w1 hB1
  clear r1 hB1 hfew hf1 hf2
  go_wp2_with fail
  refine HNd1.out.mono ?_
  intro z w2 hc
  clear c0 c1
  rcases hc with ⟨r1, hB2⟩ | ⟨r1, hB2⟩
  rotate_left
  · have HR := Lib.hid (HNo.out w2 _ (by rw [R1.out]; exact seq_no r1) r1 (HB1.out.trans (hB2.mono HB1.out.size)))
    unfold Pn
    clear hB2 r1
    go_wp2_with fail
    exact ⟨rfl, HR.out⟩
  have R2 := Lib.hid (show mayR x = seq (ask (rgsAt [] x.regs) 14) (seq (ask (x.fns.all Fnc.varsB) 9) (bodiesR x 0 x.fns)) by rw [R1.out]; exact seq_ok r1)
  have HB2 := Lib.hid (HB1.out.trans (hB2.mono HB1.out.size))
  have HRg1 := Lib.hid (HRg.out w2 HB2.out HF1.out)
  obtain ⟨c0, c1⟩ := HC.out w2 HB2.out
  clear r1 hB2
  go_wp2_with fail
  refine HRg1.out.mono ?_
  intro z w3 hc
  clear c0 c1
  rcases hc with ⟨r1, hB3⟩ | ⟨r1, hB3⟩
  rotate_left
  · have HR := Lib.hid (HNo.out w3 _ (by rw [R2.out]; exact seq_no r1) r1 (HB2.out.trans (hB3.mono HB2.out.size)))
    unfold Pn
    clear hB3 r1
    go_wp2_with fail
    exact ⟨rfl, HR.out⟩
  have R3 := Lib.hid (show mayR x = seq (ask (x.fns.all Fnc.varsB) 9) (bodiesR x 0 x.fns) by rw [R2.out]; exact seq_ok r1)
  have HB3 := Lib.hid (HB2.out.trans (hB3.mono HB2.out.size))
  obtain ⟨c0, c1⟩ := HC.out w3 HB3.out
  clear r1 hB3
  go_wp2_with fail
  clear c0 c1
  go_loopw [14] (fun i wr => ∃ (d r : List Fnc), i = .int .i64 d.length ∧ d.length + r.length = x.fns.length ∧ Hid (x.fns = d ++ r) ∧ Hid (Row (Fnc.At w N) 5 r b' (o' + d.length * 5)) ∧ Hid (Below w.heap.size w wr) ∧ Hid (d.all Fnc.varsB = true)) (fun i _ => x.fns.length - (intOf i).toNat)
  case atStart => exact ⟨[], x.fns, rfl, by simp, Lib.hid rfl, Lib.hid (by simpa using HA'.out.1), HB3, Lib.hid rfl⟩
  case round =>
    obtain ⟨d, r, rfl, hk, hds, hr, hB, hE⟩ := hrel
    cases r with
    | cons y r =>
      obtain ⟨hy, hr'⟩ := hr.out
      simp only [List.length_cons] at hk
      have hlt : d.length < x.fns.length := by omega
      obtain ⟨c0, c1⟩ := HC.out wr hB.out
      have hbw : b' < w.heap.size := by have := HA'.out.2; omega
      obtain ⟨⟨pp, pv, pr, pbb, cp, cv, cr, cb⟩, e0, e1, e2, e3, e4, hok⟩ := Fnc.At.all hy
      have HR := Lib.hid hr'
      have d0 := (hB.out.cell (p := ⟨b', o' + d.length * 5, none⟩) hbw).trans e0
      have d1 := (hB.out.cell (p := ⟨b', o' + d.length * 5 + 1, none⟩) hbw).trans e1
      have d2 := (hB.out.cell (p := ⟨b', o' + d.length * 5 + 2, none⟩) hbw).trans e2
      have d3 := (hB.out.cell (p := ⟨b', o' + d.length * 5 + 3, none⟩) hbw).trans e3
      have d4 := (hB.out.cell (p := ⟨b', o' + d.length * 5 + 4, none⟩) hbw).trans e4
      obtain ⟨Wa, hWa, ka, hBa, hza⟩ := one_alloc wr (.cells #[.string (str y.name), .slice pp y.params.length cp, .slice pv y.vars.length cv, .slice pr y.rets.length cr, .slice pbb y.body.len cb] 55)
      have HWa := Lib.hid hWa
      have HBa := Lib.hid (hB.out.trans (hBa.mono hB.out.size))
      have HV1 := Lib.hid (HVr.out Wa y ⟨pp, pv, pr, pbb, cp, cv, cr, cb⟩ HBa.out hok)
      unfold Fnc.v at HV1
      have a0 : Wa.cell? ⟨wr.heap.size, 0, none⟩ = some (.string (str y.name)) := cell_blk ka rfl
      have a1 : Wa.cell? ⟨wr.heap.size, 1, none⟩ = some (.slice pp y.params.length cp) := cell_blk ka rfl
      have a2 : Wa.cell? ⟨wr.heap.size, 2, none⟩ = some (.slice pv y.vars.length cv) := cell_blk ka rfl
      have a3 : Wa.cell? ⟨wr.heap.size, 3, none⟩ = some (.slice pr y.rets.length cr) := cell_blk ka rfl
      have a4 : Wa.cell? ⟨wr.heap.size, 4, none⟩ = some (.slice pbb y.body.len cb) := cell_blk ka rfl
      clear hy hr hr' e0 e1 e2 e3 e4 hok hbw hWa ka hBa hza c0 c1
      go_upto_region 6 with fail
      rw [HWa.out]
      clear d0 d1 d2 d3 d4 HWa
      go_wp2_with fail
      refine HV1.out.mono ?_
      intro z w4 hc
      clear a0 a1 a2 a3 a4
      rcases hc with ⟨r1, hB4⟩ | ⟨r1, hB4⟩
      rotate_left
      · have hf := ask9 r1
        have HR := Lib.hid (HNo.out w4 _ (by
          have hall : x.fns.all Fnc.varsB = false := by rw [hds.out, List.all_append, List.all_cons, hf, Bool.false_and, Bool.and_false]
          rw [R3.out, hall, hf]; rfl) r1 (HBa.out.trans (hB4.mono HBa.out.size)))
        unfold Pn
        clear hB4 r1 hf
        go_wp2_with fail
        exact ⟨rfl, HR.out⟩
      have HE2 := Lib.hid (show (d ++ [y]).all Fnc.varsB = true by rw [List.all_append, hE.out, List.all_cons, ask9' r1]; rfl)
      have HB4 := Lib.hid (HBa.out.trans (hB4.mono HBa.out.size))
      clear r1 hB4
      go_wp2_with fail
      go_roundw
      case rel => exact ⟨d ++ [y], r, by rw [List.length_append]; go_num, by simp; omega, Lib.hid (by rw [hds.out]; simp), Lib.hid (by rw [List.length_append, List.length_singleton, show o' + (d.length + 1) * 5 = o' + d.length * 5 + 5 by omega]; exact HR.out), HB4, HE2⟩
      case measure => simp [intOf]; omega
    | nil =>
     simp only [List.length_nil] at hk
     have hge : ¬ d.length < x.fns.length := by omega
     have R4 := Lib.hid (show mayR x = bodiesR x 0 x.fns by
       have h1 := hE.out
       rw [← List.append_nil d, ← hds.out] at h1
       rw [R3.out, h1]; rfl)
     have HB3 := Lib.hid hB.out
     obtain ⟨c0, c1⟩ := HC.out wr HB3.out
     clear hE hds hr hB
     go_wp2_with fail
     clear c0 c1
     obtain ⟨wq, rfl⟩ : ∃ wq : World, wq = wr := ⟨_, rfl⟩
     go_loopw [24] (fun i wr => ∃ (d r : List Fnc), i = .int .i64 d.length ∧ d.length + r.length = x.fns.length ∧ Hid (x.fns = d ++ r) ∧ Hid (Row (Fnc.At w N) 5 r b' (o' + d.length * 5)) ∧ Hid (Below w.heap.size w wr) ∧ Hid (mayR x = bodiesR x d.length r)) (fun i _ => x.fns.length - (intOf i).toNat)
     case atStart => exact ⟨[], x.fns, rfl, by simp, Lib.hid rfl, Lib.hid (by simpa using HA'.out.1), HB3, R4⟩
     case round =>
       obtain ⟨d, r, rfl, hk, hds, hr, hB, hE⟩ := hrel
       obtain ⟨c0, c1⟩ := HC.out wr hB.out
       cases r with
       | nil =>
         simp only [List.length_nil] at hk
         have hge : ¬ d.length < x.fns.length := by omega
         have HR := Lib.hid (HOK.out wr (by rw [hE.out, bodiesR]) hB.out)
         go_wp2_with fail
         go_end0
         exact HR.out
       | cons y r =>
         obtain ⟨hy, hr'⟩ := hr.out
         simp only [List.length_cons] at hk
         have hlt : d.length < x.fns.length := by omega
         have hlti : (d.length : Int) < (x.fns.length : Int) := by omega
         have hxi : x.fns[d.length]? = some y := by rw [hds.out]; simp
         have hbw : b' < w.heap.size := by have := HA'.out.2; omega
         have HXi := Lib.hid hxi
         obtain ⟨⟨pp, pv, pr, pbb, cp, cv, cr, cb⟩, e0, e1, e2, e3, e4, hok⟩ := Fnc.At.all hy
         have HR := Lib.hid hr'
         have HFc := Lib.hid (fun (W : World) (hB : Below w.heap.size w W) => show W.cell? ⟨b', o' + d.length * 5, none⟩ = some (.string (str y.name)) ∧ W.cell? ⟨b', o' + d.length * 5 + 1, none⟩ = some (.slice pp y.params.length cp) ∧ W.cell? ⟨b', o' + d.length * 5 + 2, none⟩ = some (.slice pv y.vars.length cv) ∧ W.cell? ⟨b', o' + d.length * 5 + 3, none⟩ = some (.slice pr y.rets.length cr) ∧ W.cell? ⟨b', o' + d.length * 5 + 4, none⟩ = some (.slice pbb y.body.len cb) from
           ⟨(hB.cell (p := ⟨b', _, none⟩) hbw).trans e0, (hB.cell (p := ⟨b', _, none⟩) hbw).trans e1, (hB.cell (p := ⟨b', _, none⟩) hbw).trans e2, (hB.cell (p := ⟨b', _, none⟩) hbw).trans e3, (hB.cell (p := ⟨b', _, none⟩) hbw).trans e4⟩)
         have HOk := Lib.hid hok
         clear hy hr hr' e0 e1 e2 e3 e4 hok hxi hbw
         have R4 := Lib.hid (show mayR x = seq (bodyR x d.length y) (bodiesR x (d.length + 1) r) by rw [hE.out, bodiesR])
         have hX : Below w.heap.size w wr.drew := hB.out.drew
         clear c0 c1 hE
         go_wp2_with fail
         refine wp_region_held_drew (S := fun W => W.cell? ⟨pb, 1, none⟩ = some (.slice (some ⟨b', o', none⟩) x.fns.length sd) ∧ W.cell? ⟨b', o' + d.length * 5 + 4, none⟩ = some (.slice pbb y.body.len cb)) (by kernel_rfl) ?_ (fun hHeld => ?_)
         · exact ⟨by exact (HC.out _ hX).2, (HFc.out _ hX).2.2.2.2⟩
         refine tk 0 ?_ rfl (.inl ⟨by rfl, ?_⟩) ?_
         rotate_left
         · (intro w hSw; (try dsimp only at hSw); go_simp; try with_reducible rfl)
         try simp only [Act.put, List.setIfInBounds_toArray, List.set_cons_zero, List.set_cons_succ]
         refine tk 2 ?_ rfl (.inl ⟨by rfl, ?_⟩) ?_
         rotate_left
         · (intro w hSw; (try dsimp only at hSw); go_simp; try with_reducible rfl)
         try simp only [Act.put, List.setIfInBounds_toArray, List.set_cons_zero, List.set_cons_succ]
         refine tk 3 ?_ rfl (.inl ⟨by rfl, ?_⟩) ?_
         rotate_left
         · (intro w hSw; (try dsimp only at hSw); go_simp; try with_reducible rfl)
         try simp only [Act.put, List.setIfInBounds_toArray, List.set_cons_zero, List.set_cons_succ]
         refine tk 4 ?_ rfl (.inl ⟨by rfl, ?_⟩) ?_
         rotate_left
         · (intro w hSw; (try dsimp only at hSw); go_simp; try with_reducible rfl)
         try simp only [Act.put, List.setIfInBounds_toArray, List.set_cons_zero, List.set_cons_succ]
         refine tk 5 ?_ rfl (.inl ⟨by rfl, ?_⟩) ?_
         rotate_left
         · (intro w hSw; (try dsimp only at hSw); go_simp; try with_reducible rfl)
         try simp only [Act.put, List.setIfInBounds_toArray, List.set_cons_zero, List.set_cons_succ]
         refine tk 6 ?_ rfl (.inl ⟨by rfl, ?_⟩) ?_
         rotate_left
         · (intro w hSw; (try dsimp only at hSw); go_simp; try with_reducible rfl)
         try simp only [Act.put, List.setIfInBounds_toArray, List.set_cons_zero, List.set_cons_succ]
         refine tk 7 ?_ rfl (.inl ⟨by rfl, ?_⟩) ?_
         rotate_left
         · (intro w hSw; (try dsimp only at hSw); go_simp; try with_reducible rfl)
         try simp only [Act.put, List.setIfInBounds_toArray, List.set_cons_zero, List.set_cons_succ]
         refine wpAnyH_ready (rs := [1]) (by kernel_rfl) (by simp) ?_
         refine rdy rfl (fun K hK => ?_) AllReadyH.nil
         go_simp
         refine (HPi.out _ d.length y hX HXi.out hf3).mono ?_
         rintro z w5 ⟨mm, rfl, hCm, hB5⟩
         replace hX := hX.trans (hB5.mono hX.size)
         unfold Plc.v
         refine hK.out _ _ ?_ (fun hHeld => ?_)
         · exact ⟨by exact (HC.out _ hX).2, (HFc.out _ hX).2.2.2.2⟩
         clear hK K
         try simp only
         have HS1 := Lib.hid (HSt.out _ d.length mm y _ pbb cb hX HXi.out hCm HOk.out.2.2.2)
         unfold Plc.v at HS1
         refine wpAnyH_ready (rs := [8]) (by kernel_rfl) (by simp) ?_
         refine rdy rfl (fun K hK => ?_) AllReadyH.nil
         go_simp
         refine HS1.out.mono ?_
         intro z w6 hc
         rcases hc with ⟨r1, hB6⟩ | ⟨r1, hB6⟩
         rotate_left
         · have HR := Lib.hid (HNo.out w6 _ (by rw [R4.out]; exact seq_no r1) r1 (hX.trans (hB6.mono hX.size)))
           unfold Pn
           exact ⟨rfl, HR.out⟩
         replace hX := hX.trans (hB6.mono hX.size)
         have HE2 := Lib.hid (show mayR x = bodiesR x (d.length + 1) r by rw [R4.out]; exact seq_ok r1)
         clear r1 hB6
         refine hK.out _ _ ?_ (fun hHeld => ?_)
         · exact ⟨by exact (HC.out _ hX).2, (HFc.out _ hX).2.2.2.2⟩
         clear hK K
         try simp only [Act.put, List.setIfInBounds_toArray, List.set_cons_zero, List.set_cons_succ]
         refine wpAnyH_done (by kernel_rfl) ?_ _
         have HX := Lib.hid hX
         clear hX
         go_wp2_with fail
         go_roundw
         case rel => exact ⟨d ++ [y], r, by rw [List.length_append]; go_num, by simp; omega, Lib.hid (by rw [hds.out]; simp), Lib.hid (by rw [List.length_append, List.length_singleton, show o' + (d.length + 1) * 5 = o' + d.length * 5 + 5 by omega]; exact HR.out), HX, Lib.hid (by rw [List.length_append, List.length_singleton]; exact HE2.out)⟩
         case measure => simp [intOf]; omega

end Go.Proofs.Ytnghehcjklkoeaa
/- May, whole. -/
namespace Go.Proofs.Ytnghehcjklkoeaa
open Go.RowKit

set_option maxHeartbeats 3200000 in
theorem caughtMay_any (m pb : Nat) (w : World) (h : ∀ W, Below w.heap.size w W → Calls Try.prog 32 #[.pointer (some ⟨pb, 0, none⟩)] W (Chk m W)) :
    Calls Try.prog 31 #[.func (.func 32) #[] #[.pointer (some ⟨pb, 0, none⟩)]] w fun z w' => z = .returned (.int .i64 (m : Int)) ∧ Below w.heap.size w w' := by
  have hmf : ∀ (fn : Fn) (first cap : Array Value) (w : World), (Instr.makeFunc fn first cap).run Try.prog w = .ok (.func fn first cap) w := fun _ _ _ _ => rfl
  obtain ⟨W0, hW0, k0, hB0, hz0⟩ := one_alloc w (.cells #[.int .i64 0] 35)
  have HCl := Lib.hid (h W0 hB0)
  have HB0 := Lib.hid (show Below w.heap.size w W0 ∧ w.heap.size < W0.heap.size from ⟨hB0, by omega⟩)
  have HK := Lib.hid k0
  have HW0 := Lib.hid hW0
  clear hW0 k0 hB0 hz0 h
  go_enter_defers Try.func31, Try.ntmps31
  go_wp2_with fail
  rw [HW0.out]
  refine HCl.out.mono ?_
  intro z w1 hc
  rcases hc with ⟨r1, hB1⟩ | ⟨r1, hB1⟩
  · have k1 := (hB1.block _ HB0.out.2).trans HK.out
    have HBB := Lib.hid (HB0.out.1.trans (hB1.mono (Nat.le_of_lt HB0.out.2)))
    have HK1 := Lib.hid k1
    have c0 : w1.cell? ⟨w.heap.size, 0, none⟩ = some (.int .i64 0) := cell_blk k1 rfl
    have f0 : w1.frozen? ⟨w.heap.size, 0, none⟩ = false := by simp [World.frozen?, k1]
    have hF := heap_setCell_one k1 (.int .i64 0)
    have H2 := Lib.hid (HBB.out.setCell (p := ⟨w.heap.size, 0, none⟩) (Nat.le_refl _) (.int .i64 0))
    have HF := Lib.hid hF
    have HR := Lib.hid r1
    clear k1 hF hB1 r1
    go_wp2_with fail
    refine leaves_cons (f := 55) (args := #[.pointer (some ⟨w.heap.size, 0, none⟩)]) (by simp) (by simp [go_sem]) ?_
    refine (idle_any _ _).mono ?_
    rintro e u w9 ⟨rfl, rfl, rfl⟩
    have y0 := cell_blk HF.out (j := 0) rfl
    refine ⟨.int .i64 0, ?_, by rw [HR.out]; rfl, H2.out⟩
    simp [results, Try.results31, go_sem, y0]
  · have k1 := (hB1.block _ HB0.out.2).trans HK.out
    have HBB := Lib.hid (HB0.out.1.trans (hB1.mono (Nat.le_of_lt HB0.out.2)))
    have HK1 := Lib.hid k1
    clear k1 hB1 r1
    unfold Pn
    go_wp2_with fail
    refine leaves_cons (f := 55) (args := #[.pointer (some ⟨w.heap.size, 0, none⟩)]) (by simp) (by simp [go_sem]) ?_
    refine (caught1_any w.heap.size (m : Int) [] w1 HK1.out).mono ?_
    rintro e u w9 ⟨rfl, rfl, rfl⟩
    have hF := heap_setCell_one HK1.out (.int .i64 (m : Int))
    have y0 := cell_blk hF (j := 0) rfl
    have H2 := HBB.out.setCell (p := ⟨w.heap.size, 0, none⟩) (Nat.le_refl _) (.int .i64 (m : Int))
    show Leaves _ _ _ _ [] (settle _) _
    refine ⟨.int .i64 (m : Int), ?_, rfl, H2⟩
    simp [results, Try.results31, go_sem, y0]

set_option maxHeartbeats 1600000 in
theorem may_any (x : Prg) (s : PrgP) (N : Nat) (w : World) (h : x.Ok w N s.p s.q) (hN : N ≤ w.heap.size) (hc : x.regs.length ≤ s.c) (hd : x.fns.length ≤ s.d) :
    Calls Try.prog 14 #[x.v s] w fun z w' => z = .returned (.int .i64 (mayR x : Int)) ∧ Below w.heap.size w w' := by
  obtain ⟨W0, hW0, k0, hB0, hz0⟩ := one_alloc w (.cells #[.slice s.p x.regs.length s.c, .slice s.q x.fns.length s.d] 25)
  have HCl := Lib.hid (caughtMay_any (mayR x) w.heap.size W0 fun W hW => may1_any x s w.heap.size N W ⟨(hW.block _ (lt_blk k0)).trans k0, h.later ((hB0.trans (hW.mono (by omega))).mono hN) (Nat.le_refl N)⟩ (by have := hW.size; omega) hc hd)
  have HB0 := Lib.hid (show Below w.heap.size w W0 ∧ w.heap.size ≤ W0.heap.size from ⟨hB0, by omega⟩)
  have HW0 := Lib.hid hW0
  unfold Prg.v
  clear hW0 k0 hB0 hz0 h
  go_enter Try.func14, Try.ntmps14
  go_wp2_with fail
  rw [HW0.out]
  refine HCl.out.mono ?_
  rintro z w1 ⟨rfl, h3⟩
  have HB := Lib.hid (HB0.out.1.trans (h3.mono HB0.out.2))
  clear h3
  go_wp2_with fail
  go_ret
  exact ⟨rfl, HB.out⟩
end Go.Proofs.Ytnghehcjklkoeaa
/- a program of one function. -/
namespace Go.Proofs.Ytnghehcjklkoeaa
open Go.RowKit

def oneFz (l : Sts) (z : Int) : Fnc := ⟨[102], [], [⟨[120], 1, 0, false⟩, ⟨[114], 2, z, false⟩], [], l⟩
def onePz (l : Sts) (z : Int) : Prg := ⟨[], [oneFz l z]⟩
def oneP (l : Sts) : Prg := onePz l 2
/-- where the parts of a program of one function lie -/
structure OneAt (w' : World) (g : Nat) (l : Sts) (q : Option Addr) (c : Nat) (z : Int) : Prop where
  v : w'.heap[g + 1]? = some (.cells #[.string (str [120]), .int .i64 1, .int .i64 0, .bool false, .string (str [114]), .int .i64 2, .int .i64 z, .bool false] 52)
  f : w'.heap[g + 1 + 1]? = some (.cells #[.string (str [102]), .slice none 0 0, .slice (some ⟨g + 1, 0, none⟩) 2 2, .slice none 0 0, .slice q l.len c] 55)
def oneS (g : Nat) : PrgP := ⟨none, some ⟨g + 1 + 1, 0, none⟩, 0, 1⟩
theorem OneAt.ok {w' : World} {g N : Nat} {l : Sts} {q : Option Addr} {c : Nat} {z : Int} (h : OneAt w' g l q c z) (hl : l.In w' N q) (hN : N ≤ g + 1 + 1 + 1) : (onePz l z).Ok w' (g + 1 + 1 + 1) (oneS g).p (oneS g).q := by
  have hz : ∀ {α : Type} (A : α → Nat → Nat → Prop) (k : Nat), RowIn (g + 1 + 1 + 1) A k [] none := fun A k => ⟨Nat.zero_le _, .inl rfl⟩
  refine ⟨hz _ _, ⟨show 1 ≤ 140737488355328 by decide, .inr ⟨g + 1 + 1, 0, rfl, by omega, ⟨?_, trivial⟩⟩⟩⟩
  have y0 := cell_blk h.f (j := 0) rfl
  have y1 := cell_blk h.f (j := 1) rfl
  have y2 := cell_blk h.f (j := 2) rfl
  have y3 := cell_blk h.f (j := 3) rfl
  have y4 := cell_blk h.f (j := 4) rfl
  have v0 := cell_blk h.v (j := 0) rfl
  have v1 := cell_blk h.v (j := 1) rfl
  have v2 := cell_blk h.v (j := 2) rfl
  have v3 := cell_blk h.v (j := 3) rfl
  have v4 := cell_blk h.v (j := 4) rfl
  have v5 := cell_blk h.v (j := 5) rfl
  have v6 := cell_blk h.v (j := 6) rfl
  have v7 := cell_blk h.v (j := 7) rfl
  refine ⟨y0, ⟨none, 0, y1, hz _ _⟩, ⟨some ⟨g + 1, 0, none⟩, 2, y2, ⟨show 2 ≤ 140737488355328 by decide, .inr ⟨g + 1, 0, rfl, by omega, ⟨⟨v0, v1, v2, v3⟩, ⟨v4, v5, v6, v7⟩, trivial⟩⟩⟩⟩, ⟨none, 0, y3, Nat.zero_le _, hz _ _⟩, ⟨q, c, y4, ?_⟩⟩
  exact hl.later (Below.refl _ _) hN
set_option maxHeartbeats 3200000 in
theorem one_any (l : Sts) (q : Option Addr) (c : Nat) (w : World) :
    Calls Try.prog 15 #[.slice q l.len c] w fun z w' => z = .returned (.agg #[.slice none 0 0, .slice (some ⟨w.heap.size + 1 + 1, 0, none⟩) 1 1]) ∧ OneAt w' w.heap.size l q c 2 ∧ w'.heap.size = w.heap.size + 1 + 1 + 1 ∧ Below w.heap.size w w' := by
  obtain ⟨W0, hW0, k0, k1, k2, hB0, hz0⟩ := three w (.cells #[.slice none 0 0, .slice (some ⟨w.heap.size + 1 + 1, 0, none⟩) 1 1] 25) (.cells #[.string (str [120]), .int .i64 1, .int .i64 0, .bool false, .string (str [114]), .int .i64 2, .int .i64 2, .bool false] 52) (.cells #[.string (str [102]), .slice none 0 0, .slice (some ⟨w.heap.size + 1, 0, none⟩) 2 2, .slice none 0 0, .slice q l.len c] 55)
  go_enter Try.func15, Try.ntmps15
  go_wp2_with fail
  erw [hW0]
  have y0 := cell_blk k0 (j := 0) rfl
  have y1 := cell_blk k0 (j := 1) rfl
  refine bodyPost_ret (v := .agg #[.slice none 0 0, .slice (some ⟨w.heap.size + 1 + 1, 0, none⟩) 1 1]) ?_ rfl ⟨rfl, ⟨k1, k2⟩, hz0, hB0⟩
  simp [results, Try.results15, go_sem, y0, y1]
end Go.Proofs.Ytnghehcjklkoeaa
/- the chapter's programs. -/
namespace Go.Proofs.Ytnghehcjklkoeaa
open Go.RowKit

def ex0 : Ex := .mk 0 0 [] .nil
def mkSt (kd : Int) (nm : List UInt8) (e : Ex) (bd : Sts) : St := .mk kd nm [] e ex0 .nil 0 0 bd .nil
def mkC (kd : Int) (nm : List UInt8) (e : Ex) (pe : Option Addr) (ce : Nat) (bd : Sts) (pb : Option Addr) (cb : Nat) : Array Value :=
  #[.int .i64 kd, .string (str nm), .slice none 0 0, .int .i64 e.op, .int .u64 (e.word : Int), .string (str e.name), .slice pe e.args.len ce, .int .i64 0, .int .u64 0, .string (str []), .slice none 0 0, .slice none 0 0, .int .u64 0, .int .u64 0, .slice pb bd.len cb, .slice none 0 0]
theorem st_in {w : World} {N b : Nat} {kd : Int} {nm : List UInt8} {e : Ex} {pe : Option Addr} {ce : Nat} {bd : Sts} {pb : Option Addr} {cb : Nat} {t : TypeId} (h : w.heap[b]? = some (.cells (mkC kd nm e pe ce bd pb cb) t (0, 0))) (hb : b < N) (hw : e.word < 18446744073709551616) (he : e.args.In w N pe) (hbd : bd.In w N pb) : Sts.In w N (.cons (mkSt kd nm e bd) .nil) (some ⟨b, 0, none⟩) := by
  refine ⟨show 1 ≤ 140737488355328 by decide, .inr ⟨b, 0, rfl, hb, ?_, trivial⟩⟩
  obtain ⟨op, wd, en, as'⟩ := e
  have y0 := cell_blk h (j := 0) rfl
  have y1 := cell_blk h (j := 1) rfl
  have y2 := cell_blk h (j := 2) rfl
  have y3 := cell_blk h (j := 3) rfl
  have y4 := cell_blk h (j := 4) rfl
  have y5 := cell_blk h (j := 5) rfl
  have y6 := cell_blk h (j := 6) rfl
  have y7 := cell_blk h (j := 7) rfl
  have y8 := cell_blk h (j := 8) rfl
  have y9 := cell_blk h (j := 9) rfl
  have y10 := cell_blk h (j := 10) rfl
  have y11 := cell_blk h (j := 11) rfl
  have y12 := cell_blk h (j := 12) rfl
  have y13 := cell_blk h (j := 13) rfl
  have y14 := cell_blk h (j := 14) rfl
  have y15 := cell_blk h (j := 15) rfl
  have hz : ∀ A : Nat → Nat → Prop, Sl N none 0 A := fun A => ⟨Nat.zero_le _, .inl rfl⟩
  exact ⟨⟨y0, y1, y12, y13, by decide, by decide⟩, ⟨none, 0, y2, Nat.zero_le _, hz _⟩, ⟨⟨y3, y4, y5, hw⟩, ⟨pe, ce, y6, he⟩⟩, ⟨⟨y7, y8, y9, by decide⟩, ⟨none, 0, y10, hz _⟩⟩, ⟨none, 0, y11, hz _⟩, ⟨pb, cb, y14, hbd⟩, ⟨none, 0, y15, hz _⟩⟩

def asgP (nm : List UInt8) (v : Nat) : Prg := oneP (.cons (mkSt 1 nm (.mk 1 v [] .nil) .nil) .nil)
def rgA (a : Int) : Rgn := ⟨[97], a, 1, false⟩
theorem r1 : mayR (oneP .nil) = 0 := by kernel_rfl
theorem r2 : mayR ⟨[], []⟩ = 13 := by kernel_rfl
theorem r3 : mayR ⟨[rgA 0, rgA 8], (oneP .nil).fns⟩ = 8 := by kernel_rfl
theorem r4 : mayR ⟨[rgA 4], (oneP .nil).fns⟩ = 14 := by kernel_rfl
theorem r5 : mayR (asgP [121] 0) = 8 := by kernel_rfl
theorem r6 : mayR (asgP [114] 0) = 9 := by kernel_rfl
theorem r7 : mayR (asgP [120] 3) = 0 := by kernel_rfl
end Go.Proofs.Ytnghehcjklkoeaa
