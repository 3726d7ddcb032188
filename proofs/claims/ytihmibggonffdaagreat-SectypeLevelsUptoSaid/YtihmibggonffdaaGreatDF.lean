/- K4, DP, K5, DF as one. -/
import Derived.Test.YtihmibggonffdaaGreatF1
import Derived.Test.YtihmibggonffdaaGreatI3
import Derived.Maps.AppendAt
/- May's closure. -/
namespace Go.Proofs.YtihmibggonffdaaGreat
open Go.RowKit
def bodyR (x : Prg) (i : Nat) (f : Fnc) : Nat := f.body.chk x f (adds nz (f.body.fors 1)) i 1 []
def bodiesR (x : Prg) : Nat → List Fnc → Nat
 | _, [] => 0
 | i, f :: r => seq (bodyR x i f) (bodiesR x (i + 1) r)
def mayR (x : Prg) : Nat := seq (ask x.few 13) (seq (ask (namesB x) 8) (seq (ask (rgsAt [] x.regs) 14) (seq (ask (x.fns.all Fnc.varsB) 9) (bodiesR x 0 x.fns))))
theorem ask9 {b : Bool} (h : ask b 9 ≠ 0) : b = false := by cases b with | false => rfl | true => exact absurd rfl h
theorem ask9' {b : Bool} (h : ask b 9 = 0) : b = true := by cases b with | false => cases h | true => rfl

theorem few_parts {x : Prg} (h : x.few = true) : x.regs.all Rgn.few = true ∧ (∀ f ∈ x.fns, f.params.length + f.vars.length ≤ 1000) ∧ x.total ≤ 65536 := by
 simp only [Prg.few, Bool.and_eq_true] at h
 obtain ⟨⟨⟨⟨_, _⟩, h3⟩, h4⟩, h5⟩ := h
 have h6 : ((cap x.total : Nat) : Int) ≤ 65536 := by
   have := (Bool.and_eq_true _ _ ▸ h5).2
   exact of_decide_eq_true this
 refine ⟨h3, fun f hf => ?_, ?_⟩
 · have := List.all_eq_true.1 h4 f hf
   simp only [Fnc.few, fewB, Bool.and_eq_true, decide_eq_true_eq] at this
   omega
 · by_cases ht : x.total ≤ 65536
   · exact ht
   · rw [show cap x.total = 65537 from if_neg ht] at h6; omega

set_option maxRecDepth 100000 in
set_option maxHeartbeats 12800000 in
theorem may1_any (x : Prg) (s : PrgP) (pb N : Nat) (w : World) (hP : PB w N x pb s.p s.q s.c s.d) (hN : N ≤ w.heap.size) (hc : x.regs.length ≤ s.c) (hd : x.fns.length ≤ s.d) :
   Calls Tryz.prog 51 #[.pointer (some ⟨pb, 0, none⟩)] w (Chk (mayR x) w) := by
 obtain ⟨sp, sq, sc, sd⟩ := s
 simp only at hc hd
 obtain ⟨b', o', hq, hb', ha'⟩ := Row.start hP.ok.2
 have HA' := Lib.hid (And.intro ha' hb')
 have hmf := hP.ok.2.1
 have HPB := Lib.hid (fun (W : World) (hB : Below w.heap.size w W) => show PB W N x pb sp sq sc sd from ⟨(hB.block _ (lt_blk hP.cs)).trans hP.cs, hP.ok.later (hB.mono hN) (Nat.le_refl N)⟩)
 have HC := Lib.hid (fun (W : World) (hB : Below w.heap.size w W) => show W.cell? ⟨pb, 0, none⟩ = some (.slice sp x.regs.length sc) ∧ W.cell? ⟨pb, 1, none⟩ = some (.slice sq x.fns.length sd) from ⟨cell_blk (HPB.out W hB).cs rfl, cell_blk (HPB.out W hB).cs rfl⟩)
 have HFw := Lib.hid (mustBeFew_any x ⟨sp, sq, sc, sd⟩ N w hP.ok hN)
 have HRg := Lib.hid (fun (W : World) (hB : Below w.heap.size w W) (hf : x.regs.all Rgn.few = true) => mustLie_any x.regs sp sc N W (HPB.out W hB).ok.1 (Nat.le_trans hN hB.size) hf hc)
 have HNd := Lib.hid (fun (W : World) (hB : Below w.heap.size w W) (hvs : ∀ f ∈ x.fns, f.params.length + f.vars.length ≤ 1000) => mustBeNamed_any x ⟨sp, sq, sc, sd⟩ N W (HPB.out W hB).ok (Nat.le_trans hN hB.size) hvs)
 have HPi := Lib.hid (fun (W : World) (i : Nat) (fn : Fnc) (hB : Below w.heap.size w W) (hi : x.fns[i]? = some fn) (hT : x.total ≤ 65536) => placeIn_any x ⟨sp, sq, sc, sd⟩ i fn pb N W (HPB.out W hB) (Nat.le_trans hN hB.size) hi hT)
 have HSt := Lib.hid (fun (W : World) (i m : Nat) (fn : Fnc) (f : List UInt8 → Nat) (q : Option Addr) (c : Nat) (hB : Below w.heap.size w W) (hi : x.fns[i]? = some fn) (hm : Cm W m f) (hin : fn.body.In w N q) => stmts_to _ fn.body (Nat.lt_succ_self _) x ⟨sp, sq, sc, sd⟩ fn f ⟨pb, i, m, [], none, 0, 1⟩ q c N W ⟨(HPB.out W hB).cs, (HPB.out W hB).ok, hi, hm, ⟨Nat.zero_le _, .inl rfl⟩, Nat.le_refl _, Nat.le_trans hN hB.size⟩ (hin.later (hB.mono hN) (Nat.le_refl N)) (show (1 : Nat) ≤ 65 by decide) (Nat.zero_le _))
 have HVr := Lib.hid (fun (W : World) (fn : Fnc) (sf : FncP) (hB : Below w.heap.size w W) (hok : fn.Ok w N sf) => mustBeVars_any fn sf N W (hok.later (hB.mono hN) (Nat.le_refl N)) (Nat.le_trans hN hB.size))
 have HNo := Lib.hid (fun (w' : World) (r : Nat) (hr : mayR x = r) (h0 : r ≠ 0) (hB : Below w.heap.size w w') => show Chk (mayR x) w (Pn (r : Int)) w' from Chk.no' hr h0 hB)
 have HOK := Lib.hid (fun (w' : World) (hr : mayR x = 0) (hB : Below w.heap.size w w') => show Chk (mayR x) w (.returned (.tuple #[])) w' from .ok hr hB)
 obtain ⟨c0, c1⟩ := HC.out w (Below.refl _ _)
 have hNw := hN
 unfold Prg.v at HFw HNd
 unfold Pn at HNo
 clear hP hb' ha' hc hN
 go_enter Tryz.func51, Tryz.ntmps51
 go_wp2_with fail
 refine HFw.out.mono ?_
 intro z w1 hc
 clear c0 c1
 rcases hc with ⟨r1, hB1⟩ | ⟨r1, hB1⟩
 rotate_left
 · have HR := Lib.hid (HNo.out w1 _ (seq_no r1) r1 hB1)
   unfold Pn
   clear hB1 r1
   go_wp2_with fail
   exact ⟨rfl, HR.out⟩
 have hfew : x.few = true := by
   cases hf : x.few with
   | true => rfl
   | false => rw [hf] at r1; cases r1
 obtain ⟨hf1, hf2, hf3⟩ := few_parts hfew
 have h1f : 1 ≤ x.fns.length := by simp only [Prg.few, fewB, Bool.and_eq_true, decide_eq_true_eq] at hfew; omega
 have hqs : sq = some ⟨b', o', none⟩ := by
   rcases hq with h0 | h0
   · omega
   · exact h0
 subst hqs
 clear hq h1f
 have HNd1 := Lib.hid (HNd.out w1 hB1 hf2)
 have HF1 := Lib.hid hf1
 have R1 := Lib.hid (show mayR x = seq (ask (namesB x) 8) (seq (ask (rgsAt [] x.regs) 14) (seq (ask (x.fns.all Fnc.varsB) 9) (bodiesR x 0 x.fns))) from seq_ok r1)
 have HB1 := Lib.hid hB1
 obtain ⟨c0, c1⟩ := HC.out w1 hB1
 clear r1 hB1 hfew hf1 hf2
 go_wp2_with fail
 refine HNd1.out.mono ?_
 intro z w2 hc
 clear c0 c1
 rcases hc with ⟨r1, hB2⟩ | ⟨r1, hB2⟩
 rotate_left
 · have HR := Lib.hid (HNo.out w2 _ (by rw [R1.out]; exact seq_no r1) r1 (HB1.out.trans (hB2.mono HB1.out.size)))
   unfold Pn
   clear hB2 r1
   go_wp2_with fail
   exact ⟨rfl, HR.out⟩
 have R2 := Lib.hid (show mayR x = seq (ask (rgsAt [] x.regs) 14) (seq (ask (x.fns.all Fnc.varsB) 9) (bodiesR x 0 x.fns)) by rw [R1.out]; exact seq_ok r1)
 have HB2 := Lib.hid (HB1.out.trans (hB2.mono HB1.out.size))
 have HRg1 := Lib.hid (HRg.out w2 HB2.out HF1.out)
 obtain ⟨c0, c1⟩ := HC.out w2 HB2.out
 clear r1 hB2
 go_wp2_with fail
 refine HRg1.out.mono ?_
 intro z w3 hc
 clear c0 c1
 rcases hc with ⟨r1, hB3⟩ | ⟨r1, hB3⟩
 rotate_left
 · have HR := Lib.hid (HNo.out w3 _ (by rw [R2.out]; exact seq_no r1) r1 (HB2.out.trans (hB3.mono HB2.out.size)))
   unfold Pn
   clear hB3 r1
   go_wp2_with fail
   exact ⟨rfl, HR.out⟩
 have R3 := Lib.hid (show mayR x = seq (ask (x.fns.all Fnc.varsB) 9) (bodiesR x 0 x.fns) by rw [R2.out]; exact seq_ok r1)
 have HB3 := Lib.hid (HB2.out.trans (hB3.mono HB2.out.size))
 obtain ⟨c0, c1⟩ := HC.out w3 HB3.out
 clear r1 hB3
 go_wp2_with fail
 clear c0 c1
 go_loopw [14] (fun i wr => ∃ (d r : List Fnc), i = .int .i64 d.length ∧ d.length + r.length = x.fns.length ∧ Hid (x.fns = d ++ r) ∧ Hid (Row (Fnc.At w N) 5 r b' (o' + d.length * 5)) ∧ Hid (Below w.heap.size w wr) ∧ Hid (d.all Fnc.varsB = true)) (fun i _ => x.fns.length - (intOf i).toNat)
 case atStart => exact ⟨[], x.fns, rfl, by simp, Lib.hid rfl, Lib.hid (by simpa using HA'.out.1), HB3, Lib.hid rfl⟩
 case round =>
   obtain ⟨d, r, rfl, hk, hds, hr, hB, hE⟩ := hrel
   cases r with
   | cons y r =>
     obtain ⟨hy, hr'⟩ := hr.out
     simp only [List.length_cons] at hk
     have hlt : d.length < x.fns.length := by omega
     obtain ⟨c0, c1⟩ := HC.out wr hB.out
     have hbw : b' < w.heap.size := by have := HA'.out.2; omega
     obtain ⟨⟨pp, pv, pr, pbb, cp, cv, cr, cb⟩, e0, e1, e2, e3, e4, hok⟩ := Fnc.At.all hy
     have HR := Lib.hid hr'
     have d0 := (hB.out.cell (p := ⟨b', o' + d.length * 5, none⟩) hbw).trans e0
     have d1 := (hB.out.cell (p := ⟨b', o' + d.length * 5 + 1, none⟩) hbw).trans e1
     have d2 := (hB.out.cell (p := ⟨b', o' + d.length * 5 + 2, none⟩) hbw).trans e2
     have d3 := (hB.out.cell (p := ⟨b', o' + d.length * 5 + 3, none⟩) hbw).trans e3
     have d4 := (hB.out.cell (p := ⟨b', o' + d.length * 5 + 4, none⟩) hbw).trans e4
     obtain ⟨Wa, hWa, ka, hBa, hza⟩ := one_alloc wr (.cells #[.string (str y.name), .slice pp y.params.length cp, .slice pv y.vars.length cv, .slice pr y.rets.length cr, .slice pbb y.body.len cb] 48)
     have HWa := Lib.hid hWa
     have HBa := Lib.hid (hB.out.trans (hBa.mono hB.out.size))
     have HV1 := Lib.hid (HVr.out Wa y ⟨pp, pv, pr, pbb, cp, cv, cr, cb⟩ HBa.out hok)
     unfold Fnc.v at HV1
     have a0 : Wa.cell? ⟨wr.heap.size, 0, none⟩ = some (.string (str y.name)) := cell_blk ka rfl
     have a1 : Wa.cell? ⟨wr.heap.size, 1, none⟩ = some (.slice pp y.params.length cp) := cell_blk ka rfl
     have a2 : Wa.cell? ⟨wr.heap.size, 2, none⟩ = some (.slice pv y.vars.length cv) := cell_blk ka rfl
     have a3 : Wa.cell? ⟨wr.heap.size, 3, none⟩ = some (.slice pr y.rets.length cr) := cell_blk ka rfl
     have a4 : Wa.cell? ⟨wr.heap.size, 4, none⟩ = some (.slice pbb y.body.len cb) := cell_blk ka rfl
     clear hy hr hr' e0 e1 e2 e3 e4 hok hbw hWa ka hBa hza c0 c1
     go_upto_region 6 with fail
     rw [HWa.out]
     clear d0 d1 d2 d3 d4 HWa
     go_wp2_with fail
     refine HV1.out.mono ?_
     intro z w4 hc
     clear a0 a1 a2 a3 a4
     rcases hc with ⟨r1, hB4⟩ | ⟨r1, hB4⟩
     rotate_left
     · have hf := ask9 r1
       have HR := Lib.hid (HNo.out w4 _ (by
         have hall : x.fns.all Fnc.varsB = false := by rw [hds.out, List.all_append, List.all_cons, hf, Bool.false_and, Bool.and_false]
         rw [R3.out, hall, hf]; rfl) r1 (HBa.out.trans (hB4.mono HBa.out.size)))
       unfold Pn
       clear hB4 r1 hf
       go_wp2_with fail
       exact ⟨rfl, HR.out⟩
     have HE2 := Lib.hid (show (d ++ [y]).all Fnc.varsB = true by rw [List.all_append, hE.out, List.all_cons, ask9' r1]; rfl)
     have HB4 := Lib.hid (HBa.out.trans (hB4.mono HBa.out.size))
     clear r1 hB4
     go_wp2_with fail
     go_roundw
     case rel => exact ⟨d ++ [y], r, by rw [List.length_append]; go_num, by simp; omega, Lib.hid (by rw [hds.out]; simp), Lib.hid (by rw [List.length_append, List.length_singleton, show o' + (d.length + 1) * 5 = o' + d.length * 5 + 5 by omega]; exact HR.out), HB4, HE2⟩
     case measure => simp [intOf]; omega
   | nil =>
    simp only [List.length_nil] at hk
    have hge : ¬ d.length < x.fns.length := by omega
    have R4 := Lib.hid (show mayR x = bodiesR x 0 x.fns by
      have h1 := hE.out
      rw [← List.append_nil d, ← hds.out] at h1
      rw [R3.out, h1]; rfl)
    have HB3 := Lib.hid hB.out
    obtain ⟨c0, c1⟩ := HC.out wr HB3.out
    clear hE hds hr hB
    go_wp2_with fail
    clear c0 c1
    obtain ⟨wq, rfl⟩ : ∃ wq : World, wq = wr := ⟨_, rfl⟩
    go_loopw [24] (fun i wr => ∃ (d r : List Fnc), i = .int .i64 d.length ∧ d.length + r.length = x.fns.length ∧ Hid (x.fns = d ++ r) ∧ Hid (Row (Fnc.At w N) 5 r b' (o' + d.length * 5)) ∧ Hid (Below w.heap.size w wr) ∧ Hid (mayR x = bodiesR x d.length r)) (fun i _ => x.fns.length - (intOf i).toNat)
    case atStart => exact ⟨[], x.fns, rfl, by simp, Lib.hid rfl, Lib.hid (by simpa using HA'.out.1), HB3, R4⟩
    case round =>
      obtain ⟨d, r, rfl, hk, hds, hr, hB, hE⟩ := hrel
      obtain ⟨c0, c1⟩ := HC.out wr hB.out
      cases r with
      | nil =>
        simp only [List.length_nil] at hk
        have hge : ¬ d.length < x.fns.length := by omega
        have HR := Lib.hid (HOK.out wr (by rw [hE.out, bodiesR]) hB.out)
        go_wp2_with fail
        go_end0
        exact HR.out
      | cons y r =>
        obtain ⟨hy, hr'⟩ := hr.out
        simp only [List.length_cons] at hk
        have hlt : d.length < x.fns.length := by omega
        have hlti : (d.length : Int) < (x.fns.length : Int) := by omega
        have hxi : x.fns[d.length]? = some y := by rw [hds.out]; simp
        have hbw : b' < w.heap.size := by have := HA'.out.2; omega
        have HXi := Lib.hid hxi
        obtain ⟨⟨pp, pv, pr, pbb, cp, cv, cr, cb⟩, e0, e1, e2, e3, e4, hok⟩ := Fnc.At.all hy
        have HR := Lib.hid hr'
        have HFc := Lib.hid (fun (W : World) (hB : Below w.heap.size w W) => show W.cell? ⟨b', o' + d.length * 5, none⟩ = some (.string (str y.name)) ∧ W.cell? ⟨b', o' + d.length * 5 + 1, none⟩ = some (.slice pp y.params.length cp) ∧ W.cell? ⟨b', o' + d.length * 5 + 2, none⟩ = some (.slice pv y.vars.length cv) ∧ W.cell? ⟨b', o' + d.length * 5 + 3, none⟩ = some (.slice pr y.rets.length cr) ∧ W.cell? ⟨b', o' + d.length * 5 + 4, none⟩ = some (.slice pbb y.body.len cb) from
          ⟨(hB.cell (p := ⟨b', _, none⟩) hbw).trans e0, (hB.cell (p := ⟨b', _, none⟩) hbw).trans e1, (hB.cell (p := ⟨b', _, none⟩) hbw).trans e2, (hB.cell (p := ⟨b', _, none⟩) hbw).trans e3, (hB.cell (p := ⟨b', _, none⟩) hbw).trans e4⟩)
        have HOk := Lib.hid hok
        clear hy hr hr' e0 e1 e2 e3 e4 hok hxi hbw
        have R4 := Lib.hid (show mayR x = seq (bodyR x d.length y) (bodiesR x (d.length + 1) r) by rw [hE.out, bodiesR])
        have hX : Below w.heap.size w wr.drew := hB.out.drew
        clear c0 c1 hE
        go_wp2_with fail
        refine wp_region_held_drew (S := fun W => W.cell? ⟨pb, 1, none⟩ = some (.slice (some ⟨b', o', none⟩) x.fns.length sd) ∧ W.cell? ⟨b', o' + d.length * 5 + 4, none⟩ = some (.slice pbb y.body.len cb)) (by kernel_rfl) ?_ (fun hHeld => ?_)
        · exact ⟨by exact (HC.out _ hX).2, (HFc.out _ hX).2.2.2.2⟩
        refine tq 0 ?_
        refine tq 2 ?_
        refine tq 3 ?_
        refine tq 4 ?_
        refine tq 5 ?_
        refine tq 6 ?_
        refine tq 7 ?_
        refine wpAnyH_ready (rs := [1]) (by kernel_rfl) (by simp) ?_
        refine rdy rfl (fun K hK => ?_) AllReadyH.nil
        go_simp
        refine (HPi.out _ d.length y hX HXi.out hf3).mono ?_
        rintro z w5 ⟨mm, rfl, hCm, hB5⟩
        replace hX := hX.trans (hB5.mono hX.size)
        unfold Plc.v
        refine hK.out _ _ ?_ (fun hHeld => ?_)
        · exact ⟨by exact (HC.out _ hX).2, (HFc.out _ hX).2.2.2.2⟩
        clear hK K
        try simp only
        have HS1 := Lib.hid (HSt.out _ d.length mm y _ pbb cb hX HXi.out hCm HOk.out.2.2.2)
        unfold Plc.v at HS1
        refine wpAnyH_ready (rs := [8]) (by kernel_rfl) (by simp) ?_
        refine rdy rfl (fun K hK => ?_) AllReadyH.nil
        go_simp
        refine HS1.out.mono ?_
        intro z w6 hc
        rcases hc with ⟨r1, hB6⟩ | ⟨r1, hB6⟩
        rotate_left
        · have HR := Lib.hid (HNo.out w6 _ (by rw [R4.out]; exact seq_no r1) r1 (hX.trans (hB6.mono hX.size)))
          unfold Pn
          exact ⟨rfl, HR.out⟩
        replace hX := hX.trans (hB6.mono hX.size)
        have HE2 := Lib.hid (show mayR x = bodiesR x (d.length + 1) r by rw [R4.out]; exact seq_ok r1)
        clear r1 hB6
        refine hK.out _ _ ?_ (fun hHeld => ?_)
        · exact ⟨by exact (HC.out _ hX).2, (HFc.out _ hX).2.2.2.2⟩
        clear hK K
        try simp only [Act.put, List.setIfInBounds_toArray, List.set_cons_zero, List.set_cons_succ]
        refine wpAnyH_done (by kernel_rfl) ?_ _
        have HX := Lib.hid hX
        clear hX
        go_wp2_with fail
        go_roundw
        case rel => exact ⟨d ++ [y], r, by rw [List.length_append]; go_num, by simp; omega, Lib.hid (by rw [hds.out]; simp), Lib.hid (by rw [List.length_append, List.length_singleton, show o' + (d.length + 1) * 5 = o' + d.length * 5 + 5 by omega]; exact HR.out), HX, Lib.hid (by rw [List.length_append, List.length_singleton]; exact HE2.out)⟩
        case measure => simp [intOf]; omega

/- When a program may be: what is asked, part by part. -/
open Go.RowKit

theorem seq_iff (a b : Nat) : seq a b = 0 ↔ a = 0 ∧ b = 0 := by unfold seq; split <;> omega
theorem ask_iff (b : Bool) (e : Nat) (he : e ≠ 0) : ask b e = 0 ↔ b = true := by unfold ask; cases b <;> simp [he]
theorem newB_one (a : List (List UInt8)) (s : List UInt8) : newB nz (a ++ [s]) = (newB nz a && (nameB s && !(a.any (fun y => y == s)))) := by
 rw [newB_app, newB, newB, Bool.and_true, cts_is a s, Bool.not_not]
theorem newB_pre {a b : List (List UInt8)} (h : newB nz (a ++ b) = true) : newB nz a = true := by
 rw [newB_app] at h; exact (Bool.and_eq_true _ _ ▸ h).1
theorem newB_cut {a b : List (List UInt8)} {s : List UInt8} (h : (nameB s && !(a.any (fun y => y == s))) = false) : newB nz (a ++ s :: b) = false := by
 cases hq : newB nz (a ++ s :: b) with
 | false => rfl
 | true =>
   rw [show a ++ s :: b = (a ++ [s]) ++ b by simp] at hq
   have := newB_pre hq
   rw [newB_one, h, Bool.and_false] at this
   cases this
theorem newB_name : ∀ {a : List (List UInt8)} {f : List UInt8 → Nat} {s : List UInt8}, newB f a = true → s ∈ a → nameB s = true
 | [], _, _, _, hs => by cases hs
 | x :: a, f, s, h, hs => by
   rw [newB] at h
   simp only [Bool.and_eq_true] at h
   rcases List.mem_cons.1 hs with rfl | hs
   · exact h.1.1
   · exact newB_name h.2 hs
def varN (x : Prg) (f : Fnc) : Bool := newB nz (rnm x.regs ++ vnm (f.params ++ f.vars)) && newB nz f.rets && f.rets.all (fun s => (f.params ++ f.vars).any (isWord s))
theorem own_var (x : Prg) (f : Fnc) : ownN x.regs f = varN x f := rfl
theorem bodiesR_zero (x : Prg) : ∀ (l : List Fnc) (i : Nat), bodiesR x i l = 0 ↔ ∀ k f, l[k]? = some f → bodyR x (i + k) f = 0
 | [], i => by simp [bodiesR]
 | f :: l, i => by
   rw [bodiesR, seq_iff, bodiesR_zero x l (i + 1)]
   constructor
   · rintro ⟨h3, h4⟩ k g hg
     cases k with
     | zero => simp at hg; subst hg; exact h3
     | succ k => have := h4 k g (by simpa using hg); rw [show i + 1 + k = i + (k + 1) by omega] at this; exact this
   · intro h
     refine ⟨h 0 f (by simp), fun k g hg => ?_⟩
     have := h (k + 1) g (by simpa using hg)
     rw [show i + 1 + k = i + (k + 1) by omega]; exact this
theorem may_zero (x : Prg) : mayR x = 0 ↔ x.few = true ∧ namesB x = true ∧ rgsAt [] x.regs = true ∧ x.fns.all Fnc.varsB = true ∧ ∀ k f, x.fns[k]? = some f → bodyR x k f = 0 := by
 unfold mayR
 rw [seq_iff, seq_iff, seq_iff, seq_iff, ask_iff _ 13 (by decide), ask_iff _ 8 (by decide), ask_iff _ 14 (by decide), ask_iff _ 9 (by decide), bodiesR_zero]
 simp only [Nat.zero_add]
theorem names_new {x : Prg} (h : namesB x = true) : newB nz (rnm x.regs ++ fnm x.fns) = true := by unfold namesB at h; exact (Bool.and_eq_true _ _ ▸ h).1
theorem fns_at {x : Prg} {ds r : List Fnc} {y : Fnc} (h : x.fns = ds ++ y :: r) : x.fns[ds.length]? = some y := by rw [h]; simp
theorem may_yes {x : Prg} (h1 : x.few = true) (h2 : newB nz (rnm x.regs ++ fnm x.fns) = true) (h3 : ∀ f ∈ x.fns, varN x f = true) (h4 : rgsAt [] x.regs = true) (h5 : ∀ f ∈ x.fns, f.varsB = true) (h6 : ∀ k f, x.fns[k]? = some f → bodyR x k f = 0) : mayR x = 0 :=
 (may_zero x).2 ⟨h1, by unfold namesB; rw [h2, Bool.true_and]; exact List.all_eq_true.2 fun f hf => (own_var x f).trans (h3 f hf), h4, List.all_eq_true.2 h5, h6⟩
theorem few_lt (n : Int) : fewB n 1 512 = (!decide (n < 1) && !decide (512 < n)) := by
 unfold fewB
 have e1 : decide (1 ≤ n) = !decide (n < 1) := by rw [Bool.eq_iff_iff]; simp
 have e2 : decide (n ≤ 512) = !decide (512 < n) := by rw [Bool.eq_iff_iff]; simp
 rw [e1, e2]
theorem few_no_regs {x : Prg} (h : x.regs.all Rgn.few = false) : x.few = false := by unfold Prg.few; rw [h]; simp
theorem few_no_fns {x : Prg} (h : x.fns.all Fnc.few = false) : x.few = false := by unfold Prg.few; rw [h]; simp
theorem all_cut {α : Type} {f : α → Bool} {l d r : List α} {y : α} (h : l = d ++ y :: r) (hy : f y = false) : l.all f = false := by rw [h]; simp [hy]
theorem all_one {α : Type} {f : α → Bool} {d : List α} {y : α} (h : d.all f = true) (hy : f y = true) : (d ++ [y]).all f = true := by rw [List.all_append, h]; simp [hy]
theorem few_all {x : Prg} (h1 : x.regs.length ≤ 16) (h2 : 1 ≤ x.fns.length) (h3 : x.fns.length ≤ 32) (h4 : x.total ≤ 65536) (h5 : x.regs.all Rgn.few = true) (h6 : x.fns.all Fnc.few = true) : x.few = true := by
 unfold Prg.few
 rw [h5, h6]
 unfold fewB cap
 rw [if_pos h4]
 simp only [Bool.and_true, Bool.and_eq_true, decide_eq_true_eq]
 omega
theorem few_bad {x : Prg} (h : 16 < x.regs.length ∨ x.fns.length < 1 ∨ 32 < x.fns.length ∨ 65536 < x.total) : x.few = false := by
 cases hq : x.few with
 | false => rfl
 | true =>
   simp only [Prg.few, fewB, Bool.and_eq_true, decide_eq_true_eq] at hq
   unfold cap at hq
   split at hq <;> omega
theorem ret_notin {x : Prg} {f : Fnc} {ds r : List (List UInt8)} {s : List UInt8} (h : f.rets = ds ++ s :: r) (hn : (f.params ++ f.vars).any (isWord s) = false) : varN x f = false := by
 unfold varN
 rw [all_cut (f := fun s => (f.params ++ f.vars).any (isWord s)) h hn, Bool.and_false]
theorem ret_twice {x : Prg} {f : Fnc} {ds r : List (List UInt8)} {s : List UInt8} (h : f.rets = ds ++ s :: r) (hn : ds.any (fun y => y == s) = true) : varN x f = false := by
 unfold varN
 rw [h, newB_cut (a := ds) (b := r) (s := s) (by rw [hn]; simp), Bool.and_false, Bool.false_and]
theorem var_cut {x : Prg} {f : Fnc} {ds r : List Vr} {v : Vr} (h : f.params ++ f.vars = ds ++ v :: r) (hn : (nameB v.name && !((rnm x.regs ++ vnm ds).any (fun y => y == v.name))) = false) : varN x f = false := by
 unfold varN
 rw [h, show rnm x.regs ++ vnm (ds ++ v :: r) = (rnm x.regs ++ vnm ds) ++ v.name :: vnm r by simp [vnm], newB_cut hn, Bool.false_and, Bool.false_and]
theorem word_name {l : List Vr} {a : List (List UInt8)} {s : List UInt8} (h : newB nz (a ++ vnm l) = true) (hw : l.any (isWord s) = true) : nameB s = true := by
 obtain ⟨v, hv, hs⟩ := List.any_eq_true.1 hw
 unfold isWord at hs
 simp only [Bool.and_eq_true, beq_iff_eq] at hs
 rw [← hs.1]
 exact newB_name h (List.mem_append_right _ (List.mem_map.2 ⟨v, hv, rfl⟩))
def wnm (l : List Vr) : List (List UInt8) := (l.filter (fun v => v.kind == 1)).map (·.name)
theorem wnm_any : ∀ (l : List Vr) (s : List UInt8), (wnm l).any (fun y => y == s) = l.any (isWord s)
 | [], s => rfl
 | v :: l, s => by
   rw [List.any_cons, ← wnm_any l s]
   unfold wnm isWord
   rw [List.filter_cons]
   cases hk : (v.kind == 1)
   · simp
   · simp
theorem wnm_snoc (l : List Vr) (v : Vr) : wnm (l ++ [v]) = wnm l ++ if v.kind == 1 then [v.name] else [] := by
 unfold wnm
 rw [List.filter_append, List.map_append]
 congr 1
 cases hk : (v.kind == 1) <;> simp [hk]
theorem own_grown {w w' : World} {base : Nat} {e : TypeId} {size n : Nat} {v : Value} {xs : List Value} {row : Option Nat} (h : w.ownsRow base e size v n xs) (hg : w.grownBy w' row) (hne : ∀ j, v.ownBlock = some j → row ≠ some j) : w'.ownsRow base e size v n xs := by
 refine ⟨h.1, ?_⟩
 rcases h.2 with h0 | ⟨g, cap, cur, hv, hbg, hk, hr⟩
 · exact .inl h0
 · have hlt := (h.lt g (by rw [hv]; rfl)).2
   exact .inr ⟨g, cap, cur, hv, hbg, (hg.block g hlt (by have := hne g (by rw [hv]; rfl); first | exact this | exact fun e => this e.symm)).trans hk, hr⟩
structure Two (w : World) (B : Nat) (va : Value) (ta : List (List UInt8)) (vb : Value) (tb : List (List UInt8)) : Prop where
 a : OwnS w B va ta
 b : OwnS w B vb tb
 ap : ∀ j, va.ownBlock = some j → vb.ownBlock ≠ some j
theorem Two.later {w w' : World} {B : Nat} {va vb : Value} {ta tb : List (List UInt8)} (h : Two w B va ta vb tb) (hB : Below w.heap.size w w') : Two w' B va ta vb tb := ⟨own_later h.a hB, own_later h.b hB, h.ap⟩
theorem Two.app1 {w w' : World} {B : Nat} {va va' vb : Value} {ta ta' tb : List (List UInt8)} (h : Two w B va ta vb tb) (hown : OwnS w' B va' ta') (hg : w.grownBy w' va.ownBlock) (hat : va'.ownBlock = va.ownBlock ∨ va'.ownBlock = some w.heap.size) : Two w' B va' ta' vb tb :=
 ⟨hown, own_grown h.b hg (fun j hj he => h.ap j he hj), fun j hj he => by
   rcases hat with e | e
   · exact h.ap j (by rw [← e]; exact hj) he
   · rw [e] at hj; cases hj; have := (h.b.lt _ he).2; omega⟩
theorem Two.app2 {w w' : World} {B : Nat} {va vb vb' : Value} {ta tb tb' : List (List UInt8)} (h : Two w B va ta vb tb) (hown : OwnS w' B vb' tb') (hg : w.grownBy w' vb.ownBlock) (hat : vb'.ownBlock = vb.ownBlock ∨ vb'.ownBlock = some w.heap.size) : Two w' B va ta vb' tb' :=
 ⟨own_grown h.a hg (fun j hj he => h.ap j hj he), hown, fun j hj he => by
   rcases hat with e | e
   · exact h.ap j hj (by rw [← e]; exact he)
   · rw [e] at he; cases he; have := (h.a.lt _ hj).2; omega⟩
theorem wpList_app_at {P : Program} {w : World} {ops : Array Oper} {rest : List Oper} {o : Oper} {a : Act} {Q : Exit → Act → World → Prop} (hgd : o.guard = none) (s x : Operand) (t : TypeId)
   (ho : o.op = .call { callee := .builtin .append, args := #[s, x], argTypes := #[t, t] })
   (base : Nat) (e : TypeId) (i : TypeInfo) (z : Value) (size bytes : Nat) (ht : P.underlying t = some (.slice e)) (hi : P.info? e = some i) (hz : i.zero = some z)
   (hsize : i.size = size) (hby : i.bytes = bytes) (hzs : z.cells.size = size) (hsz : 0 < size)
   (v : Value) (n : Nat) (xs : List Value) (hs : a.eval s = v) (hown : w.ownsRow base e size v n xs)
   (p : Option Addr) (m c : Nat) (news : List Value) (hx : a.eval x = .slice p m c) (hsrc : Src w size p m news) (h1 : ∀ u ∈ news, u.oneCell' = true)
   (h63 : n + m ≤ maxLen) (hbytes : (n + m) * bytes ≤ 140737488355328) (hbase : base ≤ w.heap.size)
   (h : ∀ v' w', w'.ownsRow base e size v' (n + m) (xs ++ news) → w.grownBy w' v.ownBlock → (v'.ownBlock = v.ownBlock ∨ v'.ownBlock = some w.heap.size) → wpList P ops Q rest (a.put o.dst v') w') : wpList P ops Q (o :: rest) a w := by
 obtain ⟨hl, rfl | ⟨b', o', rfl, hc⟩⟩ := hsrc
 · have : news = [] := List.eq_nil_of_length_eq_zero (by simpa using hl)
   subst this
   have hrun := run_append_empty (P := P) (w := w) base t o.type e i size ht hi v n xs hown p c
   exact Lib.wpList_append_run w hgd s x t t ho _ _ hs hx _ _ hrun (h v w (by simpa using hown) (World.grownBy.refl w _) (.inl rfl))
 · exact wpList_append_own_at w hgd s x t ho base e i z size bytes ht hi hz hsize hby hzs hsz v n xs hs hown _ m c news hx hl (fun j u hu => by rw [add_of]; exact hc j u hu) h1 h63 hbytes hbase fun v' w' h2 h3 _ h5 => h v' w' h2 h3 h5
/- May, whole. -/
open Go.RowKit

set_option maxHeartbeats 3200000 in
theorem caughtMay_any (m pb : Nat) (w : World) (h : ∀ W, Below w.heap.size w W → Calls Tryz.prog 51 #[.pointer (some ⟨pb, 0, none⟩)] W (Chk m W)) :
   Calls Tryz.prog 50 #[.func (.func 51) #[] #[.pointer (some ⟨pb, 0, none⟩)]] w fun z w' => z = .returned (.int .i64 (m : Int)) ∧ Below w.heap.size w w' := by
 have hmf : ∀ (fn : Fn) (first cap : Array Value) (w : World), (Instr.makeFunc fn first cap).run Tryz.prog w = .ok (.func fn first cap) w := fun _ _ _ _ => rfl
 obtain ⟨W0, hW0, k0, hB0, hz0⟩ := one_alloc w (.cells #[.int .i64 0] 29)
 have HCl := Lib.hid (h W0 hB0)
 have HB0 := Lib.hid (show Below w.heap.size w W0 ∧ w.heap.size < W0.heap.size from ⟨hB0, by omega⟩)
 have HK := Lib.hid k0
 have HW0 := Lib.hid hW0
 clear hW0 k0 hB0 hz0 h
 go_enter_defers Tryz.func50, Tryz.ntmps50
 go_wp2_with fail
 rw [HW0.out]
 refine HCl.out.mono ?_
 intro z w1 hc
 rcases hc with ⟨r1, hB1⟩ | ⟨r1, hB1⟩
 · have k1 := (hB1.block _ HB0.out.2).trans HK.out
   have HBB := Lib.hid (HB0.out.1.trans (hB1.mono (Nat.le_of_lt HB0.out.2)))
   have HK1 := Lib.hid k1
   have c0 : w1.cell? ⟨w.heap.size, 0, none⟩ = some (.int .i64 0) := cell_blk k1 rfl
   have f0 : w1.frozen? ⟨w.heap.size, 0, none⟩ = false := by simp [World.frozen?, k1]
   have hF := heap_setCell_one k1 (.int .i64 0)
   have H2 := Lib.hid (HBB.out.setCell (p := ⟨w.heap.size, 0, none⟩) (Nat.le_refl _) (.int .i64 0))
   have HF := Lib.hid hF
   have HR := Lib.hid r1
   clear k1 hF hB1 r1
   go_wp2_with fail
   refine leaves_cons (f := 77) (args := #[.pointer (some ⟨w.heap.size, 0, none⟩)]) (by simp) (by simp [go_sem]) ?_
   refine (idle_any _ _).mono ?_
   rintro e u w9 ⟨rfl, rfl, rfl⟩
   have y0 := cell_blk HF.out (j := 0) rfl
   refine ⟨.int .i64 0, ?_, by rw [HR.out]; rfl, H2.out⟩
   simp [results, Tryz.results50, go_sem, y0]
 · have k1 := (hB1.block _ HB0.out.2).trans HK.out
   have HBB := Lib.hid (HB0.out.1.trans (hB1.mono (Nat.le_of_lt HB0.out.2)))
   have HK1 := Lib.hid k1
   clear k1 hB1 r1
   unfold Pn
   go_wp2_with fail
   refine leaves_cons (f := 77) (args := #[.pointer (some ⟨w.heap.size, 0, none⟩)]) (by simp) (by simp [go_sem]) ?_
   refine (caught1_any w.heap.size (m : Int) [] w1 HK1.out).mono ?_
   rintro e u w9 ⟨rfl, rfl, rfl⟩
   have hF := heap_setCell_one HK1.out (.int .i64 (m : Int))
   have y0 := cell_blk hF (j := 0) rfl
   have H2 := HBB.out.setCell (p := ⟨w.heap.size, 0, none⟩) (Nat.le_refl _) (.int .i64 (m : Int))
   show Leaves _ _ _ _ [] (settle _) _
   refine ⟨.int .i64 (m : Int), ?_, rfl, H2⟩
   simp [results, Tryz.results50, go_sem, y0]

set_option maxHeartbeats 1600000 in
theorem may_any (x : Prg) (s : PrgP) (N : Nat) (w : World) (h : x.Ok w N s.p s.q) (hN : N ≤ w.heap.size) (hc : x.regs.length ≤ s.c) (hd : x.fns.length ≤ s.d) :
   Calls Tryz.prog 25 #[x.v s] w fun z w' => z = .returned (.int .i64 (mayR x : Int)) ∧ Below w.heap.size w w' := by
 obtain ⟨W0, hW0, k0, hB0, hz0⟩ := one_alloc w (.cells #[.slice s.p x.regs.length s.c, .slice s.q x.fns.length s.d] 25)
 have HCl := Lib.hid (caughtMay_any (mayR x) w.heap.size W0 fun W hW => may1_any x s w.heap.size N W ⟨(hW.block _ (lt_blk k0)).trans k0, h.later ((hB0.trans (hW.mono (by omega))).mono hN) (Nat.le_refl N)⟩ (by have := hW.size; omega) hc hd)
 have HB0 := Lib.hid (show Below w.heap.size w W0 ∧ w.heap.size ≤ W0.heap.size from ⟨hB0, by omega⟩)
 have HW0 := Lib.hid hW0
 unfold Prg.v
 clear hW0 k0 hB0 hz0 h
 go_enter Tryz.func25, Tryz.ntmps25
 go_wp2_with fail
 rw [HW0.out]
 refine HCl.out.mono ?_
 rintro z w1 ⟨rfl, h3⟩
 have HB := Lib.hid (HB0.out.1.trans (h3.mono HB0.out.2))
 clear h3
 go_wp2_with fail
 go_ret
 exact ⟨rfl, HB.out⟩
/- Which inputs fit: the program's Fit. -/
open Go.RowKit

def LenAt (w : World) (n : Nat) (b o : Nat) : Prop := ∃ p c, w.cell? ⟨b, o, none⟩ = some (.slice p n c) ∧ n ≤ 140737488355328
theorem LenAt.later {N : Nat} {w w' : World} (hw : Below N w w') (n : Nat) (b o : Nat) (hb : b < N) (h : LenAt w n b o) : LenAt w' n b o := by
 obtain ⟨p, c, h1, h2⟩ := h
 exact ⟨p, c, (hw.cell hb).trans h1, h2⟩
structure InP where
 (pa pr : Option Addr) (na ca cr : Nat) (rows : List Nat)
def InP.v (t : InP) : Value := .agg #[.slice t.pa t.na t.ca, .slice t.pr t.rows.length t.cr]
structure InP.Ok (w : World) (N : Nat) (t : InP) : Prop where
 na : t.na ≤ 140737488355328
 rows : RowIn N (LenAt w) 1 t.rows t.pr
theorem InP.Ok.later {w w' : World} {N : Nat} {t : InP} (h : t.Ok w N) (hB : Below N w w') : t.Ok w' N := ⟨h.na, h.rows.imp (Nat.le_refl N) (LenAt.later hB)⟩
end Go.Proofs.YtihmibggonffdaaGreat
