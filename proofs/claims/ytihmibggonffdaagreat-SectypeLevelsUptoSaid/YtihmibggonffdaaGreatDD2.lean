/- The document's May, to the number. -/
import Derived.Test.YtihmibggonffdaaGreatDD
import Derived.Test.YtihmibggonffdaaGreatF1
namespace Go.Proofs.YtihmibggonffdaaGreat
open Go.RowKit

theorem mx_few {x : Prg} (h : x.few = false) : ((mayR x : Nat) : Int) = 13 := by unfold mayR; rw [h]; simp [ask, seq]
theorem mx_names {x : Prg} (hf : x.few = true) (h : namesB x = false) : ((mayR x : Nat) : Int) = 8 := by unfold mayR; rw [hf, h]; simp [ask, seq]
theorem mx_regs {x : Prg} (hf : x.few = true) (h : newB nz (rnm x.regs) = false) : ((mayR x : Nat) : Int) = 8 := mx_names hf (by
 cases hq : namesB x with
 | false => rfl
 | true => rw [newB_pre (names_new hq)] at h; cases h)
theorem mx_rcut {x : Prg} {ds r : List Rgn} {y : Rgn} (hf : x.few = true) (h : x.regs = ds ++ y :: r) (hn : (nameB y.name && !((rnm ds).any (fun z => z == y.name))) = false) : ((mayR x : Nat) : Int) = 8 :=
 mx_regs hf (by rw [h, show rnm (ds ++ y :: r) = rnm ds ++ y.name :: rnm r by simp [rnm]]; exact newB_cut hn)
theorem mx_name {x : Prg} {ds r : List Fnc} {y : Fnc} (hf : x.few = true) (h : x.fns = ds ++ y :: r) (hn : newB nz ((rnm x.regs ++ fnm ds) ++ [y.name]) = false) : ((mayR x : Nat) : Int) = 8 := mx_names hf (by
 cases hq : namesB x with
 | false => rfl
 | true =>
   have h1 := names_new hq
   rw [h, show rnm x.regs ++ fnm (ds ++ y :: r) = ((rnm x.regs ++ fnm ds) ++ [y.name]) ++ fnm r by simp [fnm]] at h1
   rw [newB_pre h1] at hn; cases hn)
theorem mx_var {x : Prg} {ds r : List Fnc} {y : Fnc} (hf : x.few = true) (h : x.fns = ds ++ y :: r) (hn : varN x y = false) : ((mayR x : Nat) : Int) = 8 := mx_names hf (by
 cases hq : namesB x with
 | false => rfl
 | true =>
   unfold namesB at hq
   have h2 := List.all_eq_true.1 (Bool.and_eq_true _ _ ▸ hq).2 y (by rw [h]; simp)
   rw [own_var, hn] at h2; cases h2)
theorem names_yes {x : Prg} (h2 : newB nz (rnm x.regs ++ fnm x.fns) = true) (h3 : ∀ f ∈ x.fns, varN x f = true) : namesB x = true := by
 unfold namesB; rw [h2, Bool.true_and]; exact List.all_eq_true.2 fun f hf => (own_var x f).trans (h3 f hf)
theorem mx_at {x : Prg} (hf : x.few = true) (h2 : newB nz (rnm x.regs ++ fnm x.fns) = true) (h3 : ∀ f ∈ x.fns, varN x f = true) (h : rgsAt [] x.regs = false) : ((mayR x : Nat) : Int) = 14 := by
 unfold mayR; rw [hf, names_yes h2 h3, h]; simp [ask, seq]
theorem mx_kind {x : Prg} {ds r : List Fnc} {y : Fnc} (hf : x.few = true) (h2 : newB nz (rnm x.regs ++ fnm x.fns) = true) (h3 : ∀ f ∈ x.fns, varN x f = true) (h4 : rgsAt [] x.regs = true) (h : x.fns = ds ++ y :: r) (hn : y.varsB = false) : ((mayR x : Nat) : Int) = 9 := by
 have hq : x.fns.all Fnc.varsB = false := all_cut h hn
 unfold mayR; rw [hf, names_yes h2 h3, h4, hq]; simp [ask, seq]
theorem bodies_cut (x : Prg) : ∀ (ds : List Fnc) (i : Nat) (y : Fnc) (r : List Fnc), (∀ k f, k < ds.length → ds[k]? = some f → bodyR x (i + k) f = 0) → bodyR x (i + ds.length) y ≠ 0 → bodiesR x i (ds ++ y :: r) = bodyR x (i + ds.length) y
 | [], i, y, r, _, hn => by
   simp only [List.nil_append, List.length_nil, Nat.add_zero] at hn ⊢
   rw [bodiesR]; unfold seq; rw [if_neg hn]
 | d :: ds, i, y, r, h, hn => by
   have h0 := h 0 d (by simp) (by simp)
   rw [Nat.add_zero] at h0
   rw [List.cons_append, bodiesR, h0]
   unfold seq
   rw [if_pos rfl, bodies_cut x ds (i + 1) y r (fun k f hk hf => by
     have := h (k + 1) f (by simpa using hk) (by simpa using hf)
     rw [show i + 1 + k = i + (k + 1) by omega]; exact this) (by rw [List.length_cons] at hn; rw [show i + 1 + ds.length = i + (ds.length + 1) by omega]; exact hn)]
   rw [List.length_cons, show i + 1 + ds.length = i + (ds.length + 1) by omega]
theorem mx_body {x : Prg} {ds r : List Fnc} {y : Fnc} (hf : x.few = true) (h2 : newB nz (rnm x.regs ++ fnm x.fns) = true) (h3 : ∀ f ∈ x.fns, varN x f = true) (h4 : rgsAt [] x.regs = true) (h5 : ∀ f ∈ x.fns, f.varsB = true) (h6 : ∀ k f, k < ds.length → x.fns[k]? = some f → bodyR x k f = 0) (h : x.fns = ds ++ y :: r) {v : Nat} (hv : bodyR x ds.length y = v) (hn : v ≠ 0) : ((mayR x : Nat) : Int) = (v : Int) := by
 have hb : bodiesR x 0 x.fns = v := by
   rw [h, bodies_cut x ds 0 y r (fun k f hk hf => by rw [Nat.zero_add]; exact h6 k f hk (by rw [h, List.getElem?_append_left hk]; exact hf)) (by rw [Nat.zero_add, hv]; exact hn), Nat.zero_add, hv]
 have e : mayR x = v := by
   unfold mayR; rw [hf, names_yes h2 h3, h4, List.all_eq_true.2 h5, hb]; simp [ask, seq]
 rw [e]
set_option maxRecDepth 100000 in
set_option maxHeartbeats 25600000 in
theorem rmay2_any (x : Prg) (s : PrgP) (N : Nat) (w : World) (h : x.Ok w N s.p s.q) (hN : N ≤ w.heap.size) (hbig : fnsBig x.fns ≤ 4000000) :
   Calls Tryz.prog 9 #[x.v s] w fun z w' => z = .returned (.int .i64 ((mayR x : Nat) : Int)) ∧ Below w.heap.size w w' := by
 obtain ⟨i0, hi0, hz0', hz1, hz2⟩ := info_parts infoStr
 obtain ⟨p, q, c, d⟩ := s
 obtain ⟨W0, hW0, k0, hB0, hz0⟩ := one_alloc w (.cells #[.slice p x.regs.length c, .slice q x.fns.length d] 25)
 have HU := Lib.hid (fun (W : World) (hB : Below W0.heap.size W0 W) => show Below w.heap.size w W from hB0.trans (hB.mono (by omega)))
 have HP := Lib.hid (fun (W : World) (hB : Below W0.heap.size W0 W) => show W.cell? ⟨w.heap.size, 0, none⟩ = some (.slice p x.regs.length c) ∧ W.cell? ⟨w.heap.size, 1, none⟩ = some (.slice q x.fns.length d) from
   ⟨cell_blk ((hB.block _ (lt_blk k0)).trans k0) rfl, cell_blk ((hB.block _ (lt_blk k0)).trans k0) rfl⟩)
 obtain ⟨b, o, hp, hb, ha⟩ := Row.start h.1
 obtain ⟨b', o', hq, hb', ha'⟩ := Row.start h.2
 have hm := h.1.1
 have hm' := h.2.1
 have HRg := Lib.hid (fun (W : World) (ds r : List Rgn) (y : Rgn) (hB : Below w.heap.size w W) (hE : x.regs = ds ++ y :: r) => show p = some ⟨b, o, none⟩ ∧ W.cell? ⟨b, o + ds.length * 4, none⟩ = some (.string (str y.name)) ∧ W.cell? ⟨b, o + ds.length * 4 + 1, none⟩ = some (.int .i64 y.addr) ∧ W.cell? ⟨b, o + ds.length * 4 + 2, none⟩ = some (.int .i64 y.size) ∧ W.cell? ⟨b, o + ds.length * 4 + 3, none⟩ = some (.bool y.secret) from by
   have hlt : ds.length < x.regs.length := by rw [hE]; simp
   have h1 := Row.get (i := ds.length) (x := y) ha (by rw [hE]; simp)
   refine ⟨by rcases hp with h0 | h0; (· omega); (· exact h0), Rgn.At.later hB y b _ (by omega) h1⟩)
 have HFn := Lib.hid (fun (W : World) (ds r : List Fnc) (y : Fnc) (hB : Below w.heap.size w W) (hE : x.fns = ds ++ y :: r) => show ∃ sg : FncP, q = some ⟨b', o', none⟩ ∧ W.cell? ⟨b', o' + ds.length * 5, none⟩ = some (.string (str y.name)) ∧ W.cell? ⟨b', o' + ds.length * 5 + 1, none⟩ = some (.slice sg.pp y.params.length sg.cp) ∧ W.cell? ⟨b', o' + ds.length * 5 + 2, none⟩ = some (.slice sg.pv y.vars.length sg.cv) ∧ W.cell? ⟨b', o' + ds.length * 5 + 3, none⟩ = some (.slice sg.pr y.rets.length sg.cr) ∧ W.cell? ⟨b', o' + ds.length * 5 + 4, none⟩ = some (.slice sg.pb y.body.len sg.cb) ∧ y.Ok W N sg from by
   have hlt : ds.length < x.fns.length := by rw [hE]; simp
   obtain ⟨sg, e0, e1, e2, e3, e4, hok⟩ := Fnc.At.all (Row.get (i := ds.length) (x := y) ha' (by rw [hE]; simp))
   have hbw : b' < w.heap.size := by omega
   refine ⟨sg, ?_, (hB.cell (p := ⟨b', _, none⟩) hbw).trans e0, (hB.cell (p := ⟨b', _, none⟩) hbw).trans e1, (hB.cell (p := ⟨b', _, none⟩) hbw).trans e2, (hB.cell (p := ⟨b', _, none⟩) hbw).trans e3, (hB.cell (p := ⟨b', _, none⟩) hbw).trans e4, hok.later (hB.mono hN) (Nat.le_refl N)⟩
   rcases hq with h0 | h0
   · omega
   · exact h0)
 have HBg := Lib.hid (fun (f : Fnc) (hf : f ∈ x.fns) => show f.params.length + f.vars.length ≤ 4000000 ∧ f.rets.length ≤ 4000000 ∧ f.body.big ≤ 4000000 by have := fnsBig_mem x.fns f hf; omega)
 have HVa := Lib.hid (fun (W : World) (y : Fnc) (sg : FncP) (hB : Below w.heap.size w W) (hok : y.Ok W N sg) (hb : y.params.length + y.vars.length ≤ 4000000) => rvars_any y sg N W hok (Nat.le_trans hN hB.size) hb)
 have HSm := Lib.hid (fun (W : World) (i : Nat) (y : Fnc) (sg : FncP) (hB : Below w.heap.size w W) (hi : x.fns[i]? = some y) (hok : y.Ok W N sg) => rstmts7_any x ⟨p, q, c, d⟩ i y y.body sg.pb sg.cb N W (h.later (hB.mono hN) (Nat.le_refl N)) (Nat.le_trans hN hB.size) hi (by have := HBg.out y (List.mem_of_getElem? hi); omega) (by have := HBg.out y (List.mem_of_getElem? hi); omega) hok.2.2.2)
 have HSz := Lib.hid (rsize_any x ⟨p, q, c, d⟩ N W0 (h.later (hB0.mono hN) (Nat.le_refl N)) (by omega) hbig)
 have HNo := Lib.hid (fun (r : Int) (W : World) (_ : r ≠ 0) (hm : ((mayR x : Nat) : Int) = r) (hB : Below W0.heap.size W0 W) => show Ending.returned (.int .i64 r) = .returned (.int .i64 ((mayR x : Nat) : Int)) ∧ Below w.heap.size w W from ⟨by rw [hm], HU.out W hB⟩)
 have HOK := Lib.hid (fun (W : World) (hm : mayR x = 0) (hB : Below W0.heap.size W0 W) => show Ending.returned (.int .i64 0) = .returned (.int .i64 ((mayR x : Nat) : Int)) ∧ Below w.heap.size w W from ⟨by rw [hm]; rfl, HU.out W hB⟩)
 have HW0 := Lib.hid hW0
 have HNN := Lib.hid (And.intro hN (show w.heap.size ≤ W0.heap.size by omega))
 obtain ⟨p0, p1⟩ := HP.out _ (Below.refl _ _)
 have HB0 := Lib.hid (Below.refl W0.heap.size W0)
 unfold Prg.v at HSz ⊢
 unfold Fnc.v at HVa
 clear hW0 k0 hB0 hz0 h hp hq hb hb' ha ha' hN hbig
 go_enter Tryz.func9, Tryz.ntmps9
 go_upto_region 1 with fail
 rw [HW0.out]
 by_cases a1 : 16 < x.regs.length
 · have f1 : decide ((16 : Int) < ((x.regs.length : Nat) : Int)) = true := decide_eq_true (by omega)
   have HV := Lib.hid (HNo.out 13 _ (by decide) (mx_few (few_bad (.inl a1))) HB0.out)
   go_wp2_with fail
   go_ret
   exact HV.out
 have f1 : decide ((16 : Int) < ((x.regs.length : Nat) : Int)) = false := decide_eq_false (by omega)
 by_cases a2 : x.fns.length < 1
 · have f2 : decide (((x.fns.length : Nat) : Int) < 1) = true := decide_eq_true (by omega)
   have HV := Lib.hid (HNo.out 13 _ (by decide) (mx_few (few_bad (.inr (.inl a2)))) HB0.out)
   go_wp2_with fail
   go_ret
   exact HV.out
 have f2 : decide (((x.fns.length : Nat) : Int) < 1) = false := decide_eq_false (by omega)
 by_cases a3 : 32 < x.fns.length
 · have f3 : decide ((32 : Int) < ((x.fns.length : Nat) : Int)) = true := decide_eq_true (by omega)
   have HV := Lib.hid (HNo.out 13 _ (by decide) (mx_few (few_bad (.inr (.inr (.inl a3))))) HB0.out)
   go_wp2_with fail
   go_ret
   exact HV.out
 have f3 : decide ((32 : Int) < ((x.fns.length : Nat) : Int)) = false := decide_eq_false (by omega)
 obtain ⟨v, hv⟩ : ∃ v, v = cap x.total := ⟨_, rfl⟩
 rw [← hv] at HSz
 have HCp := Lib.hid hv
 clear hv
 go_wp2_with fail
 refine HSz.out.mono ?_
 rintro z w1 ⟨rfl, hB1⟩
 have HB1 := Lib.hid hB1
 clear hB1 p0 p1 HSz HW0
 by_cases a4 : 65536 < v
 · have f4 : decide ((65536 : Int) < ((v : Nat) : Int)) = true := decide_eq_true (by omega)
   have HV := Lib.hid (HNo.out 13 _ (by decide) (mx_few (few_bad (.inr (.inr (.inr (by have h1 := HCp.out; unfold cap at h1; split at h1 <;> omega)))))) HB1.out)
   go_wp2_with fail
   go_ret
   exact HV.out
 have f4 : decide ((65536 : Int) < ((v : Nat) : Int)) = false := decide_eq_false (by omega)
 have HT := Lib.hid (show x.regs.length ≤ 16 ∧ 1 ≤ x.fns.length ∧ x.fns.length ≤ 32 ∧ x.total ≤ 65536 from ⟨by omega, by omega, by omega, by have h1 := HCp.out; unfold cap at h1; split at h1 <;> omega⟩)
 go_upto_block 0 with fail
 clear f1 f2 f3 f4 a1 a2 a3 a4 HCp
 go_cut [3] from 28 to 71 (fun s3 wx => Hid (x.regs.all Rgn.few = true) ∧ Hid (wx = w1))
 case first => as_aux_lemma =>
   go_wp2_with fail
   go_loopw [3] (fun i wr => ∃ (ds r : List Rgn), i = .int .i64 ds.length ∧ ds.length + r.length = x.regs.length ∧ Hid (x.regs = ds ++ r) ∧ Hid (ds.all Rgn.few = true) ∧ wr = w1) (fun i _ => x.regs.length - (intOf i).toNat)
   case atStart => exact ⟨[], x.regs, rfl, by simp, Lib.hid rfl, Lib.hid rfl, rfl⟩
   case round =>
     obtain ⟨ds, r, rfl, hk, hds, hE, rfl⟩ := hrel
     obtain ⟨p0, p1⟩ := HP.out _ HB1.out
     cases r with
     | nil =>
       simp only [List.length_nil] at hk
       have hge : ¬ ds.length < x.regs.length := by omega
       have HV := Lib.hid (show x.regs.all Rgn.few = true by rw [hds.out, List.append_nil]; exact hE.out)
       clear hE
       go_wp2_with fail
       go_meet
       exact ⟨HV, Lib.hid rfl⟩
     | cons y r =>
       simp only [List.length_cons] at hk
       have hlt : ds.length < x.regs.length := by omega
       obtain ⟨hp, e0, e1, e2, e3⟩ := HRg.out _ ds r y (HU.out _ HB1.out) hds.out
       cases hp
       have HFw := Lib.hid (show y.few = (!decide (y.size < 1) && !decide (512 < y.size)) from few_lt y.size)
       generalize f1 : decide (y.size < 1) = t1 at HFw
       generalize f2 : decide (512 < y.size) = t2 at HFw
       cases t1
       · cases t2
         · have HE2 := Lib.hid (all_one hE.out (by rw [HFw.out]; rfl))
           clear hE
           go_wp2_with fail
           go_roundw
           case rel => exact ⟨ds ++ [y], r, by rw [List.length_append]; go_num, by simp; omega, Lib.hid (by rw [hds.out]; simp), HE2, trivial⟩
           case measure => simp [intOf]; omega
         · have HV := Lib.hid (HNo.out 13 _ (by decide) (mx_few (few_no_regs (all_cut hds.out (by rw [HFw.out]; rfl)))) HB1.out)
           go_wp2_with fail
           go_ret
           exact HV.out
       · have HV := Lib.hid (HNo.out 13 _ (by decide) (mx_few (few_no_regs (all_cut hds.out (by rw [HFw.out]; rfl)))) HB1.out)
         go_wp2_with fail
         go_ret
         exact HV.out
 case rest =>
 obtain ⟨K1, hwx⟩ := hcut
 obtain rfl := hwx.out
 clear hwx
 go_upto_block 2 with fail
 go_cut [4, 5, 6] from 72 to 133 (fun s4 s5 s6 wx => Hid (x.fns.all Fnc.few = true) ∧ Hid (Below W0.heap.size W0 wx))
 case first => as_aux_lemma =>
   go_wp2_with fail
   go_loopw [4, 5, 6] (fun i s5 s6 wr => ∃ (ds r : List Fnc), i = .int .i64 ds.length ∧ ds.length + r.length = x.fns.length ∧ Hid (x.fns = ds ++ r) ∧ Hid (ds.all Fnc.few = true) ∧ Hid (Below W0.heap.size W0 wr)) (fun i _ _ _ => x.fns.length - (intOf i).toNat)
   case atStart => exact ⟨[], x.fns, rfl, by simp, Lib.hid rfl, Lib.hid rfl, HB1⟩
   case round =>
     obtain ⟨ds, r, rfl, hk, hds, hE, hB⟩ := hrel
     obtain ⟨p0, p1⟩ := HP.out _ hB.out
     cases r with
     | nil =>
       simp only [List.length_nil] at hk
       have hge : ¬ ds.length < x.fns.length := by omega
       have HV := Lib.hid (show x.fns.all Fnc.few = true by rw [hds.out, List.append_nil]; exact hE.out)
       clear hE
       go_wp2_with fail
       go_meet
       exact ⟨HV, hB⟩
     | cons y r =>
       simp only [List.length_cons] at hk
       have hlt : ds.length < x.fns.length := by omega
       obtain ⟨sg, hq, e0, e1, e2, e3, e4, hok⟩ := HFn.out _ ds r y (HU.out _ hB.out) hds.out
       cases hq
       have hby := HBg.out y (by rw [hds.out]; simp)
       have HV := Lib.hid (HVa.out wr y sg (HU.out _ hB.out) hok hby.1)
       have HFw := Lib.hid (fnc_few y)
       obtain ⟨l, hl⟩ : ∃ l, l = y.params ++ y.vars := ⟨_, rfl⟩
       rw [← hl] at HV HFw
       have hll : l.length ≤ 4000000 := by rw [hl, List.length_append]; omega
       have hrl := hby.2.1
       clear hok hl hby
       go_wp2_with fail
       refine HV.out.mono ?_
       rintro z w2 ⟨pl, cl, rfl, hrow, hB2⟩
       obtain ⟨b4, o4, hp4, hb4, ha4⟩ := Row.start hrow
       have HA4 := Lib.hid (And.intro ha4 hb4)
       have HB2 := Lib.hid (hB.out.trans (hB2.mono hB.out.size))
       clear e0 e1 e2 e3 e4 p0 p1 HV hB2 hrow ha4 hb4
       obtain ⟨p0, p1⟩ := HP.out _ HB2.out
       obtain ⟨sg', _, _, _, _, e3, _, _⟩ := HFn.out _ ds r y (HU.out _ HB2.out) hds.out
       have HNf := Lib.hid (fun (hf : y.few = false) => HNo.out 13 _ (by decide) (mx_few (few_no_fns (all_cut hds.out hf))) HB2.out)
       by_cases a1 : 64 < l.length
       · have f1 : decide ((64 : Int) < ((l.length : Nat) : Int)) = true := decide_eq_true (by omega)
         have HV := Lib.hid (HNf.out (by rw [HFw.out, decide_eq_true a1]; rfl))
         go_wp2_with fail
         go_ret
         exact HV.out
       have f1 : decide ((64 : Int) < ((l.length : Nat) : Int)) = false := decide_eq_false (by omega)
       by_cases a2 : 64 < y.rets.length
       · have f2 : decide ((64 : Int) < ((y.rets.length : Nat) : Int)) = true := decide_eq_true (by omega)
         have HV := Lib.hid (HNf.out (by rw [HFw.out, decide_eq_true a2, decide_eq_false a1]; rfl))
         go_wp2_with fail
         go_ret
         exact HV.out
       have f2 : decide ((64 : Int) < ((y.rets.length : Nat) : Int)) = false := decide_eq_false (by omega)
       have HFx := Lib.hid (show y.few = l.all Vr.few by rw [HFw.out, decide_eq_false a1, decide_eq_false a2]; rfl)
       clear HFw
       go_wp2_with fail
       clear f1 f2 a1 a2 p0 p1 e3
       go_loopw [6] (fun j wx => ∃ (dv rv : List Vr), j = .int .i64 dv.length ∧ dv.length + rv.length = l.length ∧ Hid (l = dv ++ rv) ∧ Hid (dv.all Vr.few = true) ∧ wx = w2) (fun j _ => l.length - (intOf j).toNat)
       case atStart => exact ⟨[], l, rfl, by simp, Lib.hid rfl, Lib.hid rfl, rfl⟩
       case round =>
         obtain ⟨dv, rv, rfl, hk4, hdv, hE4, rfl⟩ := hrel
         cases rv with
         | nil =>
           simp only [List.length_nil] at hk4
           have hge4 : ¬ dv.length < l.length := by omega
           have HE2 := Lib.hid (all_one hE.out (show y.few = true by rw [HFx.out, hdv.out, List.append_nil]; exact hE4.out))
           clear hE hE4
           go_wp2_with fail
           go_roundw
           case rel => exact ⟨ds ++ [y], r, by rw [List.length_append]; go_num, by simp; omega, Lib.hid (by rw [hds.out]; simp), HE2, HB2⟩
           case measure => simp [intOf]; omega
         | cons v rv =>
           simp only [List.length_cons] at hk4
           have hlt4 : dv.length < l.length := by omega
           rcases hp4 with h0 | rfl
           · omega
           obtain ⟨d0, d1, d2, d3⟩ := Row.get (i := dv.length) (x := v) HA4.out.1 (by rw [hdv.out]; simp)
           have HVf := Lib.hid (vr_few v)
           generalize f1 : (v.kind == 2) = t1 at HVf
           generalize f2 : (v.kind == 3) = t2 at HVf
           generalize f3 : decide (v.size < 1) = t3 at HVf
           generalize f4 : decide (512 < v.size) = t4 at HVf
           cases t1
           · skip
             cases t2
             · skip
               cases t3
               · skip
                 cases t4
                 · skip
                   have HE5 := Lib.hid (all_one hE4.out (by rw [HVf.out]; rfl))
                   clear hE4
                   go_wp2_with fail
                   go_roundw
                   case rel => exact ⟨dv ++ [v], rv, by rw [List.length_append]; go_num, by simp; omega, Lib.hid (by rw [hdv.out]; simp), HE5, trivial⟩
                   case measure => simp [intOf]; omega
                 · skip
                   have HE5 := Lib.hid (all_one hE4.out (by rw [HVf.out]; rfl))
                   clear hE4
                   go_wp2_with fail
                   go_roundw
                   case rel => exact ⟨dv ++ [v], rv, by rw [List.length_append]; go_num, by simp; omega, Lib.hid (by rw [hdv.out]; simp), HE5, trivial⟩
                   case measure => simp [intOf]; omega
               · skip
                 cases t4
                 · skip
                   have HE5 := Lib.hid (all_one hE4.out (by rw [HVf.out]; rfl))
                   clear hE4
                   go_wp2_with fail
                   go_roundw
                   case rel => exact ⟨dv ++ [v], rv, by rw [List.length_append]; go_num, by simp; omega, Lib.hid (by rw [hdv.out]; simp), HE5, trivial⟩
                   case measure => simp [intOf]; omega
                 · skip
                   have HE5 := Lib.hid (all_one hE4.out (by rw [HVf.out]; rfl))
                   clear hE4
                   go_wp2_with fail
                   go_roundw
                   case rel => exact ⟨dv ++ [v], rv, by rw [List.length_append]; go_num, by simp; omega, Lib.hid (by rw [hdv.out]; simp), HE5, trivial⟩
                   case measure => simp [intOf]; omega
             · skip
               cases t3
               · skip
                 cases t4
                 · skip
                   have HE5 := Lib.hid (all_one hE4.out (by rw [HVf.out]; rfl))
                   clear hE4
                   go_wp2_with fail
                   go_roundw
                   case rel => exact ⟨dv ++ [v], rv, by rw [List.length_append]; go_num, by simp; omega, Lib.hid (by rw [hdv.out]; simp), HE5, trivial⟩
                   case measure => simp [intOf]; omega
                 · skip
                   have HV := Lib.hid (HNf.out (by rw [HFx.out]; exact all_cut hdv.out (by rw [HVf.out]; rfl)))
                   go_wp2_with fail
                   go_ret
                   exact HV.out
               · skip
                 cases t4
                 · skip
                   have HV := Lib.hid (HNf.out (by rw [HFx.out]; exact all_cut hdv.out (by rw [HVf.out]; rfl)))
                   go_wp2_with fail
                   go_ret
                   exact HV.out
                 · skip
                   have HV := Lib.hid (HNf.out (by rw [HFx.out]; exact all_cut hdv.out (by rw [HVf.out]; rfl)))
                   go_wp2_with fail
                   go_ret
                   exact HV.out
           · skip
             cases t2
             · skip
               cases t3
               · skip
                 cases t4
                 · skip
                   have HE5 := Lib.hid (all_one hE4.out (by rw [HVf.out]; rfl))
                   clear hE4
                   go_wp2_with fail
                   go_roundw
                   case rel => exact ⟨dv ++ [v], rv, by rw [List.length_append]; go_num, by simp; omega, Lib.hid (by rw [hdv.out]; simp), HE5, trivial⟩
                   case measure => simp [intOf]; omega
                 · skip
                   have HV := Lib.hid (HNf.out (by rw [HFx.out]; exact all_cut hdv.out (by rw [HVf.out]; rfl)))
                   go_wp2_with fail
                   go_ret
                   exact HV.out
               · skip
                 cases t4
                 · skip
                   have HV := Lib.hid (HNf.out (by rw [HFx.out]; exact all_cut hdv.out (by rw [HVf.out]; rfl)))
                   go_wp2_with fail
                   go_ret
                   exact HV.out
                 · skip
                   have HV := Lib.hid (HNf.out (by rw [HFx.out]; exact all_cut hdv.out (by rw [HVf.out]; rfl)))
                   go_wp2_with fail
                   go_ret
                   exact HV.out
             · skip
               cases t3
               · skip
                 cases t4
                 · skip
                   have HE5 := Lib.hid (all_one hE4.out (by rw [HVf.out]; rfl))
                   clear hE4
                   go_wp2_with fail
                   go_roundw
                   case rel => exact ⟨dv ++ [v], rv, by rw [List.length_append]; go_num, by simp; omega, Lib.hid (by rw [hdv.out]; simp), HE5, trivial⟩
                   case measure => simp [intOf]; omega
                 · skip
                   have HV := Lib.hid (HNf.out (by rw [HFx.out]; exact all_cut hdv.out (by rw [HVf.out]; rfl)))
                   go_wp2_with fail
                   go_ret
                   exact HV.out
               · skip
                 cases t4
                 · skip
                   have HV := Lib.hid (HNf.out (by rw [HFx.out]; exact all_cut hdv.out (by rw [HVf.out]; rfl)))
                   go_wp2_with fail
                   go_ret
                   exact HV.out
                 · skip
                   have HV := Lib.hid (HNf.out (by rw [HFx.out]; exact all_cut hdv.out (by rw [HVf.out]; rfl)))
                   go_wp2_with fail
                   go_ret
                   exact HV.out
 case rest =>
 obtain ⟨K2, hBc⟩ := hcut
 have KF := Lib.hid (few_all HT.out.1 HT.out.2.1 HT.out.2.2.1 HT.out.2.2.2 K1.out K2.out)
 have hT1 := HT.out.1
 have hT3 := HT.out.2.2.1
 obtain ⟨wB, hwB⟩ : ∃ wB, wB = wc := ⟨_, rfl⟩
 rw [← hwB] at hBc
 rw [← hwB]
 clear hwB K1 K2
 go_upto_block 6 with fail
 go_cut [7, 8] from 134 to 167 (fun va s8 wx => Hid (newB nz (rnm x.regs) = true) ∧ Hid (OwnS wx W0.heap.size va (rnm x.regs)) ∧ Hid (Below W0.heap.size W0 wx))
 case first => as_aux_lemma =>
   go_wp2_with fail
   go_loopw [7, 8] (fun va i wr => ∃ (ds r : List Rgn) (T : List (List UInt8)), i = .int .i64 ds.length ∧ ds.length + r.length = x.regs.length ∧ Hid (T.length = ds.length) ∧ Hid (x.regs = ds ++ r) ∧ Hid (T = rnm ds) ∧ Hid (newB nz T = true) ∧ Hid (OwnS wr W0.heap.size va T) ∧ Hid (Below W0.heap.size W0 wr)) (fun _ i _ => x.regs.length - (intOf i).toNat)
   case atStart => exact ⟨[], x.regs, [], rfl, by simp, Lib.hid rfl, Lib.hid rfl, Lib.hid rfl, Lib.hid rfl, Lib.hid (own_nil0 _ _), hBc⟩
   case round =>
     obtain ⟨ds, r, T, rfl, hk, hTl, hds, hT, hE, hO, hB⟩ := hrel
     obtain ⟨p0, p1⟩ := HP.out _ hB.out
     cases r with
     | nil =>
       simp only [List.length_nil] at hk
       have hge : ¬ ds.length < x.regs.length := by omega
       have hTe : T = rnm x.regs := by rw [hT.out, hds.out, List.append_nil]
       have HV := Lib.hid (show newB nz (rnm x.regs) = true by rw [← hTe]; exact hE.out)
       have HO := Lib.hid (show OwnS wr W0.heap.size u7 (rnm x.regs) by rw [← hTe]; exact hO.out)
       clear hE hO hTe
       go_wp2_with fail
       go_meet
       exact ⟨HV, HO, hB⟩
     | cons y r =>
       simp only [List.length_cons] at hk
       have hlt : ds.length < x.regs.length := by omega
       obtain ⟨hp, e0, _, _, _⟩ := HRg.out _ ds r y (HU.out _ hB.out) hds.out
       cases hp
       obtain ⟨pa, ca, hva, hrow⟩ := own_strs hO.out (by have := hTl.out; omega)
       subst hva
       have HCn := Lib.hid (nm_eq y.name wr)
       have HRow := Lib.hid hrow
       have HX := Lib.hid (fun (hf : (nameB y.name && !(T.any (fun z => z == y.name))) = false) => mx_rcut KF.out hds.out (by rw [← hT.out]; exact hf))
       have HX2 := Lib.hid (newB_one T y.name)
       generalize nameB y.name = q1 at HCn HX HX2
       clear hrow
       go_wp2_with fail
       refine HCn.out.mono ?_
       rintro z w2 ⟨rfl, hB2⟩
       have HB2 := Lib.hid (hB.out.trans (hB2.mono hB.out.size))
       have HCh := Lib.hid (rhas_any T y.name pa ca _ w2 (HRow.out.imp hB2.size (StrAt.later hB2)))
       have HO2 := Lib.hid (own_later hO.out hB2)
       generalize T.any (fun z => z == y.name) = q2 at HCh HX HX2
       clear e0 p0 p1 hB2 HCn hO
       obtain ⟨p0, p1⟩ := HP.out _ HB2.out
       obtain ⟨_, e0, _, _, _⟩ := HRg.out _ ds r y (HU.out _ HB2.out) hds.out
       cases q1
       · have HV := Lib.hid (HNo.out 8 _ (by decide) (HX.out rfl) HB2.out)
         go_wp2_with fail
         go_ret
         exact HV.out
       cases q2
       rotate_left
       · have HV := Lib.hid (HNo.out 8 _ (by decide) (HX.out rfl) HB2.out)
         go_wp2_with fail
         refine HCh.out.mono ?_
         rintro z w3 ⟨rfl, hw⟩
         subst hw
         go_wp2_with fail
         go_ret
         exact HV.out
       go_wp2_with fail
       refine HCh.out.mono ?_
       rintro z w3 ⟨rfl, hw⟩
       subst hw
       obtain ⟨W1, hW1, k1, hB1', hz1'⟩ := one_alloc w2 (.cells #[.string (str y.name)] 9)
       have HOa := Lib.hid (own_later HO2.out hB1')
       have HBa := Lib.hid (HB2.out.trans (hB1'.mono HB2.out.size))
       have HSr := Lib.hid (src_one k1)
       clear k1 hB1' hz1' HO2 HCh
       go_wp2_with (at_builtin; refine wpList_app_at rfl _ _ 42 rfl W0.heap.size 9 i0 _ 1 16 Tryz.underlying42 hi0 hz0' hz1 hz2 rfl (by decide) _ T.length (strCells T) rfl HOa.out _ _ _ [.string (str y.name)] rfl HSr.out (one_oc y.name) (by have := hTl.out; unfold maxLen; omega) (by have := hTl.out; omega) HBa.out.size ?_; intro v' w4 hown hgrow hat)
       obtain ⟨T', hT'⟩ : ∃ T', T' = T ++ [y.name] := ⟨_, rfl⟩
       have HOb := Lib.hid (show OwnS w4 W0.heap.size v' T' by rw [hT']; unfold OwnS; rw [List.length_append, strc_app]; exact hown)
       have HBb := Lib.hid (below_grown HBa.out hgrow HBa.out.size HOa.out)
       have HTl' := Lib.hid (show T'.length = (ds ++ [y]).length by rw [hT', List.length_append, hTl.out, List.length_append]; rfl)
       have HT' := Lib.hid (show T' = rnm (ds ++ [y]) by rw [hT', hT.out, rnm_snoc])
       have HE' := Lib.hid (show newB nz T' = true by rw [hT', HX2.out, hE.out]; rfl)
       clear hown hgrow hat hT' HOa p0 p1 e0 hW1
       go_wp2_with fail
       go_roundw
       case rel => exact ⟨ds ++ [y], r, T', by rw [List.length_append]; go_num, by simp; omega, HTl', Lib.hid (by rw [hds.out]; simp), HT', HE', HOb, HBb⟩
       case measure => simp [intOf]; omega
 case rest =>
 obtain ⟨K3, hO, hBc⟩ := hcut
 obtain ⟨TR, hTR⟩ : ∃ TR, TR = rnm x.regs := ⟨_, rfl⟩
 have hTRl : TR.length ≤ 16 := by rw [hTR, rnm_len]; exact hT1
 rw [← hTR] at hO
 have HTR := Lib.hid hTR
 obtain ⟨pa, ca, hva, hrow⟩ := own_strs hO.out (by omega)
 subst hva
 have HSa := Lib.hid (str_src hrow)
 have HB6 := Lib.hid hBc.out
 clear hTR hrow
 go_upto_block 8 with (at_builtin; refine wpList_app_at rfl _ _ 42 rfl W0.heap.size 9 i0 _ 1 16 Tryz.underlying42 hi0 hz0' hz1 hz2 rfl (by decide) _ 0 [] rfl (World.ownsRow_nil _ _ _ _) _ _ _ (strCells TR) rfl HSa.out (strc_one TR) (by unfold maxLen; omega) (by omega) HB6.out.size ?_; intro v' w4 hown hgrow hat)
 have HB8 := Lib.hid (below_grown HB6.out hgrow HB6.out.size (World.ownsRow_nil wc W0.heap.size 9 1))
 have HTw := Lib.hid (show Two w4 W0.heap.size (.slice pa TR.length ca) TR v' TR from ⟨own_grown hO.out hgrow (fun j _ h => by cases h), by simpa [OwnS] using hown, fun j hj he => by
   rcases hat with e | e
   · rw [e] at he; cases he
   · rw [e] at he; cases he; have := (World.ownsRow.lt hO.out _ hj).2; omega⟩)
 clear hown hgrow hat hO HSa hBc
 go_cut [7, 10] from 168 to 203 (fun va s10 wx => Hid (newB nz (rnm x.regs ++ fnm x.fns) = true) ∧ Hid (OwnS wx W0.heap.size v' TR) ∧ Hid (Below W0.heap.size W0 wx))
 case first => as_aux_lemma =>
   go_wp2_with fail
   go_loopw [7, 10] (fun va i wr => ∃ (ds r : List Fnc) (T : List (List UInt8)), i = .int .i64 ds.length ∧ ds.length + r.length = x.fns.length ∧ Hid (T.length = x.regs.length + ds.length) ∧ Hid (x.fns = ds ++ r) ∧ Hid (T = rnm x.regs ++ fnm ds) ∧ Hid (newB nz T = true) ∧ Hid (Two wr W0.heap.size va T v' TR) ∧ Hid (Below W0.heap.size W0 wr)) (fun _ i _ => x.fns.length - (intOf i).toNat)
   case atStart => exact ⟨[], x.fns, TR, rfl, by simp, Lib.hid (by rw [HTR.out, rnm_len]; rfl), Lib.hid rfl, Lib.hid (by rw [HTR.out]; simp [fnm]), Lib.hid (by rw [HTR.out]; exact K3.out), HTw, HB8⟩
   case round =>
     obtain ⟨ds, r, T, rfl, hk, hTl, hds, hT, hE, hO, hB⟩ := hrel
     obtain ⟨p0, p1⟩ := HP.out _ hB.out
     cases r with
     | nil =>
       simp only [List.length_nil] at hk
       have hge : ¬ ds.length < x.fns.length := by omega
       have hTe : T = rnm x.regs ++ fnm x.fns := by rw [hT.out, hds.out, List.append_nil]
       have HV := Lib.hid (show newB nz (rnm x.regs ++ fnm x.fns) = true by rw [← hTe]; exact hE.out)
       have HO := Lib.hid hO.out.b
       clear hE hO hTe
       go_wp2_with fail
       go_meet
       exact ⟨HV, HO, hB⟩
     | cons y r =>
       simp only [List.length_cons] at hk
       have hlt : ds.length < x.fns.length := by omega
       obtain ⟨sg, hq, e0, _, _, _, _, _⟩ := HFn.out _ ds r y (HU.out _ hB.out) hds.out
       cases hq
       obtain ⟨pa, ca, hva, hrow⟩ := own_strs hO.out.a (by have := hTl.out; omega)
       subst hva
       have HCn := Lib.hid (nm_eq y.name wr)
       have HRow := Lib.hid hrow
       have HX := Lib.hid (fun (hf : newB nz (T ++ [y.name]) = false) => mx_name KF.out hds.out (by rw [← hT.out]; exact hf))
       have HX2 := Lib.hid (newB_one T y.name)
       generalize nameB y.name = q1 at HCn HX2
       clear hrow
       go_wp2_with fail
       refine HCn.out.mono ?_
       rintro z w2 ⟨rfl, hB2⟩
       have HB2 := Lib.hid (hB.out.trans (hB2.mono hB.out.size))
       have HCh := Lib.hid (rhas_any T y.name pa ca _ w2 (HRow.out.imp hB2.size (StrAt.later hB2)))
       have HO2 := Lib.hid (hO.out.later hB2)
       generalize T.any (fun z => z == y.name) = q2 at HCh HX2
       clear e0 p0 p1 hB2 HCn hO
       obtain ⟨p0, p1⟩ := HP.out _ HB2.out
       obtain ⟨sg2, _, e0, _, _, _, _, _⟩ := HFn.out _ ds r y (HU.out _ HB2.out) hds.out
       cases q1
       · have HV := Lib.hid (HNo.out 8 _ (by decide) (HX.out (by rw [HX2.out]; simp)) HB2.out)
         go_wp2_with fail
         go_ret
         exact HV.out
       cases q2
       rotate_left
       · have HV := Lib.hid (HNo.out 8 _ (by decide) (HX.out (by rw [HX2.out]; simp)) HB2.out)
         go_wp2_with fail
         refine HCh.out.mono ?_
         rintro z w3 ⟨rfl, hw⟩
         subst hw
         go_wp2_with fail
         go_ret
         exact HV.out
       go_wp2_with fail
       refine HCh.out.mono ?_
       rintro z w3 ⟨rfl, hw⟩
       subst hw
       obtain ⟨W1, hW1, k1, hB1', hz1'⟩ := one_alloc w2 (.cells #[.string (str y.name)] 9)
       have HOa := Lib.hid (HO2.out.later hB1')
       have HBa := Lib.hid (HB2.out.trans (hB1'.mono HB2.out.size))
       have HSr := Lib.hid (src_one k1)
       clear k1 hB1' hz1' HO2 HCh
       go_wp2_with (at_builtin; refine wpList_app_at rfl _ _ 42 rfl W0.heap.size 9 i0 _ 1 16 Tryz.underlying42 hi0 hz0' hz1 hz2 rfl (by decide) _ T.length (strCells T) rfl HOa.out.a _ _ _ [.string (str y.name)] rfl HSr.out (one_oc y.name) (by have := hTl.out; unfold maxLen; omega) (by have := hTl.out; omega) HBa.out.size ?_; intro vn w5 hown hgrow hat)
       obtain ⟨T', hT'⟩ : ∃ T', T' = T ++ [y.name] := ⟨_, rfl⟩
       have HOb := Lib.hid (HOa.out.app1 (show OwnS w5 W0.heap.size vn T' by rw [hT']; unfold OwnS; rw [List.length_append, strc_app]; exact hown) hgrow hat)
       have HBb := Lib.hid (below_grown HBa.out hgrow HBa.out.size HOa.out.a)
       have HTl' := Lib.hid (show T'.length = x.regs.length + (ds ++ [y]).length by rw [hT', List.length_append, hTl.out, List.length_append]; simp only [List.length_singleton]; omega)
       have HT' := Lib.hid (show T' = rnm x.regs ++ fnm (ds ++ [y]) by rw [hT', hT.out, fnm_snoc, List.append_assoc])
       have HE' := Lib.hid (show newB nz T' = true by rw [hT', HX2.out, hE.out]; rfl)
       clear hown hgrow hat hT' HOa p0 p1 e0 hW1
       go_wp2_with fail
       go_roundw
       case rel => exact ⟨ds ++ [y], r, T', by rw [List.length_append]; go_num, by simp; omega, HTl', Lib.hid (by rw [hds.out]; simp), HT', HE', HOb, HBb⟩
       case measure => simp [intOf]; omega
 case rest =>
 obtain ⟨K4, hO, hBc⟩ := hcut
 obtain ⟨wG, hwG⟩ : ∃ wG, wG = wc := ⟨_, rfl⟩
 rw [← hwG] at hO hBc
 rw [← hwG]
 clear hwG HTw HB8 HB6 K3
 obtain ⟨pR, cR, hvR, hrow⟩ := own_strs hO.out (by omega)
 subst hvR
 have HRR := Lib.hid (fun (W : World) (hB : Below wG.heap.size wG W) => show RowIn wG.heap.size (StrAt W) 1 TR pR from hrow.imp (Nat.le_refl _) (StrAt.later hB))
 have HBG := Lib.hid hBc.out
 have HUG := Lib.hid (fun (W : World) (hB : Below wG.heap.size wG W) => show Below W0.heap.size W0 W from HBG.out.trans (hB.mono HBG.out.size))
 clear hrow hO hBc
 go_upto_block 10 with fail
 go_cut [11, 12, 13, 14, 15, 16] from 204 to 305 (fun s11 s12 s13 s14 s15 s16 wx => Hid (∀ f ∈ x.fns, varN x f = true) ∧ Hid (Below W0.heap.size W0 wx))
 case first => as_aux_lemma =>
   go_wp2_with fail
   go_loopw [11, 12, 13, 14, 15, 16] (fun i s12 s13 s14 s15 s16 wr => ∃ (ds r : List Fnc), i = .int .i64 ds.length ∧ ds.length + r.length = x.fns.length ∧ Hid (x.fns = ds ++ r) ∧ Hid (∀ f ∈ ds, varN x f = true) ∧ Hid (Below wG.heap.size wG wr)) (fun i _ _ _ _ _ _ => x.fns.length - (intOf i).toNat)
   case atStart => exact ⟨[], x.fns, rfl, by simp, Lib.hid rfl, Lib.hid (fun _ h => by cases h), Lib.hid (Below.refl _ _)⟩
   case round =>
     obtain ⟨ds, r, rfl, hk, hds, hE, hB⟩ := hrel
     obtain ⟨p0, p1⟩ := HP.out _ (HUG.out _ hB.out)
     cases r with
     | nil =>
       simp only [List.length_nil] at hk
       have hge : ¬ ds.length < x.fns.length := by omega
       have HV := Lib.hid (show ∀ f ∈ x.fns, varN x f = true by rw [hds.out, List.append_nil]; exact hE.out)
       have HBe := Lib.hid (HUG.out _ hB.out)
       clear hE
       go_wp2_with fail
       go_meet
       exact ⟨HV, HBe⟩
     | cons y r =>
       simp only [List.length_cons] at hk
       have hlt : ds.length < x.fns.length := by omega
       obtain ⟨wo, rfl⟩ : ∃ wo : World, wo = wr := ⟨_, rfl⟩
       have hB_outer := Lib.hid hB.out
       obtain ⟨⟨fp, fv, fr, fb, fcp, fcv, fcr, fcb⟩, hq, e0, e1, e2, e3, e4, hok⟩ := HFn.out _ ds r y (HU.out _ (HUG.out _ hB.out)) hds.out
       cases hq
       have hym : y ∈ x.fns := by rw [hds.out]; simp
       have hby := HBg.out y hym
       have hfp := (few_parts KF.out).2.1 y hym
       have HV := Lib.hid (HVa.out wo y ⟨fp, fv, fr, fb, fcp, fcv, fcr, fcb⟩ (HU.out _ (HUG.out _ hB.out)) hok hby.1)
       obtain ⟨l, hl⟩ : ∃ l, l = y.params ++ y.vars := ⟨_, rfl⟩
       rw [← hl] at HV
       have hll : l.length ≤ 1000 := by rw [hl, List.length_append]; exact hfp
       have HL := Lib.hid hl
       have hrc : y.rets.length ≤ fcr := hok.2.2.1.1
       have hrm := hok.2.2.1.2.1
       obtain ⟨b6, o6, hp6, hb6, ha6⟩ := Row.start hok.2.2.1.2
       have hNo : N ≤ wo.heap.size := Nat.le_trans HNN.out.1 (Nat.le_trans HNN.out.2 (HUG.out _ hB.out).size)
       have HRt := Lib.hid (fun (W : World) (dr rr : List (List UInt8)) (nm : List UInt8) (hB : Below wo.heap.size wo W) (hE : y.rets = dr ++ nm :: rr) => show fr = some ⟨b6, o6, none⟩ ∧ W.cell? ⟨b6, o6 + dr.length, none⟩ = some (.string (str nm)) from by
         have hlt : dr.length < y.rets.length := by rw [hE]; simp
         refine ⟨by rcases hp6 with h0 | h0; (· omega); (· exact h0), (hB.cell (p := ⟨b6, _, none⟩) (show b6 < wo.heap.size by omega)).trans (str_get ha6 hE)⟩)
       have HRp := Lib.hid (fun (W : World) (dr rr : List (List UInt8)) (nm : List UInt8) (hB : Below wo.heap.size wo W) (hE : y.rets = dr ++ rr) => rhas_any dr nm fr fcr N W ((hok.2.2.1.2.imp (Nat.le_refl N) (StrAt.later (hB.mono hNo))).pre hE))
       have HE3 := Lib.hid (fun (W : World) (hB : Below wo.heap.size wo W) => show W.cell? ⟨b', o' + ds.length * 5 + 3, none⟩ = some (.slice fr y.rets.length fcr) from (hB.cell (p := ⟨b', _, none⟩) (World.block_lt_of_cell? _ _ e3)).trans e3)
       have HDs := Lib.hid (fun (hf : varN x y = false) (W : World) (hB : Below W0.heap.size W0 W) => HNo.out 8 W (by decide) (mx_var KF.out hds.out hf) hB)
       have HDk := Lib.hid hds.out
       clear hok hl hby hfp hym hb6 ha6
       go_wp2_with fail
       refine HV.out.mono ?_
       rintro z w2 ⟨pl, cl, rfl, hrow, hB2⟩
       obtain ⟨b4, o4, hp4, hb4, ha4⟩ := Row.start hrow
       have HA4 := Lib.hid (And.intro ha4 hb4)
       have HBo := Lib.hid hB2
       have HB2 := Lib.hid (hB.out.trans (hB2.mono hB.out.size))
       have HSR := Lib.hid (str_src (HRR.out w2 HB2.out))
       clear e0 e1 e2 e3 e4 p0 p1 HV hB2 hrow ha4 hb4
       go_wp2_with (at_builtin; refine wpList_app_at rfl _ _ 42 rfl w2.heap.size 9 i0 _ 1 16 Tryz.underlying42 hi0 hz0' hz1 hz2 rfl (by decide) _ 0 [] rfl (World.ownsRow_nil _ _ _ _) _ _ _ (strCells TR) rfl HSR.out (strc_one TR) (by unfold maxLen; omega) (by omega) (Nat.le_refl _) ?_; intro vs w3 hown hgrow hat)
       have HT3 := Lib.hid (show Two w3 w2.heap.size vs TR (.slice none 0 0) [] from ⟨by simpa [OwnS] using hown, own_nil0 _ _, fun j _ h => by cases h⟩)
       have HB3 := Lib.hid (below_grown (Below.refl w2.heap.size w2) hgrow (Nat.le_refl _) (World.ownsRow_nil w2 w2.heap.size 9 1))
       have HD := Lib.hid (fun (W : World) (dv rv : List Vr) (v : Vr) (hB : Below w2.heap.size w2 W) (hE : l = dv ++ v :: rv) => show pl = some ⟨b4, o4, none⟩ ∧ W.cell? ⟨b4, o4 + dv.length * 4, none⟩ = some (.string (str v.name)) ∧ W.cell? ⟨b4, o4 + dv.length * 4 + 1, none⟩ = some (.int .i64 v.kind) from by
         have hlt : dv.length < l.length := by rw [hE]; simp
         have h1 := Row.get (i := dv.length) (x := v) HA4.out.1 (by rw [hE]; simp)
         have h2 := Vr.At.later hB v b4 _ (by have := HA4.out.2; omega) h1
         exact ⟨by rcases hp4 with h0 | h0; (· omega); (· exact h0), h2.1, h2.2.1⟩)
       clear hown hgrow hat HSR hp4 HA4
       go_loopw [13, 14, 15] (fun vs' vw j wx => ∃ (dv rv : List Vr) (S Wd : List (List UInt8)), j = .int .i64 dv.length ∧ dv.length + rv.length = l.length ∧ Hid (S.length = TR.length + dv.length ∧ Wd.length ≤ dv.length) ∧ Hid (l = dv ++ rv) ∧ Hid (S = rnm x.regs ++ vnm dv) ∧ Hid (Wd = wnm dv) ∧ Hid (newB nz S = true) ∧ Hid (Two wx w2.heap.size vs' S vw Wd) ∧ Hid (Below w2.heap.size w2 wx)) (fun _ _ j _ => l.length - (intOf j).toNat)
       case atStart => exact ⟨[], l, TR, [], rfl, by simp, Lib.hid ⟨rfl, Nat.le_refl _⟩, Lib.hid rfl, Lib.hid (by rw [HTR.out]; simp [vnm]), Lib.hid rfl, Lib.hid (by rw [HTR.out]; exact newB_pre K4.out), HT3, HB3⟩
       case round =>
         obtain ⟨dv, rv, S, Wd, rfl, hk4, hLn, hdv, hS, hWd, hE4, hTw, hB4⟩ := hrel
         cases rv with
         | nil =>
           simp only [List.length_nil] at hk4
           have hge4 : ¬ dv.length < l.length := by omega
           obtain ⟨pw, cw, hvw, hroww⟩ := own_strs hTw.out.b (by have := hLn.out; omega)
           subst hvw
           have hde : dv = l := by rw [hdv.out, List.append_nil]
           have HWn := Lib.hid (fun (nm : List UInt8) (W : World) (hB : Below wr.heap.size wr W) => rhas_any Wd nm pw cw _ W (hroww.imp (Nat.le_refl _) (StrAt.later hB)))
           have HWq := Lib.hid (fun (nm : List UInt8) => show Wd.any (fun z => z == nm) = l.any (isWord nm) by rw [hWd.out, hde]; exact wnm_any l nm)
           have HNv := Lib.hid (show newB nz (rnm x.regs ++ vnm l) = true by rw [← hde, ← hS.out]; exact hE4.out)
           have HBw := Lib.hid (HBo.out.trans (hB4.out.mono HBo.out.size))
           obtain ⟨p0, p1⟩ := HP.out _ (HUG.out _ (hB.out.trans (HBw.out.mono hB.out.size)))
           have e3 := HE3.out _ HBw.out
           obtain ⟨w5, rfl⟩ : ∃ w5 : World, w5 = wr := ⟨_, rfl⟩
           clear hroww hTw hE4 hS hWd hLn hde hB4
           go_wp2_with fail
           clear p0 p1 e3
           go_loopw [16] (fun j wx => ∃ (dr rr : List (List UInt8)), j = .int .i64 dr.length ∧ dr.length + rr.length = y.rets.length ∧ Hid (y.rets = dr ++ rr) ∧ Hid (newB nz dr = true ∧ dr.all (fun s => l.any (isWord s)) = true) ∧ Hid (Below w5.heap.size w5 wx)) (fun j _ => y.rets.length - (intOf j).toNat)
           case atStart => exact ⟨[], y.rets, rfl, by simp, Lib.hid rfl, Lib.hid ⟨rfl, rfl⟩, Lib.hid (Below.refl _ _)⟩
           case round =>
             obtain ⟨dr, rr, rfl, hk6, hdr, hE6, hB6⟩ := hrel
             have HBo6 := Lib.hid (HBw.out.trans (hB6.out.mono HBw.out.size))
             obtain ⟨p0, p1⟩ := HP.out _ (HUG.out _ (hB.out.trans (HBo6.out.mono hB.out.size)))
             have e3 := HE3.out _ HBo6.out
             cases rr with
             | nil =>
               simp only [List.length_nil] at hk6
               have hge6 : ¬ dr.length < y.rets.length := by omega
               have HVn := Lib.hid (show varN x y = true from var_word HL.out HNv.out (by rw [hdr.out, List.append_nil]; exact hE6.out.1) (by rw [hdr.out, List.append_nil]; exact hE6.out.2))
               have HE2 := Lib.hid (show ∀ f ∈ ds ++ [y], varN x f = true from fun f hf => by
                 rcases List.mem_append.1 hf with h1 | h1
                 · exact hE.out f h1
                 · simp at h1; subst h1; exact HVn.out)
               have HBe := Lib.hid (hB.out.trans (HBo6.out.mono hB.out.size))
               clear hE6
               go_wp2_with fail
               go_roundw
               case rel => exact ⟨ds ++ [y], r, by rw [List.length_append]; go_num, by simp; omega, Lib.hid (by rw [hds.out]; simp), HE2, HBe⟩
               case measure => simp [intOf]; omega
             | cons nm rr =>
               simp only [List.length_cons] at hk6
               have hlt6 : dr.length < y.rets.length := by omega
               obtain ⟨hfr, _⟩ := HRt.out _ dr rr nm HBo6.out hdr.out
               cases hfr
               have hsl : dr.length ≤ fcr := by omega
               have hX : Below wr.heap.size wr wr.drew := (Below.refl _ _).drew
               have HXo := Lib.hid (fun (W : World) (hB : Below wr.heap.size wr W) => show Below wo.heap.size wo W from HBo6.out.trans (hB.mono HBo6.out.size))
               have HXw := Lib.hid (fun (W : World) (hB : Below wr.heap.size wr W) => show Below w5.heap.size w5 W from hB6.out.trans (hB.mono hB6.out.size))
               have HX0 := Lib.hid (fun (W : World) (hB : Below wr.heap.size wr W) => show Below W0.heap.size W0 W from HUG.out _ (hB_outer.out.trans ((HXo.out W hB).mono hB_outer.out.size)))
               have HC1 := Lib.hid (fun (W : World) (hB : Below wr.heap.size wr W) => HWn.out nm W (HXw.out W hB))
               have HC2 := Lib.hid (fun (W : World) (hB : Below wr.heap.size wr W) => HRp.out W dr (nm :: rr) nm (HXo.out W hB) hdr.out)
               have HQ1 := Lib.hid (HWq.out nm)
               have HBd1 := Lib.hid (fun (hf : l.any (isWord nm) = false) => ret_notin (x := x) hdr.out (by rw [← HL.out]; exact hf))
               have HBd2 := Lib.hid (fun (hf : dr.any (fun z => z == nm) = true) => ret_twice (x := x) hdr.out hf)
               have HN1 := Lib.hid (newB_one dr nm)
               have HWm := Lib.hid (fun (hf : l.any (isWord nm) = true) => word_name HNv.out hf)
               generalize q1e : Wd.any (fun z => z == nm) = q1 at HC1 HQ1
               generalize q2e : dr.any (fun z => z == nm) = q2 at HC2 HBd2 HN1
               clear q1e q2e
               go_upto_region 50 with fail
               clear p0 p1 e3
               cases q1
               · refine wp_region_held_drew (S := fun W => W.cell? ⟨w.heap.size, 1, none⟩ = some (.slice (some ⟨b', o', none⟩) x.fns.length d) ∧ W.cell? ⟨b', o' + ds.length * 5 + 3, none⟩ = some (.slice (some ⟨b6, o6, none⟩) y.rets.length fcr) ∧ W.cell? ⟨b6, o6 + dr.length, none⟩ = some (.string (str nm))) (by kernel_rfl) ?_ (fun hHeld => ?_)
                 · exact ⟨(HP.out _ (HX0.out _ hX)).2, HE3.out _ (HXo.out _ hX), (HRt.out _ dr rr nm (HXo.out _ hX) hdr.out).2⟩
                 refine tq 0 ?_
                 refine tq 1 ?_
                 refine tq 2 ?_
                 refine tq 3 ?_
                 refine tq 4 ?_
                 refine tq 5 ?_
                 refine tq 6 ?_
                 refine tq 7 ?_
                 refine tq 8 ?_
                 refine tq 9 ?_
                 refine wpAnyH_ready (rs := [10]) (by kernel_rfl) (by simp) ?_
                 refine rdy rfl (fun K hK => ?_) AllReadyH.nil
                 go_simp
                 refine (HC1.out _ hX).mono ?_
                 rintro z w9 ⟨rfl, hw⟩
                 subst hw
                 refine hK.out _ _ ?_ (fun hHeld => ?_)
                 · exact ⟨(HP.out _ (HX0.out _ hX)).2, HE3.out _ (HXo.out _ hX), (HRt.out _ dr rr nm (HXo.out _ hX) hdr.out).2⟩
                 clear hK K
                 try simp only [Act.put, List.setIfInBounds_toArray, List.set_cons_zero, List.set_cons_succ]
                 refine tq 11 ?_
                 refine tq 12 ?_
                 refine sq 13 ?_
                 refine sq 14 ?_
                 refine sq 15 ?_
                 refine sq 16 ?_
                 refine sq 17 ?_
                 refine sq 18 ?_
                 refine sq 19 ?_
                 refine sq 20 ?_
                 refine sq 21 ?_
                 refine sq 22 ?_
                 refine sq 23 ?_
                 refine sq 24 ?_
                 refine sq 25 ?_
                 refine sq 26 ?_
                 refine sq 27 ?_
                 refine sq 28 ?_
                 refine sq 29 ?_
                 refine sq 30 ?_
                 refine tq 31 ?_
                 refine wpAnyH_done (by kernel_rfl) ?_ _
                 have HV := Lib.hid (HDs.out (HBd1.out HQ1.out.symm) _ (HX0.out _ hX))
                 go_wp2_with fail
                 go_ret
                 exact HV.out
               · cases q2
                 · refine wp_region_held_drew (S := fun W => W.cell? ⟨w.heap.size, 1, none⟩ = some (.slice (some ⟨b', o', none⟩) x.fns.length d) ∧ W.cell? ⟨b', o' + ds.length * 5 + 3, none⟩ = some (.slice (some ⟨b6, o6, none⟩) y.rets.length fcr) ∧ W.cell? ⟨b6, o6 + dr.length, none⟩ = some (.string (str nm))) (by kernel_rfl) ?_ (fun hHeld => ?_)
                   · exact ⟨(HP.out _ (HX0.out _ hX)).2, HE3.out _ (HXo.out _ hX), (HRt.out _ dr rr nm (HXo.out _ hX) hdr.out).2⟩
                   refine tq 0 ?_
                   refine tq 1 ?_
                   refine tq 2 ?_
                   refine tq 3 ?_
                   refine tq 4 ?_
                   refine tq 5 ?_
                   refine tq 6 ?_
                   refine tq 7 ?_
                   refine tq 8 ?_
                   refine tq 9 ?_
                   refine wpAnyH_ready (rs := [10]) (by kernel_rfl) (by simp) ?_
                   refine rdy rfl (fun K hK => ?_) AllReadyH.nil
                   go_simp
                   refine (HC1.out _ hX).mono ?_
                   rintro z w9 ⟨rfl, hw⟩
                   subst hw
                   refine hK.out _ _ ?_ (fun hHeld => ?_)
                   · exact ⟨(HP.out _ (HX0.out _ hX)).2, HE3.out _ (HXo.out _ hX), (HRt.out _ dr rr nm (HXo.out _ hX) hdr.out).2⟩
                   clear hK K
                   try simp only [Act.put, List.setIfInBounds_toArray, List.set_cons_zero, List.set_cons_succ]
                   refine tq 11 ?_
                   refine tq 12 ?_
                   refine tq 13 ?_
                   refine tq 14 ?_
                   refine tq 15 ?_
                   refine tq 16 ?_
                   refine tq 17 ?_
                   refine tq 18 ?_
                   refine tq 19 ?_
                   refine tq 20 ?_
                   refine tq 21 ?_
                   refine tq 22 ?_
                   refine tq 23 ?_
                   refine tq 24 ?_
                   refine tq 25 ?_
                   refine tq 26 ?_
                   refine tq 27 ?_
                   refine tq 28 ?_
                   refine tq 29 ?_
                   refine wpAnyH_ready (rs := [30]) (by kernel_rfl) (by simp) ?_
                   refine rdy rfl (fun K hK => ?_) AllReadyH.nil
                   go_simp
                   refine (HC2.out _ hX).mono ?_
                   rintro z w9 ⟨rfl, hw⟩
                   subst hw
                   refine hK.out _ _ ?_ (fun hHeld => ?_)
                   · exact ⟨(HP.out _ (HX0.out _ hX)).2, HE3.out _ (HXo.out _ hX), (HRt.out _ dr rr nm (HXo.out _ hX) hdr.out).2⟩
                   clear hK K
                   try simp only [Act.put, List.setIfInBounds_toArray, List.set_cons_zero, List.set_cons_succ]
                   refine tq 31 ?_
                   refine wpAnyH_done (by kernel_rfl) ?_ _
                   have HBn := Lib.hid (HXw.out _ hX)
                   have HE7 := Lib.hid (show newB nz (dr ++ [nm]) = true ∧ (dr ++ [nm]).all (fun s => l.any (isWord s)) = true from ⟨by rw [HN1.out, hE6.out.1, HWm.out HQ1.out.symm]; rfl, all_one hE6.out.2 HQ1.out.symm⟩)
                   clear hE6 hX
                   go_wp2_with fail
                   go_roundw
                   case rel => exact ⟨dr ++ [nm], rr, by rw [List.length_append]; go_num, by simp; omega, Lib.hid (by rw [hdr.out]; simp), HE7, HBn⟩
                   case measure => simp [intOf]; omega
                 · refine wp_region_held_drew (S := fun W => W.cell? ⟨w.heap.size, 1, none⟩ = some (.slice (some ⟨b', o', none⟩) x.fns.length d) ∧ W.cell? ⟨b', o' + ds.length * 5 + 3, none⟩ = some (.slice (some ⟨b6, o6, none⟩) y.rets.length fcr) ∧ W.cell? ⟨b6, o6 + dr.length, none⟩ = some (.string (str nm))) (by kernel_rfl) ?_ (fun hHeld => ?_)
                   · exact ⟨(HP.out _ (HX0.out _ hX)).2, HE3.out _ (HXo.out _ hX), (HRt.out _ dr rr nm (HXo.out _ hX) hdr.out).2⟩
                   refine tq 0 ?_
                   refine tq 1 ?_
                   refine tq 2 ?_
                   refine tq 3 ?_
                   refine tq 4 ?_
                   refine tq 5 ?_
                   refine tq 6 ?_
                   refine tq 7 ?_
                   refine tq 8 ?_
                   refine tq 9 ?_
                   refine wpAnyH_ready (rs := [10]) (by kernel_rfl) (by simp) ?_
                   refine rdy rfl (fun K hK => ?_) AllReadyH.nil
                   go_simp
                   refine (HC1.out _ hX).mono ?_
                   rintro z w9 ⟨rfl, hw⟩
                   subst hw
                   refine hK.out _ _ ?_ (fun hHeld => ?_)
                   · exact ⟨(HP.out _ (HX0.out _ hX)).2, HE3.out _ (HXo.out _ hX), (HRt.out _ dr rr nm (HXo.out _ hX) hdr.out).2⟩
                   clear hK K
                   try simp only [Act.put, List.setIfInBounds_toArray, List.set_cons_zero, List.set_cons_succ]
                   refine tq 11 ?_
                   refine tq 12 ?_
                   refine tq 13 ?_
                   refine tq 14 ?_
                   refine tq 15 ?_
                   refine tq 16 ?_
                   refine tq 17 ?_
                   refine tq 18 ?_
                   refine tq 19 ?_
                   refine tq 20 ?_
                   refine tq 21 ?_
                   refine tq 22 ?_
                   refine tq 23 ?_
                   refine tq 24 ?_
                   refine tq 25 ?_
                   refine tq 26 ?_
                   refine tq 27 ?_
                   refine tq 28 ?_
                   refine tq 29 ?_
                   refine wpAnyH_ready (rs := [30]) (by kernel_rfl) (by simp) ?_
                   refine rdy rfl (fun K hK => ?_) AllReadyH.nil
                   go_simp
                   refine (HC2.out _ hX).mono ?_
                   rintro z w9 ⟨rfl, hw⟩
                   subst hw
                   refine hK.out _ _ ?_ (fun hHeld => ?_)
                   · exact ⟨(HP.out _ (HX0.out _ hX)).2, HE3.out _ (HXo.out _ hX), (HRt.out _ dr rr nm (HXo.out _ hX) hdr.out).2⟩
                   clear hK K
                   try simp only [Act.put, List.setIfInBounds_toArray, List.set_cons_zero, List.set_cons_succ]
                   refine tq 31 ?_
                   refine wpAnyH_done (by kernel_rfl) ?_ _
                   have HV := Lib.hid (HDs.out (HBd2.out rfl) _ (HX0.out _ hX))
                   go_wp2_with fail
                   go_ret
                   exact HV.out
         | cons v rv =>
           simp only [List.length_cons] at hk4
           have hlt4 : dv.length < l.length := by omega
           obtain ⟨hpl, d0, _⟩ := HD.out _ dv rv v hB4.out hdv.out
           cases hpl
           obtain ⟨pa, ca, hva, hrow⟩ := own_strs hTw.out.a (by have := hLn.out; omega)
           subst hva
           have HUo := Lib.hid (fun (W : World) (hB : Below w2.heap.size w2 W) => show Below W0.heap.size W0 W from HUG.out _ (hB_outer.out.trans ((HBo.out.trans (hB.mono HBo.out.size)).mono hB_outer.out.size)))
           have HCn := Lib.hid (nm_eq v.name wr)
           have HRow := Lib.hid hrow
           have HXc := Lib.hid (fun (hf : (nameB v.name && !(S.any (fun z => z == v.name))) = false) => var_cut (x := x) (f := y) (by rw [← HL.out]; exact hdv.out) (by rw [← hS.out]; exact hf))
           have HX2 := Lib.hid (newB_one S v.name)
           generalize nameB v.name = q1 at HCn HXc HX2
           clear hrow
           go_wp2_with fail
           refine HCn.out.mono ?_
           rintro z w3' ⟨rfl, hB3'⟩
           have HB5 := Lib.hid (hB4.out.trans (hB3'.mono hB4.out.size))
           have HCh := Lib.hid (rhas_any S v.name pa ca _ w3' (HRow.out.imp hB3'.size (StrAt.later hB3')))
           have HO2 := Lib.hid (hTw.out.later hB3')
           generalize S.any (fun z => z == v.name) = q2 at HCh HXc HX2
           clear d0 hB3' HCn hTw
           obtain ⟨_, d0, _⟩ := HD.out _ dv rv v HB5.out hdv.out
           cases q1
           · have HV := Lib.hid (HDs.out (HXc.out rfl) _ (HUo.out _ HB5.out))
             go_wp2_with fail
             go_ret
             exact HV.out
           cases q2
           rotate_left
           · have HV := Lib.hid (HDs.out (HXc.out rfl) _ (HUo.out _ HB5.out))
             go_wp2_with fail
             refine HCh.out.mono ?_
             rintro z w4 ⟨rfl, hw⟩
             subst hw
             go_wp2_with fail
             go_ret
             exact HV.out
           go_wp2_with fail
           refine HCh.out.mono ?_
           rintro z w4 ⟨rfl, hw⟩
           subst hw
           obtain ⟨W1, hW1, k1, hB1', hz1'⟩ := one_alloc w3' (.cells #[.string (str v.name)] 9)
           have HOa := Lib.hid (HO2.out.later hB1')
           have HBa := Lib.hid (HB5.out.trans (hB1'.mono HB5.out.size))
           have HSr := Lib.hid (src_one k1)
           clear k1 hB1' hz1' HO2 HCh
           go_upto_region 45 with (at_builtin; refine wpList_app_at rfl _ _ 42 rfl w2.heap.size 9 i0 _ 1 16 Tryz.underlying42 hi0 hz0' hz1 hz2 rfl (by decide) _ S.length (strCells S) rfl HOa.out.a _ _ _ [.string (str v.name)] rfl HSr.out (one_oc v.name) (by have := hLn.out; unfold maxLen; omega) (by have := hLn.out; omega) HBa.out.size ?_; intro vn w6 hown hgrow hat)
           obtain ⟨S', hS'⟩ : ∃ S', S' = S ++ [v.name] := ⟨_, rfl⟩
           have HOb := Lib.hid (HOa.out.app1 (show OwnS w6 w2.heap.size vn S' by rw [hS']; unfold OwnS; rw [List.length_append, strc_app]; exact hown) hgrow hat)
           have HBb := Lib.hid (below_grown HBa.out hgrow HBa.out.size HOa.out.a)
           have HSl := Lib.hid (show S'.length = TR.length + (dv ++ [v]).length by rw [hS', List.length_append, hLn.out.1, List.length_append]; simp only [List.length_singleton]; omega)
           have HS' := Lib.hid (show S' = rnm x.regs ++ vnm (dv ++ [v]) by rw [hS', hS.out, vnm_snoc, List.append_assoc])
           have HE' := Lib.hid (show newB nz S' = true by rw [hS', HX2.out, hE4.out]; rfl)
           clear hown hgrow hat hS' HOa d0 hW1 HSr
           obtain ⟨_, d0, d1⟩ := HD.out _ dv rv v HBb.out hdv.out
           have HWs := Lib.hid (wnm_snoc dv v)
           generalize f1 : (v.kind == 1) = t1 at HWs
           cases t1
           · have HW2 := Lib.hid (show Wd = wnm (dv ++ [v]) by rw [HWs.out, hWd.out]; simp)
             have HLn := Lib.hid (show S'.length = TR.length + (dv ++ [v]).length ∧ Wd.length ≤ (dv ++ [v]).length from ⟨HSl.out, by have := hLn.out; simp; omega⟩)
             go_wp2_with fail
             go_roundw
             case rel => exact ⟨dv ++ [v], rv, S', Wd, by rw [List.length_append]; go_num, by simp; omega, HLn, Lib.hid (by rw [hdv.out]; simp), HS', HW2, HE', HOb, HBb⟩
             case measure => simp [intOf]; omega
           · obtain ⟨W2, hW2, k2, hB2', hz2'⟩ := one_alloc w6 (.cells #[.string (str v.name)] 9)
             have HOc := Lib.hid (HOb.out.later hB2')
             have HBc := Lib.hid (HBb.out.trans (hB2'.mono HBb.out.size))
             have HSr2 := Lib.hid (src_one k2)
             clear k2 hB2' hz2' HOb
             go_wp2_with (at_builtin; refine wpList_app_at rfl _ _ 42 rfl w2.heap.size 9 i0 _ 1 16 Tryz.underlying42 hi0 hz0' hz1 hz2 rfl (by decide) _ Wd.length (strCells Wd) rfl HOc.out.b _ _ _ [.string (str v.name)] rfl HSr2.out (one_oc v.name) (by have := hLn.out; unfold maxLen; omega) (by have := hLn.out; omega) HBc.out.size ?_; intro vm w7 hown hgrow hat)
             obtain ⟨Wd', hWd'⟩ : ∃ Wd', Wd' = Wd ++ [v.name] := ⟨_, rfl⟩
             have HOd := Lib.hid (HOc.out.app2 (show OwnS w7 w2.heap.size vm Wd' by rw [hWd']; unfold OwnS; rw [List.length_append, strc_app]; exact hown) hgrow hat)
             have HBd := Lib.hid (below_grown HBc.out hgrow HBc.out.size HOc.out.b)
             have HW2 := Lib.hid (show Wd' = wnm (dv ++ [v]) by rw [HWs.out, hWd', hWd.out]; simp)
             have HLn := Lib.hid (show S'.length = TR.length + (dv ++ [v]).length ∧ Wd'.length ≤ (dv ++ [v]).length from ⟨HSl.out, by have := hLn.out; rw [hWd']; simp; omega⟩)
             clear hown hgrow hat hWd' HOc d0 d1 hW2
             go_wp2_with fail
             go_roundw
             case rel => exact ⟨dv ++ [v], rv, S', Wd', by rw [List.length_append]; go_num, by simp; omega, HLn, Lib.hid (by rw [hdv.out]; simp), HS', HW2, HE', HOd, HBd⟩
             case measure => simp [intOf]; omega
 case rest =>
 obtain ⟨K5, hBc⟩ := hcut
 have HB16 := Lib.hid hBc.out
 have HRf := Lib.hid ((few_parts KF.out).1)
 obtain ⟨wH, hwH⟩ : ∃ wH, wH = wc := ⟨_, rfl⟩
 rw [← hwH] at HB16
 rw [← hwH]
 clear hwH hBc HRR HUG HBG
 go_upto_block 16 with fail
 go_cut [17, 18, 19, 20] from 306 to 370 (fun s17 s18 s19 s20 wx => Hid (rgsAt [] x.regs = true) ∧ Hid (Below W0.heap.size W0 wx))
 case first => as_aux_lemma =>
   go_wp2_with fail
   go_loopw [17, 18, 19, 20] (fun i s18 s19 s20 wr => ∃ (ds r : List Rgn), i = .int .i64 ds.length ∧ ds.length + r.length = x.regs.length ∧ Hid (x.regs = ds ++ r) ∧ Hid (rgsAt [] x.regs = rgsAt ds r) ∧ Hid (∀ q ∈ ds, 0 ≤ q.addr ∧ q.addr ≤ 49152) ∧ Hid (Below W0.heap.size W0 wr)) (fun i _ _ _ _ => x.regs.length - (intOf i).toNat)
   case atStart => exact ⟨[], x.regs, rfl, by simp, Lib.hid rfl, Lib.hid rfl, Lib.hid (fun _ h => by cases h), HB16⟩
   case round =>
     obtain ⟨ds, r, rfl, hk, hds, hE, hIn, hB⟩ := hrel
     obtain ⟨wq, rfl⟩ : ∃ wq : World, wq = wr := ⟨_, rfl⟩
     obtain ⟨p0, p1⟩ := HP.out _ hB.out
     cases r with
     | nil =>
       simp only [List.length_nil] at hk
       have hge : ¬ ds.length < x.regs.length := by omega
       have HV := Lib.hid (show rgsAt [] x.regs = true by rw [hE.out, rgsAt])
       clear hE
       go_wp2_with fail
       go_meet
       exact ⟨HV, hB⟩
     | cons y r =>
       simp only [List.length_cons] at hk
       have hlt : ds.length < x.regs.length := by omega
       obtain ⟨hp, e0, e1, e2, e3⟩ := HRg.out _ ds r y (HU.out _ hB.out) hds.out
       cases hp
       obtain ⟨hy1, hy2⟩ := y.few_iff.1 (List.all_eq_true.1 HRf.out y (by rw [hds.out]; simp))
       obtain ⟨Wa, hWa, ka, hBa, hza⟩ := one_alloc wq (.cells #[.string (str y.name), .int .i64 y.addr, .int .i64 y.size, .bool y.secret] 83)
       have HBa := Lib.hid (hB.out.trans (hBa.mono hB.out.size))
       have HKa := Lib.hid ka
       have a1 : Wa.cell? ⟨wq.heap.size, 1, none⟩ = some (.int .i64 y.addr) := cell_blk ka rfl
       have a2 : Wa.cell? ⟨wq.heap.size, 2, none⟩ = some (.int .i64 y.size) := cell_blk ka rfl
       have hgl : wq.heap.size < Wa.heap.size := lt_blk ka
       have HE2 := Lib.hid (show rgsAt [] x.regs = (y.at' && ds.all y.apart && rgsAt (ds ++ [y]) r) by rw [hE.out, rgsAt])
       have HFl := Lib.hid (fun (hf : y.at' = false) => HNo.out 14 _ (by decide) (mx_at KF.out K4.out K5.out (by rw [HE2.out, hf]; rfl)) HBa.out)
       clear ka hBa hza hE
       go_upto_region 56 with fail
       clear e0 e1 e2 e3 p0 p1
       by_cases c1 : y.addr < 0
       · have f1 : decide (y.addr < 0) = true := decide_eq_true c1
         have HV := Lib.hid (HFl.out (by unfold Rgn.at'; rw [show decide (0 ≤ y.addr) = false from decide_eq_false (by omega)]; rfl))
         go_wp2_with fail
         go_ret
         exact HV.out
       have f1 : decide (y.addr < 0) = false := decide_eq_false c1
       by_cases c2 : 49152 < y.addr
       · have f2 : decide (49152 < y.addr) = true := decide_eq_true c2
         have HV := Lib.hid (HFl.out (by unfold Rgn.at'; rw [show decide (y.addr ≤ 49152 - y.size * 8) = false from decide_eq_false (by omega), Bool.and_false]))
         go_wp2_with fail
         go_ret
         exact HV.out
       have f2 : decide (49152 < y.addr) = false := decide_eq_false c2
       have hmod : y.addr.tmod 8 = y.addr % 8 := Int.tmod_eq_emod_of_nonneg (by omega)
       have HMod := Lib.hid hmod
       clear hmod
       by_cases c3 : y.addr % 8 = 0
       rotate_left
       · have f3 : (y.addr % 8 != 0) = true := by simp [bne, c3]
         have HV := Lib.hid (HFl.out (by unfold Rgn.at'; rw [HMod.out, show (y.addr % 8 == 0) = false by simp [c3], Bool.and_false, Bool.false_and]))
         go_wp2_with fail
         go_ret
         exact HV.out
       have f3 : (y.addr % 8 != 0) = false := by simp [bne, c3]
       have hw8 : IntKind.i64.wrap (8 * y.size) = 8 * y.size := by simp [IntKind.wrap, IntKind.bits, IntKind.signed]; omega
       have hws : IntKind.i64.wrap (y.addr + 8 * y.size) = y.addr + 8 * y.size := by simp [IntKind.wrap, IntKind.bits, IntKind.signed]; omega
       by_cases c4 : 49152 < y.addr + 8 * y.size
       · have f4 : decide (49152 < y.addr + 8 * y.size) = true := decide_eq_true c4
         have HV := Lib.hid (HFl.out (by unfold Rgn.at'; rw [show decide (y.addr ≤ 49152 - y.size * 8) = false from decide_eq_false (by omega), Bool.and_false]))
         go_wp2_with fail
         go_ret
         exact HV.out
       have f4 : decide (49152 < y.addr + 8 * y.size) = false := decide_eq_false c4
       have HAt := Lib.hid (show y.at' = true by unfold Rgn.at'; rw [decide_eq_true (show 0 ≤ y.addr by omega), HMod.out, show (y.addr % 8 == 0) = true by simp [c3], decide_eq_true (show y.addr ≤ 49152 - y.size * 8 by omega)]; rfl)
       have HY := Lib.hid (show 0 ≤ y.addr ∧ y.addr ≤ 49152 from ⟨by omega, by omega⟩)
       clear HFl
       go_wp2_with fail
       clear f1 f2 f3 f4 c1 c2 c3 c4
       go_loopw [19, 20] (fun j s20 wx => ∃ (d2 r2 : List Rgn), j = .int .i64 d2.length ∧ d2.length + r2.length = ds.length ∧ Hid (ds = d2 ++ r2) ∧ Hid (d2.all y.apart = true) ∧ Hid (Below Wa.heap.size Wa wx)) (fun j _ _ => ds.length - (intOf j).toNat)
       case atStart => exact ⟨[], ds, rfl, by simp, Lib.hid rfl, Lib.hid rfl, Lib.hid (Below.refl _ _)⟩
       case round =>
         obtain ⟨d2, r2, rfl, hk2, hd2, hE3, hB3⟩ := hrel
         have HBw := Lib.hid (HBa.out.trans (hB3.out.mono HBa.out.size))
         have hka := (hB3.out.block _ hgl).trans HKa.out
         have a1 : wr.cell? ⟨wq.heap.size, 1, none⟩ = some (.int .i64 y.addr) := cell_blk hka rfl
         have a2 : wr.cell? ⟨wq.heap.size, 2, none⟩ = some (.int .i64 y.size) := cell_blk hka rfl
         clear hka
         cases r2 with
         | nil =>
           simp only [List.length_nil] at hk2
           have hge2 : ¬ d2.length < ds.length := by omega
           have HE4 := Lib.hid (show rgsAt [] x.regs = rgsAt (ds ++ [y]) r by rw [HE2.out, HAt.out, show ds.all y.apart = true by rw [hd2.out, List.append_nil]; exact hE3.out]; rfl)
           have HI2 := Lib.hid (show ∀ q ∈ ds ++ [y], 0 ≤ q.addr ∧ q.addr ≤ 49152 from fun q hq => by
             rcases List.mem_append.1 hq with h1 | h1
             · exact hIn.out q h1
             · simp at h1; subst h1; exact HY.out)
           clear hE3
           go_wp2_with fail
           go_roundw
           case rel => exact ⟨ds ++ [y], r, by rw [List.length_append]; go_num, by simp; omega, Lib.hid (by rw [hds.out]; simp), HE4, HI2, HBw⟩
           case measure => simp [intOf]; omega
         | cons q r2 =>
           simp only [List.length_cons] at hk2
           have hlt2 : d2.length < ds.length := by omega
           have hlt3 : d2.length < x.regs.length := by omega
           obtain ⟨p0, p1⟩ := HP.out _ HBw.out
           obtain ⟨_, e0, e1, e2, e3⟩ := HRg.out _ d2 (r2 ++ y :: r) q (HU.out _ HBw.out) (by rw [hds.out, hd2.out]; simp)
           obtain ⟨hq1, hq2⟩ := q.few_iff.1 (List.all_eq_true.1 HRf.out q (by rw [hds.out, hd2.out]; simp))
           obtain ⟨hq3, hq4⟩ := hIn.out q (by rw [hd2.out]; simp)
           obtain ⟨Wb, hWb, kb, hBb, hzb⟩ := one_alloc wr (.cells #[.string (str q.name), .int .i64 q.addr, .int .i64 q.size, .bool q.secret] 83)
           have HBb := Lib.hid (hB3.out.trans (hBb.mono hB3.out.size))
           have b1 : Wb.cell? ⟨wr.heap.size, 1, none⟩ = some (.int .i64 q.addr) := cell_blk kb rfl
           have b2 : Wb.cell? ⟨wr.heap.size, 2, none⟩ = some (.int .i64 q.size) := cell_blk kb rfl
           have hkb := (HBb.out.block _ hgl).trans HKa.out
           have c1 : Wb.cell? ⟨wq.heap.size, 1, none⟩ = some (.int .i64 y.addr) := cell_blk hkb rfl
           have c2 : Wb.cell? ⟨wq.heap.size, 2, none⟩ = some (.int .i64 y.size) := cell_blk hkb rfl
           have hw9 : IntKind.i64.wrap (8 * q.size) = 8 * q.size := by simp [IntKind.wrap, IntKind.bits, IntKind.signed]; omega
           have hwt : IntKind.i64.wrap (q.addr + 8 * q.size) = q.addr + 8 * q.size := by simp [IntKind.wrap, IntKind.bits, IntKind.signed]; omega
           have HAp := Lib.hid (show y.apart q = !(decide (y.addr < q.addr + 8 * q.size) && decide (q.addr < y.addr + 8 * y.size)) by
             unfold Rgn.apart
             rw [Bool.eq_iff_iff]; simp; omega)
           have HB9 := Lib.hid (HBa.out.trans (HBb.out.mono HBa.out.size))
           generalize g1 : decide (y.addr < q.addr + 8 * q.size) = t1 at HAp
           generalize g2 : decide (q.addr < y.addr + 8 * y.size) = t2 at HAp
           clear kb hBb hzb hkb
           go_upto_region 62 with fail
           clear e0 e1 e2 e3 p0 p1 a1 a2
           cases t1
           · have HE4 := Lib.hid (all_one hE3.out (by rw [HAp.out]; rfl))
             clear hE3
             go_wp2_with fail
             go_roundw
             case rel => exact ⟨d2 ++ [q], r2, by rw [List.length_append]; go_num, by simp; omega, Lib.hid (by rw [hd2.out]; simp), HE4, HBb⟩
             case measure => simp [intOf]; omega
           · cases t2
             · have HE4 := Lib.hid (all_one hE3.out (by rw [HAp.out]; rfl))
               clear hE3
               go_wp2_with fail
               go_roundw
               case rel => exact ⟨d2 ++ [q], r2, by rw [List.length_append]; go_num, by simp; omega, Lib.hid (by rw [hd2.out]; simp), HE4, HBb⟩
               case measure => simp [intOf]; omega
             · have HV := Lib.hid (HNo.out 14 _ (by decide) (mx_at KF.out K4.out K5.out (by rw [HE2.out, all_cut hd2.out (by rw [HAp.out]; rfl), Bool.and_false, Bool.false_and])) HB9.out)
               go_wp2_with fail
               go_ret
               exact HV.out
 case rest =>
 obtain ⟨K6, hBc⟩ := hcut
 have HB20 := Lib.hid hBc.out
 obtain ⟨wH, hwH⟩ : ∃ wH, wH = wc := ⟨_, rfl⟩
 rw [← hwH] at HB20
 rw [← hwH]
 clear hwH hBc HB16
 go_upto_block 20 with fail
 go_cut [21, 22, 23, 24, 25] from 371 to 439 (fun s21 s22 s23 s24 s25 wx => Hid (∀ f ∈ x.fns, f.varsB = true) ∧ Hid (Below W0.heap.size W0 wx))
 case first => as_aux_lemma =>
   go_wp2_with fail
   go_loopw [21, 22, 23, 24, 25] (fun i s22 s23 s24 s25 wr => ∃ (ds r : List Fnc), i = .int .i64 ds.length ∧ ds.length + r.length = x.fns.length ∧ Hid (x.fns = ds ++ r) ∧ Hid (∀ f ∈ ds, f.varsB = true) ∧ Hid (Below W0.heap.size W0 wr)) (fun i _ _ _ _ _ => x.fns.length - (intOf i).toNat)
   case atStart => exact ⟨[], x.fns, rfl, by simp, Lib.hid rfl, Lib.hid (fun _ h => by cases h), HB20⟩
   case round =>
     obtain ⟨ds, r, rfl, hk, hds, hE, hB⟩ := hrel
     obtain ⟨wq, rfl⟩ : ∃ wq : World, wq = wr := ⟨_, rfl⟩
     obtain ⟨p0, p1⟩ := HP.out _ hB.out
     cases r with
     | nil =>
       simp only [List.length_nil] at hk
       have hge : ¬ ds.length < x.fns.length := by omega
       have HV := Lib.hid (show ∀ f ∈ x.fns, f.varsB = true by rw [hds.out, List.append_nil]; exact hE.out)
       clear hE
       go_wp2_with fail
       go_meet
       exact ⟨HV, hB⟩
     | cons y r =>
       simp only [List.length_cons] at hk
       have hlt : ds.length < x.fns.length := by omega
       obtain ⟨⟨fp, fv, fr, fb, fcp, fcv, fcr, fcb⟩, hq, e0, e1, e2, e3, e4, hok⟩ := HFn.out _ ds r y (HU.out _ hB.out) hds.out
       cases hq
       obtain ⟨Wa, hWa, ka, hBa, hza⟩ := one_alloc wq (.cells #[.string (str y.name), .slice fp y.params.length fcp, .slice fv y.vars.length fcv, .slice fr y.rets.length fcr, .slice fb y.body.len fcb] 48)
       have HBa := Lib.hid (hB.out.trans (hBa.mono hB.out.size))
       have hgl : wq.heap.size < Wa.heap.size := lt_blk ka
       have HKa := Lib.hid (fun (W : World) (hB : Below Wa.heap.size Wa W) => show W.cell? ⟨wq.heap.size, 1, none⟩ = some (.slice fp y.params.length fcp) ∧ W.cell? ⟨wq.heap.size, 2, none⟩ = some (.slice fv y.vars.length fcv) from ⟨cell_blk ((hB.block _ hgl).trans ka) rfl, cell_blk ((hB.block _ hgl).trans ka) rfl⟩)
       have hNo : N ≤ wq.heap.size := Nat.le_trans HNN.out.1 (Nat.le_trans HNN.out.2 hB.out.size)
       have HUa := Lib.hid (fun (W : World) (hB : Below Wa.heap.size Wa W) => show Below N wq W from (hBa.mono hNo).trans (hB.mono (by omega)))
       obtain ⟨b5, o5, hp5, hb5, ha5⟩ := Row.start hok.1
       obtain ⟨b6, o6, hp6, hb6, ha6⟩ := Row.start hok.2.1
       have hmp := hok.1.1
       have hmv := hok.2.1.1
       have HA5 := Lib.hid (And.intro ha5 hb5)
       have HA6 := Lib.hid (And.intro ha6 hb6)
       have HFl := Lib.hid (fun (hf : y.varsB = false) (W : World) (hB : Below Wa.heap.size Wa W) => HNo.out 9 W (by decide) (mx_kind KF.out K4.out K5.out K6.out hds.out hf) (HBa.out.trans (hB.mono HBa.out.size)))
       obtain ⟨h1, h2⟩ := HKa.out _ (Below.refl _ _)
       clear ka hBa hza hok hb5 ha5 hb6 ha6
       go_upto_region 68 with fail
       clear e0 e1 e2 e3 e4 p0 p1
       go_wp2_with fail
       clear h1 h2
       go_loopw [23] (fun j wx => ∃ (dv rv : List Vr), j = .int .i64 dv.length ∧ dv.length + rv.length = y.params.length ∧ Hid (y.params = dv ++ rv) ∧ Hid (dv.all Vr.par = true) ∧ wx = Wa) (fun j _ => y.params.length - (intOf j).toNat)
       case atStart => exact ⟨[], y.params, rfl, by simp, Lib.hid rfl, Lib.hid rfl, rfl⟩
       case round =>
         obtain ⟨dv, rv, rfl, hk4, hdv, hE4, rfl⟩ := hrel
         obtain ⟨wp, rfl⟩ : ∃ wp : World, wp = wr := ⟨_, rfl⟩
         obtain ⟨h1, h2⟩ := HKa.out _ (Below.refl _ _)
         cases rv with
         | cons v rv =>
           simp only [List.length_cons] at hk4
           have hlt4 : dv.length < y.params.length := by omega
           rcases hp5 with h0 | rfl
           · omega
           obtain ⟨d0, d1, d2, d3⟩ := Vr.At.later (HUa.out _ (Below.refl _ _)) v b5 _ (by have := HA5.out.2; omega) (Row.get (i := dv.length) (x := v) HA5.out.1 (by rw [hdv.out]; simp))
           have HPr := Lib.hid (show v.par = !((v.kind != 1) || (v.size != 0)) by unfold Vr.par; simp [bne])
           generalize g1 : (v.kind != 1) = t1 at HPr
           generalize g2 : (v.size != 0) = t2 at HPr
           cases t1
           · cases t2
             · have HE5 := Lib.hid (all_one hE4.out (by rw [HPr.out]; rfl))
               clear hE4
               go_wp2_with fail
               go_roundw
               case rel => exact ⟨dv ++ [v], rv, by rw [List.length_append]; go_num, by simp; omega, Lib.hid (by rw [hdv.out]; simp), HE5, trivial⟩
               case measure => simp [intOf]; omega
             · have HV := Lib.hid (HFl.out (by unfold Fnc.varsB; rw [all_cut hdv.out (by rw [HPr.out]; rfl)]; rfl) _ (Below.refl _ _))
               go_wp2_with fail
               go_ret
               exact HV.out
           · have HV := Lib.hid (HFl.out (by unfold Fnc.varsB; rw [all_cut hdv.out (by rw [HPr.out]; rfl)]; rfl) _ (Below.refl _ _))
             go_wp2_with fail
             go_ret
             exact HV.out
         | nil =>
           simp only [List.length_nil] at hk4
           have hge4 : ¬ dv.length < y.params.length := by omega
           have HPs := Lib.hid (show y.params.all Vr.par = true by rw [hdv.out, List.append_nil]; exact hE4.out)
           clear hE4
           go_wp2_with fail
           clear h1 h2
           go_loopw [24, 25] (fun j s25 wx => ∃ (dw rw : List Vr), j = .int .i64 dw.length ∧ dw.length + rw.length = y.vars.length ∧ Hid (y.vars = dw ++ rw) ∧ Hid (dw.all Vr.loc = true) ∧ Hid (Below wp.heap.size wp wx)) (fun j _ _ => y.vars.length - (intOf j).toNat)
           case atStart => exact ⟨[], y.vars, rfl, by simp, Lib.hid rfl, Lib.hid rfl, Lib.hid (Below.refl _ _)⟩
           case round =>
             obtain ⟨dw, rw', rfl, hk6, hdw, hE6, hB6⟩ := hrel
             obtain ⟨h1, h2⟩ := HKa.out _ hB6.out
             cases rw' with
             | nil =>
               simp only [List.length_nil] at hk6
               have hge6 : ¬ dw.length < y.vars.length := by omega
               have HVb := Lib.hid (show y.varsB = true by unfold Fnc.varsB; rw [HPs.out, hdw.out, List.append_nil, hE6.out]; rfl)
               have HE2 := Lib.hid (show ∀ f ∈ ds ++ [y], f.varsB = true from fun f hf => by
                 rcases List.mem_append.1 hf with h1 | h1
                 · exact hE.out f h1
                 · simp at h1; subst h1; exact HVb.out)
               have HBe := Lib.hid (HBa.out.trans (hB6.out.mono HBa.out.size))
               clear hE6
               go_wp2_with fail
               go_roundw
               case rel => exact ⟨ds ++ [y], r, by rw [List.length_append]; go_num, by simp; omega, Lib.hid (by rw [hds.out]; simp), HE2, HBe⟩
               case measure => simp [intOf]; omega
             | cons v rw' =>
               simp only [List.length_cons] at hk6
               have hlt6 : dw.length < y.vars.length := by omega
               rcases hp6 with h0 | rfl
               · omega
               obtain ⟨d0, d1, d2, d3⟩ := Vr.At.later (HUa.out _ hB6.out) v b6 _ (by have := HA6.out.2; omega) (Row.get (i := dw.length) (x := v) HA6.out.1 (by rw [hdw.out]; simp))
               obtain ⟨Wb, hWb, kb, hBb, hzb⟩ := one_alloc wr (.cells #[.string (str v.name), .int .i64 v.kind, .int .i64 v.size, .bool v.secret] 58)
               have HBb := Lib.hid (hB6.out.trans (hBb.mono hB6.out.size))
               have b1 : Wb.cell? ⟨wr.heap.size, 1, none⟩ = some (.int .i64 v.kind) := cell_blk kb rfl
               have b2 : Wb.cell? ⟨wr.heap.size, 2, none⟩ = some (.int .i64 v.size) := cell_blk kb rfl
               have b3 : Wb.cell? ⟨wr.heap.size, 3, none⟩ = some (.bool v.secret) := cell_blk kb rfl
               have HLc := Lib.hid (loc_eq v)
               generalize g1 : decide (v.kind < 1) = t1 at HLc
               generalize g2 : decide (3 < v.kind) = t2 at HLc
               generalize g3 : (v.kind == 1) = t3 at HLc
               generalize g4 : (v.size != 0) = t4 at HLc
               generalize v.secret = t5 at HLc b3 d3 hWb
               clear kb hBb hzb
               go_upto_region 77 with fail
               clear d0 d1 d2 d3 h1 h2
               cases t1
               · skip
                 cases t2
                 · skip
                   cases t3
                   · skip
                     have HE7 := Lib.hid (all_one hE6.out (by rw [HLc.out]; rfl))
                     clear hE6
                     go_wp2_with fail
                     go_roundw
                     case rel => exact ⟨dw ++ [v], rw', by rw [List.length_append]; go_num, by simp; omega, Lib.hid (by rw [hdw.out]; simp), HE7, HBb⟩
                     case measure => simp [intOf]; omega
                   · skip
                     cases t4
                     · skip
                       cases t5
                       · skip
                         have HE7 := Lib.hid (all_one hE6.out (by rw [HLc.out]; rfl))
                         clear hE6
                         go_wp2_with fail
                         go_roundw
                         case rel => exact ⟨dw ++ [v], rw', by rw [List.length_append]; go_num, by simp; omega, Lib.hid (by rw [hdw.out]; simp), HE7, HBb⟩
                         case measure => simp [intOf]; omega
                       · skip
                         have HV := Lib.hid (HFl.out (by unfold Fnc.varsB; rw [all_cut hdw.out (by rw [HLc.out]; rfl), Bool.and_false]) _ HBb.out)
                         go_wp2_with fail
                         go_ret
                         exact HV.out
                     · skip
                       have HV := Lib.hid (HFl.out (by unfold Fnc.varsB; rw [all_cut hdw.out (by rw [HLc.out]; rfl), Bool.and_false]) _ HBb.out)
                       go_wp2_with fail
                       go_ret
                       exact HV.out
                 · skip
                   have HV := Lib.hid (HFl.out (by unfold Fnc.varsB; rw [all_cut hdw.out (by rw [HLc.out]; rfl), Bool.and_false]) _ HBb.out)
                   go_wp2_with fail
                   go_ret
                   exact HV.out
               · skip
                 have HV := Lib.hid (HFl.out (by unfold Fnc.varsB; rw [all_cut hdw.out (by rw [HLc.out]; rfl), Bool.and_false]) _ HBb.out)
                 go_wp2_with fail
                 go_ret
                 exact HV.out
 case rest =>
 obtain ⟨K7, hBc⟩ := hcut
 have HB26 := Lib.hid hBc.out
 obtain ⟨wH, hwH⟩ : ∃ wH, wH = wc := ⟨_, rfl⟩
 rw [← hwH] at HB26
 rw [← hwH]
 clear hwH hBc HB20
 go_wp2_with fail
 go_loopw [26, 27] (fun i s27 wr => ∃ (ds r : List Fnc), i = .int .i64 ds.length ∧ ds.length + r.length = x.fns.length ∧ Hid (x.fns = ds ++ r) ∧ Hid (∀ k f, k < ds.length → x.fns[k]? = some f → bodyR x k f = 0) ∧ Hid (Below W0.heap.size W0 wr)) (fun i _ _ => x.fns.length - (intOf i).toNat)
 case atStart => exact ⟨[], x.fns, rfl, by simp, Lib.hid rfl, Lib.hid (fun _ _ h => by simp at h), HB26⟩
 case round =>
   obtain ⟨ds, r, rfl, hk, hds, hE, hB⟩ := hrel
   obtain ⟨p0, p1⟩ := HP.out _ hB.out
   cases r with
   | nil =>
     simp only [List.length_nil] at hk
     have hge : ¬ ds.length < x.fns.length := by omega
     have HV := Lib.hid (HOK.out wr (may_yes KF.out K4.out K5.out K6.out K7.out (fun k f hf => hE.out k f (by have := (List.getElem?_eq_some_iff.1 hf).1; omega) hf)) hB.out)
     clear hE
     go_wp2_with fail
     go_ret
     exact HV.out
   | cons y r =>
     simp only [List.length_cons] at hk
     have hlt : ds.length < x.fns.length := by omega
     obtain ⟨sg, hq, e0, e1, e2, e3, e4, hok⟩ := HFn.out _ ds r y (HU.out _ hB.out) hds.out
     cases hq
     have hX : Below W0.heap.size W0 wr.drew := hB.out.drew
     have hXr : Below wr.heap.size wr wr.drew := (Below.refl _ _).drew
     have HE4 := Lib.hid (fun (W : World) (hB : Below wr.heap.size wr W) => show W.cell? ⟨b', o' + ds.length * 5 + 4, none⟩ = some (.slice sg.pb y.body.len sg.cb) from (hB.cell (p := ⟨b', _, none⟩) (World.block_lt_of_cell? _ _ e4)).trans e4)
     have HCs := Lib.hid (HSm.out wr.drew ds.length y sg (HU.out _ hX) (fns_at hds.out) (hok.later ((Below.refl N wr).drew) (Nat.le_refl N)))
     have HBy := Lib.hid (show bodyR x ds.length y = y.body.chk x y (adds nz (y.body.fors 1)) ds.length 1 [] from rfl)
     generalize y.body.chk x y (adds nz (y.body.fors 1)) ds.length 1 [] = v1 at HCs HBy
     clear e0 e1 e2 e3 e4 hok
     go_upto_region 82 with fail
     clear p0 p1
     refine wp_region_held_drew (S := fun W => W.cell? ⟨w.heap.size, 0, none⟩ = some (.slice p x.regs.length c) ∧ W.cell? ⟨w.heap.size, 1, none⟩ = some (.slice (some ⟨b', o', none⟩) x.fns.length d) ∧ W.cell? ⟨b', o' + ds.length * 5 + 4, none⟩ = some (.slice sg.pb y.body.len sg.cb)) (by kernel_rfl) ?_ (fun hHeld => ?_)
     · exact ⟨(HP.out _ hX).1, (HP.out _ hX).2, HE4.out _ hXr⟩
     refine tq 0 ?_
     refine tq 1 ?_
     refine tq 2 ?_
     refine tq 3 ?_
     refine tq 4 ?_
     refine tq 5 ?_
     refine tq 6 ?_
     refine tq 7 ?_
     refine wpAnyH_ready (rs := [8]) (by kernel_rfl) (by simp) ?_
     refine rdy rfl (fun K hK => ?_) AllReadyH.nil
     go_simp
     refine HCs.out.mono ?_
     rintro z w9 ⟨rfl, hB9⟩
     replace hX := hX.trans (hB9.mono hX.size)
     replace hXr := hXr.trans (hB9.mono hXr.size)
     clear hB9
     refine hK.out _ _ ?_ (fun hHeld => ?_)
     · exact ⟨(HP.out _ hX).1, (HP.out _ hX).2, HE4.out _ hXr⟩
     clear hK K
     try simp only [Act.put, List.setIfInBounds_toArray, List.set_cons_zero, List.set_cons_succ]
     refine tq 9 ?_
     refine wpAnyH_done (by kernel_rfl) ?_ _
     have HX := Lib.hid hX
     clear hX hXr
     by_cases hv1 : v1 = 0
     · have HE5 := Lib.hid (show ∀ k f, k < (ds ++ [y]).length → x.fns[k]? = some f → bodyR x k f = 0 from fun k f hk hf => by
         rw [List.length_append, List.length_singleton] at hk
         by_cases h1 : k < ds.length
         · exact hE.out k f h1 hf
         · obtain rfl : k = ds.length := by omega
           have := fns_at hds.out
           rw [hf] at this
           cases this
           rw [HBy.out, hv1])
       subst hv1
       clear hE
       go_wp2_with fail
       go_roundw
       case rel => exact ⟨ds ++ [y], r, by rw [List.length_append]; go_num, by simp; omega, Lib.hid (by rw [hds.out]; simp), HE5, HX⟩
       case measure => simp [intOf]; omega
     · have hv1i : ((v1 : Int) != 0) = true := by simp [bne]; omega
       have HV := Lib.hid (HNo.out (v1 : Int) _ (by omega) (mx_body KF.out K4.out K5.out K6.out K7.out hE.out hds.out HBy.out hv1) HX.out)
       go_wp2_with fail
       go_ret
       exact HV.out
end Go.Proofs.YtihmibggonffdaaGreat
