/- DL, Fit as one. -/
import Derived.Test.YthdjkjnkjkakpaaDG
import Derived.Test.YthdjkjnkjkakpaaDE
import Derived.Test.YthdjkjnkjkakpaaL3
import Derived.Test.YthdjkjnkjkakpaaRows
import Derived.WalkKit
import Derived.ProofKit
import Derived.OpenShut
import Derived.JoinedCond
import Derived.Test.YthdjkjnkjkakpaaDH
/- ScopeFit: the walk. -/
namespace Go.Proofs.Ythdjkjnkjkakpaa
open Go.RowKit

set_option maxRecDepth 100000 in
set_option maxHeartbeats 6400000 in
theorem law_fit (x : Prg) (s : PrgP) (t : InP) (N : Nat) (w : World) (h : x.Ok w N s.p s.q) (ht : t.Ok w N) (hN : N ≤ w.heap.size) (hc : x.regs.length ≤ s.c) (hd : x.fns.length ≤ s.d) (hbig : fnsBig x.fns ≤ 4000000) :
    Calls Try.prog 4 #[x.v s, t.v] w fun z w' => z = .returned (.bool true) ∧ Below w.heap.size w w' := by
  have HSm := Lib.hid (fun (W : World) (hB : Below w.heap.size w W) => small_any x s N W (h.later (hB.mono hN) (Nat.le_refl N)) (Nat.le_trans hN hB.size) hbig)
  have HFt := Lib.hid (fun (W : World) (hB : Below w.heap.size w W) => fit_any x s t N W (h.later (hB.mono hN) (Nat.le_refl N)) (ht.later (hB.mono hN)) (Nat.le_trans hN hB.size) hc hd)
  have HRf := Lib.hid (fun (W : World) (hB : Below w.heap.size w W) => rfit_any x s t N W (h.later (hB.mono hN) (Nat.le_refl N)) (ht.later (hB.mono hN)) (Nat.le_trans hN hB.size) hbig)
  clear h ht hN hc hd hbig
  generalize hF : fitB x t.na t.rows = F at HFt HRf
  clear hF
  obtain ⟨p, q, c, d⟩ := s
  obtain ⟨pa, pr, na, ca, cr, rows⟩ := t
  obtain ⟨W0, hW0, k0, k1, hB0, hz0⟩ := two_alloc w (.cells #[.slice p x.regs.length c, .slice q x.fns.length d] 25) (.cells #[.slice pa na ca, .slice pr rows.length cr] 34)
  have HU := Lib.hid (fun (W : World) (hB : Below W0.heap.size W0 W) => show Below w.heap.size w W from hB0.trans (hB.mono (by omega)))
  have HP := Lib.hid (fun (W : World) (hB : Below W0.heap.size W0 W) => show W.cell? ⟨w.heap.size, 0, none⟩ = some (.slice p x.regs.length c) ∧ W.cell? ⟨w.heap.size, 1, none⟩ = some (.slice q x.fns.length d) ∧ W.cell? ⟨w.heap.size + 1, 0, none⟩ = some (.slice pa na ca) ∧ W.cell? ⟨w.heap.size + 1, 1, none⟩ = some (.slice pr rows.length cr) from
    ⟨cell_blk ((hB.block _ (lt_blk k0)).trans k0) rfl, cell_blk ((hB.block _ (lt_blk k0)).trans k0) rfl, cell_blk ((hB.block _ (lt_blk k1)).trans k1) rfl, cell_blk ((hB.block _ (lt_blk k1)).trans k1) rfl⟩)
  unfold Prg.v at HSm HFt HRf ⊢
  unfold InP.v at HFt HRf ⊢
  dsimp only at HSm HFt HRf ⊢
  obtain ⟨p0, p1, p2, p3⟩ := HP.out W0 (Below.refl _ _)
  have HX := Lib.hid (Below.refl W0.heap.size W0)
  have HC := Lib.hid (HSm.out _ (HU.out _ HX.out))
  clear k0 k1 hB0 hz0 HSm
  go_enter Try.func4, Try.ntmps4
  go_wp2_with fail
  refine HC.out.mono ?_
  rintro z w5 ⟨⟨b, rfl⟩, hB5⟩
  replace HX := Lib.hid (HX.out.trans (hB5.mono HX.out.size))
  clear hB5 HC hW0 p0 p1 p2 p3
  cases b
  · have HKn := Lib.hid (known_any w5)
    replace HX := Lib.hid (HU.out _ HX.out)
    clear HFt HRf
    go_wp2_with fail
    refine HKn.out.mono ?_
    rintro z w6 ⟨rfl, hB6⟩
    have HY := Lib.hid (HX.out.trans (hB6.mono HX.out.size))
    clear hB6 HX HKn
    go_wp2_with fail
    go_ret
    exact ⟨rfl, HY.out⟩
  obtain ⟨p0, p1, p2, p3⟩ := HP.out w5 HX.out
  have HC := Lib.hid (HFt.out _ (HU.out _ HX.out))
  clear HFt
  obtain ⟨v, hv⟩ : ∃ v, v = fitI F := ⟨_, rfl⟩
  rw [← hv] at HC
  have HV := Lib.hid hv
  clear hv
  go_wp2_with fail
  refine HC.out.mono ?_
  rintro z w6 ⟨rfl, hB6⟩
  replace HX := Lib.hid (HX.out.trans (hB6.mono HX.out.size))
  clear hB6 HC p0 p1 p2 p3
  obtain ⟨p0, p1, p2, p3⟩ := HP.out w6 HX.out
  have HC := Lib.hid (HRf.out _ (HU.out _ HX.out))
  clear HRf
  go_wp2_with fail
  refine HC.out.mono ?_
  rintro z w7 ⟨rfl, hB7⟩
  replace HX := Lib.hid (HX.out.trans (hB7.mono HX.out.size))
  clear hB7 HC p0 p1 p2 p3
  have HKn := Lib.hid (known_any w7)
  replace HX := Lib.hid (HU.out _ HX.out)
  cases F
  · obtain rfl : v = 2 := HV.out
    go_wp2_with fail
    refine HKn.out.mono ?_
    rintro z w8 ⟨rfl, hB8⟩
    have HY := Lib.hid (HX.out.trans (hB8.mono HX.out.size))
    clear hB8 HX HKn
    go_wp2_with fail
    go_ret
    exact ⟨rfl, HY.out⟩
  · obtain rfl : v = 0 := HV.out
    go_wp2_with fail
    refine HKn.out.mono ?_
    rintro z w8 ⟨rfl, hB8⟩
    have HY := Lib.hid (HX.out.trans (hB8.mono HX.out.size))
    clear hB8 HX HKn
    go_wp2_with fail
    go_ret
    exact ⟨rfl, HY.out⟩
end Go.Proofs.Ythdjkjnkjkakpaa
/- For every program and every input that law ScopeFit may be handed, it returns true and leaves its arguments as they were. Conditions: what it reads is of bulk at most 1048576. -/
namespace Go.Proofs.Ythdjkjnkjkakpaa.scopeFit
open Go.ChangeShapes Go.WideShapes Go.ChangeAt Go.RowKit

theorem own : ownKnob Try.prog.godebug = none := by kernel_rfl
theorem laid : laidOutB Try.prog = true := by kernel_rfl

set_option maxRecDepth 100000 in
theorem lifted (os : Os) (started : os.Started) (H : Type) (enc : TypeId × Value → H) (F : Stop.Interp) :
    ReturnsInHanded {} Try.checked os 4 .any ((Rows.OpenSpec.upto Rows.scopeFitSpec).pre6 enc Try.prog Try.f4 Rows.scopeFitUptoRow.domain false) (((Rows.OpenSpec.upto Rows.scopeFitSpec).at F).post enc Try.prog Try.f4 false true false false) := by
  refine returnsInHanded_of_cond (C := Try.checked) (s := Rows.OpenSpec.upto Rows.scopeFitSpec) (k := Rows.uptoSmall) rfl own started (by kernel_rfl) Try.func4
    (OpenSpec.witness (enc := enc) (C := Try.checked) (s := Rows.OpenSpec.upto Rows.scopeFitSpec) (k := Rows.uptoSmall) rfl false ⟨#[], #[.agg #[.slice none 0 0, .slice none 0 0], .agg #[.slice none 0 0, .slice none 0 0]], []⟩ 8 (by kernel_rfl) (by kernel_rfl) (by kernel_rfl)
      (x := ([.agg [.nil, .nil], .agg [.nil, .nil]], [], [])) (by kernel_rfl) rfl (by kernel_rfl)) ?_
  intro W base args ds gs before hval0 hW _ hk _
  have hval : ∀ (j : Nat) t v, Try.f4.params[j]? = some t → args[j]? = some v → Value.okWide Try.prog W .any base t v := hval0
  have hW' := hW
  obtain ⟨p, q, hA0, hV, rfl, hfz, hnd⟩ := hW
  have hA : DataW.TrodAll enc Try.prog W 0 (fun _ => true) true Try.f4.params.toList args.toList ds p := hA0
  rw [Try.params4] at hA hval
  obtain ⟨v0, vs0, d0, ds0, p0, k0, hargs, rfl, rfl, h0, r0⟩ := trodAll_cons hA
  obtain ⟨v1, vs1, d1, ds1, p1, k1, rfl, rfl, rfl, h1, r1⟩ := trodAll_cons r0
  obtain ⟨rfl, rfl, rfl⟩ := trodAll_nil r1
  obtain rfl : args = #[v0, v1] := by cases args; simp_all
  obtain ⟨rfl, rfl⟩ := trodVars_none hV
  obtain ⟨cs0, rfl, hsz0⟩ := okWide_struct Try.underlying25 (hval 0 25 v0 rfl rfl)
  have h0k := h0
  obtain ⟨f0, hf0⟩ := h0
  obtain ⟨cs1, rfl, hsz1⟩ := okWide_struct Try.underlying34 (hval 1 34 v1 rfl rfl)
  have h1k := h1
  obtain ⟨f1, hf1⟩ := h1
  clear hA0 hval0
  simp only [List.append_nil] at hW' hk
  have hbulk : Rows.uptoBulkAll [d0, d1] ≤ 1048576 := of_decide_eq_true hk
  simp only [Rows.uptoBulkAll, Nat.add_zero] at hbulk
  have hb0 : Rows.uptoBulk d0 ≤ 1048576 := by omega
  have hb1 : Rows.uptoBulk d1 ≤ 1048576 := by omega
  have hlt : ∀ x ∈ p0 ++ p1, x.block < W.heap.size := fun x hx => by simpa using hW'.lt x (by simpa using hx)
  have hback0 : ∀ (W' : World), Below W.heap.size W W' → DataW.Trod enc Try.prog W' 0 (fun b => decide (b < W.heap.size)) true 25 (.agg cs0) d0 p0 :=
    fun W' hn => Below.trod laid (by kernel_rfl) (of_decide_eq_true (by kernel_rfl)) h0k hn (fun x hx => hlt x (by simp [hx]))
  have hback1 : ∀ (W' : World), Below W.heap.size W W' → DataW.Trod enc Try.prog W' 0 (fun b => decide (b < W.heap.size)) true 34 (.agg cs1) d1 p1 :=
    fun W' hn => Below.trod laid (by kernel_rfl) (of_decide_eq_true (by kernel_rfl)) h1k hn (fun x hx => hlt x (by simp [hx]))
  obtain ⟨x, pp, pq, pc, pd, hcs0, hok, hbig, hpc, hpd⟩ := open_prgB hf0 hb0
  obtain rfl : cs0 = #[.slice pp x.regs.length pc, .slice pq x.fns.length pd] := by cases cs0; simp_all [Value.cells]
  obtain ⟨t, hcs1, hti⟩ := open_in hf1 hb1
  obtain rfl : cs1 = #[.slice t.pa t.na t.ca, .slice t.pr t.rows.length t.cr] := by cases cs1; simp_all [Value.cells]
  refine (law_fit x ⟨pp, pq, pc, pd⟩ t W.heap.size W hok hti (Nat.le_refl _) hpc hpd (by omega)).mono fun e W' ⟨he, hg⟩ => ?_
  subst he
  have hta := trodAll_cons_mk (hback0 W' hg) (trodAll_cons_mk (hback1 W' hg) trodAll_mk0)
  simp only [List.append_nil] at hta
  exact ⟨_, rfl, _, _, _, [], p0 ++ p1, [], hW', (trodAll_cons_mk (shut_bool Try.underlying4 _) trodAll_mk0), hta, rfl, hg.frame _, fun h => by cases h⟩

theorem proved : Rows.ScopeFitUptoSaid :=
  OpenClaim.holds_of_cond 4 Try.f4 rfl rfl rfl rfl rfl rfl rfl ⟨rfl, rfl, rfl, rfl, rfl⟩ rfl rfl rfl rfl rfl (by kernel_rfl) Try.func4 (by kernel_rfl)
    (of_decide_eq_true (by kernel_rfl)) (by unfold Func.isWrapper; first | (rw [if_pos (by decide +kernel)]; kernel_rfl) | (rw [if_neg (by decide +kernel)]; exact ⟨rfl, rfl⟩))
    (fun os started H enc _ F => lifted os started H enc F)
end Go.Proofs.Ythdjkjnkjkakpaa.scopeFit
