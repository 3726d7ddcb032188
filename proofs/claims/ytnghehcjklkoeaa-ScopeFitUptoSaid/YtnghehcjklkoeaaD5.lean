/- D4, D5 as one. -/
import Derived.Test.YtnghehcjklkoeaaD3
import Derived.Test.YtnghehcjklkoeaaF1
import Derived.Test.YtnghehcjklkoeaaJ7
import Derived.Test.YtnghehcjklkoeaaH2
/- The document's arguments of an operation, size of a program, variables of a function. -/
namespace Go.Proofs.Ytnghehcjklkoeaa
open Go.RowKit


theorem rargs_any (op : Int) (w : World) : Calls Try.prog 116 #[.int .i64 op] w fun z w' => z = .returned (.int .i64 (argsN op)) ∧ w = w' := by
  unfold argsN
  by_cases h1 : op < 1
  · have e : decide (op < 1) = true := decide_eq_true h1
    rw [if_pos (.inl h1)]
    go_enter Try.func116, Try.ntmps116
    go_wp2_with fail
    go_ret
    exact ⟨rfl, rfl⟩
  by_cases h2 : 21 < op
  · have e : decide (op < 1) = false := decide_eq_false h1
    rw [if_pos (.inr h2)]
    go_enter Try.func116, Try.ntmps116
    go_wp2_with fail
    go_ret
    exact ⟨rfl, rfl⟩
  rw [if_neg (by omega)]
  by_cases h3 : op ≤ 2
  · rw [if_pos h3]
    go_enter Try.func116, Try.ntmps116
    go_wp2_with fail
    go_ret
    exact ⟨rfl, rfl⟩
  rw [if_neg h3]
  by_cases h4 : op ≤ 5
  · rw [if_pos h4]
    go_enter Try.func116, Try.ntmps116
    go_wp2_with fail
    go_ret
    exact ⟨rfl, rfl⟩
  rw [if_neg h4]
  by_cases h5 : op ≤ 20
  · have e21 : (op == 21) = false := by rw [beq_eq_false_iff_ne]; omega
    rw [if_pos h5]
    go_enter Try.func116, Try.ntmps116
    go_wp2_with fail
    go_ret
    exact ⟨rfl, rfl⟩
  · obtain rfl : op = 21 := by omega
    rw [if_neg h5]
    go_enter Try.func116, Try.ntmps116
    go_wp2_with fail
    go_ret
    exact ⟨rfl, rfl⟩

theorem sumSc_le : ∀ l : List Fnc, sumSc l ≤ fnsBig l
  | [] => Nat.le_refl 0
  | f :: r => by rw [sumSc, fnsBig]; have := Sts.sc_le f.body 1; have := sumSc_le r; omega
set_option maxHeartbeats 3200000 in
theorem rsize_any (x : Prg) (s : PrgP) (N : Nat) (w : World) (h : x.Ok w N s.p s.q) (hN : N ≤ w.heap.size) (hbig : fnsBig x.fns ≤ 4000000) :
    Calls Try.prog 50 #[x.v s] w fun z w' => z = .returned (.int .i64 (cap x.total : Nat)) ∧ Below w.heap.size w w' := by
  obtain ⟨p, q, c, d⟩ := s
  obtain ⟨w1, hw1, k0, hB1, hz1⟩ := one_alloc w (.cells #[.slice p x.regs.length c, .slice q x.fns.length d] 25)
  have hm := h.2.1
  have hlz : w.heap.size < w1.heap.size := lt_blk k0
  have HA := Lib.hid (Row.start (RowIn.imp h.2 (Nat.le_refl N) (Fnc.At.later (hB1.mono hN) (Nat.le_refl N))))
  have HB1 := Lib.hid hB1
  have HK := Lib.hid k0
  have HNN := Lib.hid hN
  have HT := Lib.hid (show x.total ≤ 4000000 from Nat.le_trans (sumSc_le x.fns) hbig)
  have HBg := Lib.hid (fun (f : Fnc) (hf : f ∈ x.fns) => show f.body.big ≤ 4000000 by have := fnsBig_mem x.fns f hf; omega)
  have htot : x.total = sumSc x.fns := rfl
  obtain ⟨b, o, hq, hb, ha⟩ := HA.out
  have Hb := Lib.hid hb
  have HAt := Lib.hid ha
  unfold Prg.v
  clear h k0 hB1 HA ha hb hbig
  go_enter Try.func50, Try.ntmps50
  go_wp2_with fail
  go_loopw [3, 4] (fun n i wr => ∃ (k v : Nat) (r : List Fnc), n = .int .i64 v ∧ i = .int .i64 k ∧ k + r.length = x.fns.length ∧ Hid (∀ f ∈ r, f ∈ x.fns) ∧ Hid (Row (Fnc.At w1 N) 5 r b (o + k * 5)) ∧ Hid (v + sumSc r = x.total) ∧ Hid (Below w1.heap.size w1 wr)) (fun _ i _ => x.fns.length - (intOf i).toNat)
  case atStart => exact ⟨0, 0, x.fns, rfl, rfl, by omega, Lib.hid (fun _ h => h), Lib.hid (by rw [Nat.zero_mul]; exact HAt.out), Lib.hid (by omega), Lib.hid (Below.refl _ _)⟩
  case round =>
    obtain ⟨k, v, r, rfl, rfl, hk, hmem, hr, hE, hB⟩ := hrel
    have c1 : wr.cell? ⟨w.heap.size, 1, none⟩ = some (.slice q x.fns.length d) := cell_blk ((hB.out.block _ (lt_blk HK.out)).trans HK.out) rfl
    cases r with
    | nil =>
      simp only [List.length_nil] at hk
      have hge : ¬ k < x.fns.length := by omega
      have hv : v = x.total := by have := hE.out; rw [sumSc] at this; omega
      have HR := Lib.hid (HB1.out.trans (hB.out.mono (by omega)))
      clear htot
      by_cases h7 : 65537 < v
      · have HV := Lib.hid (show cap x.total = 65537 by unfold cap; rw [if_neg (by omega)])
        have hi7 : (65537 : Int) < (v : Int) := by omega
        clear hv
        go_wp2_with fail
        go_ret
        exact ⟨by rw [HV.out]; rfl, HR.out⟩
      · have HV := Lib.hid (show v = cap x.total by unfold cap; split <;> omega)
        have hi7 : ¬ (65537 : Int) < (v : Int) := by omega
        clear hv
        go_wp2_with fail
        go_ret
        exact ⟨by rw [← HV.out]; rfl, HR.out⟩
    | cons y r =>
      obtain ⟨hy, hr'⟩ := hr.out
      simp only [List.length_cons] at hk
      have hlt : k < x.fns.length := by omega
      rcases hq with h0 | rfl
      · omega
      have hbN : b < N := by have := Hb.out; omega
      obtain ⟨pb, cb, hc4, hin⟩ := Fnc.At.bodyC (Fnc.At.later (hB.out.mono (Nat.le_trans HNN.out (by omega))) (Nat.le_refl N) y b _ hbN hy)
      have HC := Lib.hid (rstmts_to _ y.body (Nat.lt_succ_self _) (HBg.out y (hmem.out y (by simp))) 1 (by decide) pb cb N wr hin (Nat.le_trans HNN.out (Nat.le_trans (by omega) hB.out.size)))
      have hE2 := hE.out
      rw [sumSc] at hE2
      have hw0 := wrapS v (y.body.sc 1) (by have := HT.out; omega)
      have HE2 := Lib.hid (show v + y.body.sc 1 + sumSc r = x.total by omega)
      have HR := Lib.hid hr'
      generalize y.body.sc 1 = u at HC hw0 HE2
      clear hy hr' hr hin hE2 hE htot
      go_wp2_with fail
      refine HC.out.mono ?_
      rintro e w2 ⟨rfl, hB2⟩
      have HB2 := Lib.hid (hB.out.trans (hB2.mono hB.out.size))
      clear hB2 HC
      go_wp2_with fail
      go_roundw
      case rel => exact ⟨k + 1, v + u, r, by go_num, by go_num, by omega, Lib.hid (fun f hf => hmem.out f (List.mem_cons_of_mem _ hf)), Lib.hid (by rw [show o + (k + 1) * 5 = o + k * 5 + 5 by omega]; exact HR.out), HE2, HB2⟩
      case measure => simp [intOf]; omega
set_option maxRecDepth 100000 in
set_option maxHeartbeats 3200000 in
theorem rvars_any (f : Fnc) (s : FncP) (N : Nat) (w : World) (h : f.Ok w N s) (hN : N ≤ w.heap.size) (hbig : f.params.length + f.vars.length ≤ 4000000) :
    Calls Try.prog 51 #[f.v s] w fun z w' => ∃ p c, z = .returned (.slice p (f.params ++ f.vars).length c) ∧ RowIn w'.heap.size (Vr.At w') 4 (f.params ++ f.vars) p ∧ Below w.heap.size w w' := by
  obtain ⟨i0, hi, hz0, hz1, hz2⟩ := info_parts infoVr
  obtain ⟨pp, pv, pr, pb, cp, cv, cr, cb⟩ := s
  obtain ⟨l, hl⟩ : ∃ l, l = f.params ++ f.vars := ⟨_, rfl⟩
  rw [← hl]
  have HL := Lib.hid hl
  clear hl
  obtain ⟨w1, hw1, k0, hB1, hz⟩ := one_alloc w (.cells #[.string (str f.name), .slice pp f.params.length cp, .slice pv f.vars.length cv, .slice pr f.rets.length cr, .slice pb f.body.len cb] 55)
  have HK := Lib.hid (fun (W : World) (hB : Below w1.heap.size w1 W) => show W.cell? ⟨w.heap.size, 1, none⟩ = some (.slice pp f.params.length cp) ∧ W.cell? ⟨w.heap.size, 2, none⟩ = some (.slice pv f.vars.length cv) from ⟨cell_blk ((hB.block _ (lt_blk k0)).trans k0) rfl, cell_blk ((hB.block _ (lt_blk k0)).trans k0) rfl⟩)
  have H1 := Lib.hid (fun (W : World) (hB : Below w1.heap.size w1 W) => vr_src (h.1.imp (Nat.le_refl N) (Vr.At.later ((hB1.mono hN).trans (hB.mono (by omega))))))
  have H2 := Lib.hid (fun (W : World) (hB : Below w1.heap.size w1 W) => vr_src (h.2.1.imp (Nat.le_refl N) (Vr.At.later ((hB1.mono hN).trans (hB.mono (by omega))))))
  have HB1 := Lib.hid hB1
  have HZ := Lib.hid hz
  have HW1 := Lib.hid hw1
  have hX : Below w1.heap.size w1 w1.drew := (Below.refl _ _).drew
  unfold Fnc.v
  clear k0 hB1 h hw1 hz
  go_enter Try.func51, Try.ntmps51
  go_upto_region 1 with fail
  rw [HW1.out]
  refine wp_region_held_drew (S := fun W => W.cell? ⟨w.heap.size, 1, none⟩ = some (.slice pp f.params.length cp) ∧ W.cell? ⟨w.heap.size, 2, none⟩ = some (.slice pv f.vars.length cv)) (by kernel_rfl) ?_ (fun hHeld => ?_)
  · exact HK.out _ hX
  refine tk 0 ?_ rfl (.inl ⟨by rfl, ?_⟩) ?_
  rotate_left
  · (intro w hSw; (try dsimp only at hSw); go_simp; try with_reducible rfl)
  try simp only [Act.put, List.setIfInBounds_toArray, List.set_cons_zero, List.set_cons_succ]
  refine tk 1 ?_ rfl (.inl ⟨by rfl, ?_⟩) ?_
  rotate_left
  · (intro w hSw; (try dsimp only at hSw); go_simp; try with_reducible rfl)
  try simp only [Act.put, List.setIfInBounds_toArray, List.set_cons_zero, List.set_cons_succ]
  refine tk 3 ?_ rfl (.inl ⟨by rfl, ?_⟩) ?_
  rotate_left
  · (intro w hSw; (try dsimp only at hSw); go_simp; try with_reducible rfl)
  try simp only [Act.put, List.setIfInBounds_toArray, List.set_cons_zero, List.set_cons_succ]
  refine tk 4 ?_ rfl (.inl ⟨by rfl, ?_⟩) ?_
  rotate_left
  · (intro w hSw; (try dsimp only at hSw); go_simp; try with_reducible rfl)
  try simp only [Act.put, List.setIfInBounds_toArray, List.set_cons_zero, List.set_cons_succ]
  obtain ⟨v1, w2, hap, hown, hgr⟩ := run_app (P := Try.prog) w1.drew w1.heap.size 53 53 52 i0 _ 4 40 Try.underlying53 hi hz0 hz1 hz2 rfl (by decide) (.slice none 0 0) 0 [] ⟨rfl, .inl ⟨rfl, rfl⟩⟩ pp f.params.length cp (vrCells f.params) (H1.out _ hX) (vr_one f.params) (by unfold maxLen; omega) (by omega) (Nat.le_refl _)
  rw [Nat.zero_add, List.nil_append] at hown
  have hX2 : Below w1.heap.size w1 w2 := below_grown (e := 52) (n := 0) (size := 4) (xs := []) hX hgr (Nat.le_refl _) ⟨rfl, .inl ⟨rfl, rfl⟩⟩
  replace hX := hX2
  refine wpAnyH_ready (rs := [2]) (by kernel_rfl) (by simp) ?_
  refine rdy rfl (fun K hK => ?_) AllReadyH.nil
  refine Lib.wp_append_run _ _ _ _ _ rfl _ _ rfl rfl _ _ hap ?_
  refine hK.out _ _ ?_ (fun hHeld => ?_)
  · exact HK.out _ hX
  clear hK K
  try simp only [Act.put, List.setIfInBounds_toArray, List.set_cons_zero, List.set_cons_succ]
  obtain ⟨v2, w3, hap2, hown2, hgr2⟩ := run_app (P := Try.prog) w2 w1.heap.size 53 53 52 i0 _ 4 40 Try.underlying53 hi hz0 hz1 hz2 rfl (by decide) v1 f.params.length (vrCells f.params) hown pv f.vars.length cv (vrCells f.vars) (H2.out _ hX) (vr_one f.vars) (by unfold maxLen; omega) (by omega) hX.size
  have hX3 : Below w1.heap.size w1 w3 := below_grown hX hgr2 hX.size hown
  replace hX := hX3
  have hO2 : w3.ownsRow w1.heap.size 52 4 v2 l.length (vrCells l) := by rw [HL.out]; simpa [vrCells] using hown2
  refine wpAnyH_ready (rs := [5]) (by kernel_rfl) (by simp) ?_
  refine rdy rfl (fun K hK => ?_) AllReadyH.nil
  refine Lib.wp_append_run _ _ _ _ _ rfl _ _ rfl rfl _ _ hap2 ?_
  refine hK.out _ _ ?_ (fun hHeld => ?_)
  · exact HK.out _ hX
  clear hK K
  try simp only [Act.put, List.setIfInBounds_toArray, List.set_cons_zero, List.set_cons_succ]
  refine tk 6 ?_ rfl (.inl ⟨by rfl, ?_⟩) ?_
  rotate_left
  · (intro w hSw; (try dsimp only at hSw); go_simp; try with_reducible rfl)
  try simp only [Act.put, List.setIfInBounds_toArray, List.set_cons_zero, List.set_cons_succ]
  refine wpAnyH_done (by kernel_rfl) ?_ _
  obtain ⟨p, c, rfl, hrow⟩ := own_row hO2 (by rw [HL.out, List.length_append]; omega)
  have HR := Lib.hid (And.intro hrow (HB1.out.trans (hX.mono (by have := HZ.out; omega))))
  clear hO2 hrow hX hX2 hX3 hown hown2 hgr hgr2 hap hap2
  go_wp2_with fail
  go_ret
  first | exact ⟨p, c, rfl, HR.out⟩ | exact ⟨p, ⟨c, rfl⟩, HR.out⟩
end Go.Proofs.Ytnghehcjklkoeaa
/- The document's: what a name is in a function. -/
namespace Go.Proofs.Ytnghehcjklkoeaa
open Go.RowKit

/-- what a name is: 0 nothing, 1 a word, 2 an array, 3 a region -/
def findK (x : Prg) (fn : Fnc) (nm : List UInt8) : Nat :=
  if (found x fn nm).2.1 then (if (found x fn nm).2.2 then 3 else if (found x fn nm).1.kind == 1 then 1 else 2) else 0
theorem findK_word (x : Prg) (fn : Fnc) (nm : List UInt8) : (findK x fn nm = 0 ∧ wordR x fn nm = 8 ∧ arrayR x fn nm = 8) ∨ (findK x fn nm = 1 ∧ wordR x fn nm = 0 ∧ arrayR x fn nm = 9) ∨ ((findK x fn nm = 2 ∨ findK x fn nm = 3) ∧ wordR x fn nm = 9 ∧ arrayR x fn nm = 0) := by
  unfold findK wordR arrayR ask
  have hreg : (found x fn nm).2.2 = true → (found x fn nm).1.kind = 3 := by
    unfold found
    split
    · intro h; cases h
    · split
      · intro _; rfl
      · intro h; cases h
  cases h1 : (found x fn nm).2.1
  · simp
  · cases h2 : (found x fn nm).2.2
    · cases h3 : (found x fn nm).1.kind == 1
      · have : ((found x fn nm).1.kind != 1) = true := by simp [bne, h3]
        simp [this]
      · have : ((found x fn nm).1.kind != 1) = false := by simp [bne, h3]
        simp [this]
    · have := hreg h2
      simp [this]
theorem ret_two {k : Nat} {j : Int} {k2 : Nat} (h : k = k2) : Ending.returned (.tuple #[.int .i64 (k : Int), .int .i64 j]) = Ending.returned (.tuple #[.int .i64 (k2 : Int), .int .i64 j]) := by rw [h]
set_option maxRecDepth 100000 in
set_option maxHeartbeats 6400000 in
theorem rfind_any (x : Prg) (s : PrgP) (i : Nat) (fn : Fnc) (nm : List UInt8) (N : Nat) (w : World) (h : x.Ok w N s.p s.q) (hN : N ≤ w.heap.size) (hi : x.fns[i]? = some fn) (hbig : fn.params.length + fn.vars.length ≤ 4000000) :
    Calls Try.prog 115 #[x.v s, .int .i64 (i : Int), .string (str nm)] w fun z w' => (∃ j : Int, z = .returned (.tuple #[.int .i64 (findK x fn nm : Nat), .int .i64 j])) ∧ Below w.heap.size w w' := by
  obtain ⟨p, q, c, d⟩ := s
  have hil : i < x.fns.length := (List.getElem?_eq_some_iff.1 hi).1
  obtain ⟨w1, hw1, k0, hB1, hz1⟩ := one_alloc w (.cells #[.slice p x.regs.length c, .slice q x.fns.length d] 25)
  obtain ⟨b, o, hp, hb, ha⟩ := Row.start h.1
  obtain ⟨b', o', hq, hb', ha'⟩ := Row.start h.2
  have hm := h.1.1
  have hm' := h.2.1
  have HA := Lib.hid (And.intro ha hb)
  obtain ⟨⟨pp, pv, pr, pb, cp, cv, cr, cb⟩, e0, e1, e2, e3, e4, hok⟩ := Fnc.At.all (Row.get ha' hi)
  have hbw : b' < w.heap.size := by omega
  have g0 := (hB1.cell (p := ⟨b', o' + i * 5, none⟩) hbw).trans e0
  have g1 := (hB1.cell (p := ⟨b', o' + i * 5 + 1, none⟩) hbw).trans e1
  have g2 := (hB1.cell (p := ⟨b', o' + i * 5 + 2, none⟩) hbw).trans e2
  have g3 := (hB1.cell (p := ⟨b', o' + i * 5 + 3, none⟩) hbw).trans e3
  have g4 := (hB1.cell (p := ⟨b', o' + i * 5 + 4, none⟩) hbw).trans e4
  have HV := Lib.hid (rvars_any fn ⟨pp, pv, pr, pb, cp, cv, cr, cb⟩ N w1 (hok.later (hB1.mono hN) (Nat.le_refl N)) (by omega) hbig)
  have c1 : w1.cell? ⟨w.heap.size, 1, none⟩ = some (.slice q x.fns.length d) := cell_blk k0 rfl
  have HB1 := Lib.hid hB1
  have HZ1 := Lib.hid hz1
  have HCR := Lib.hid (fun (W : World) (hB : Below w1.heap.size w1 W) => show W.cell? ⟨w.heap.size, 0, none⟩ = some (.slice p x.regs.length c) from cell_blk ((hB.block _ (lt_blk k0)).trans k0) rfl)
  have hlt0 : ¬ (i : Int) < 0 := by omega
  have hge0 : ¬ (x.fns.length : Int) ≤ (i : Int) := by omega
  have HBig := Lib.hid hbig
  have HN := Lib.hid hN
  unfold Fnc.v at HV
  unfold Prg.v
  have hqs : q = some ⟨b', o', none⟩ := by
    rcases hq with h0 | h0
    · omega
    · exact h0
  subst hqs
  obtain ⟨l, hl⟩ : ∃ l, l = fn.params ++ fn.vars := ⟨_, rfl⟩
  rw [← hl] at HV
  have hlen : l.length ≤ 4000000 := by rw [hl, List.length_append]; exact hbig
  have HL := Lib.hid hl
  clear hq k0 hB1 h hb hb' ha ha' e0 e1 e2 e3 e4 hok hi hl hbig hN hz1
  go_enter Try.func115, Try.ntmps115
  go_wp2_with fail
  refine HV.out.mono ?_
  rintro z w2 ⟨pl, cl, rfl, hrow, hB2⟩
  obtain ⟨b4, o4, hp4, hb4, ha4⟩ := Row.start hrow
  have HA4 := Lib.hid (And.intro ha4 hb4)
  have HB2 := Lib.hid hB2
  have HEnd := Lib.hid (show Below w.heap.size w w2 from HB1.out.trans (hB2.mono (by have := HZ1.out; omega)))
  clear g0 g1 g2 g3 g4 c1 hrow hB2 hb4 ha4 HV hw1
  go_wp2_with fail
  go_loopw [9] (fun i wr => ∃ (d r : List Vr), i = .int .i64 d.length ∧ d.length + r.length = l.length ∧ Hid (l = d ++ r) ∧ Hid (Row (Vr.At w2) 4 r b4 (o4 + d.length * 4)) ∧ wr = w2 ∧ Hid (d.all (fun y => !named nm y) = true)) (fun i _ => l.length - (intOf i).toNat)
  case atStart => exact ⟨[], l, rfl, by rw [List.length_nil]; omega, Lib.hid rfl, Lib.hid (by simpa using HA4.out.1), rfl, Lib.hid rfl⟩
  case round =>
    obtain ⟨d4, r4, rfl, hk4, hd4, hr4, rfl, hE4⟩ := hrel
    cases r4 with
    | nil =>
      simp only [List.length_nil] at hk4
      have hge4 : ¬ d4.length < l.length := by omega
      have HE4 := Lib.hid (show (fn.params ++ fn.vars).all (fun y => !named nm y) = true by rw [← HL.out, hd4.out, List.append_nil]; exact hE4.out)
      have c0 := HCR.out _ HB2.out
      clear hE4
      go_wp2_with fail
      clear c0
      go_loopw [10] (fun i wx => ∃ (d r : List Rgn), i = .int .i64 d.length ∧ d.length + r.length = x.regs.length ∧ Hid (x.regs = d ++ r) ∧ Hid (Row (Rgn.At w) 4 r b (o + d.length * 4)) ∧ wx = wr ∧ Hid (d.all (fun y => !rgNamed nm y) = true)) (fun i _ => x.regs.length - (intOf i).toNat)
      case atStart => exact ⟨[], x.regs, rfl, by rw [List.length_nil]; omega, Lib.hid rfl, Lib.hid (by simpa using HA.out.1), rfl, Lib.hid rfl⟩
      case round =>
        obtain ⟨d5, r5, rfl, hk5, hd5, hr5, rfl, hE5⟩ := hrel
        have c0 := HCR.out _ HB2.out
        cases r5 with
        | nil =>
          simp only [List.length_nil] at hk5
          have hge5 : ¬ d5.length < x.regs.length := by omega
          have HF := Lib.hid (found_none (x := x) (f := fn) (nm := nm) HE4.out (by rw [hd5.out, List.append_nil]; exact hE5.out))
          have HK := Lib.hid (show 0 = findK x fn nm by unfold findK; rw [HF.out]; rfl)
          clear hE5
          go_wp2_with fail
          go_ret2
          exact ⟨⟨_, ret_two HK.out⟩, HEnd.out⟩
        | cons v r5 =>
          simp only [List.length_cons] at hk5
          have hlt5 : d5.length < x.regs.length := by omega
          rcases hp with h0 | rfl
          · omega
          have hbN : b < w.heap.size := by have := HA.out.2; have := HN.out; omega
          obtain ⟨hv, hr5'⟩ := hr5.out
          obtain ⟨d0, d1, d2, d3⟩ := Rgn.At.later HEnd.out v b _ hbN hv
          have HR5 := Lib.hid hr5'
          have e1 := str_eqb v.name nm
          have HN4 := Lib.hid (show (v.name == nm) = rgNamed nm v from rfl)
          clear hv hr5 hr5'
          generalize (v.name == nm) = t1 at e1 HN4
          cases t1 with
          | true =>
            have HF := Lib.hid (found_rgn (x := x) (f := fn) (nm := nm) (v := v) (d := d5) (r := r5) HE4.out hd5.out HN4.out.symm hE5.out)
            have HK := Lib.hid (show 3 = findK x fn nm by unfold findK; rw [HF.out]; rfl)
            clear hE5
            go_wp2_with fail
            go_ret2
            exact ⟨⟨_, ret_two HK.out⟩, HEnd.out⟩
          | false =>
            have HE6 := Lib.hid (all_snoc hE5.out HN4.out.symm)
            clear hE5
            go_wp2_with fail
            go_roundw
            case rel => exact ⟨d5 ++ [v], r5, by rw [List.length_append]; go_num, by simp; omega, Lib.hid (by rw [hd5.out]; simp), Lib.hid (by rw [List.length_append, List.length_singleton, show o + (d5.length + 1) * 4 = o + d5.length * 4 + 4 by omega]; exact HR5.out), trivial, HE6⟩
            case measure => simp [intOf]; omega
    | cons v r4 =>
      simp only [List.length_cons] at hk4
      have hlt4 : d4.length < l.length := by omega
      rcases hp4 with h0 | rfl
      · omega
      obtain ⟨hv, hr4'⟩ := hr4.out
      obtain ⟨d0, d1, d2, d3⟩ := hv
      have HR4 := Lib.hid hr4'
      have e1 := str_eqb v.name nm
      have HN4 := Lib.hid (show (v.name == nm) = named nm v from rfl)
      clear hr4 hr4'
      generalize (v.name == nm) = t1 at e1 HN4
      cases t1 with
      | true =>
        have HF := Lib.hid (found_var (x := x) (f := fn) (nm := nm) (v := v) (d := d4) (r := r4) (by rw [← HL.out]; exact hd4.out) HN4.out.symm hE4.out)
        clear hE4
        cases hk1 : v.kind == 1 with
        | true =>
          have HK := Lib.hid (show 1 = findK x fn nm by unfold findK; rw [HF.out]; simp only [hk1]; rfl)
          go_wp2_with fail
          go_ret2
          exact ⟨⟨_, ret_two HK.out⟩, HEnd.out⟩
        | false =>
          have HK := Lib.hid (show 2 = findK x fn nm by unfold findK; rw [HF.out]; simp only [hk1]; rfl)
          go_wp2_with fail
          go_ret2
          exact ⟨⟨_, ret_two HK.out⟩, HEnd.out⟩
      | false =>
        have HE5 := Lib.hid (all_snoc hE4.out HN4.out.symm)
        clear hE4
        go_wp2_with fail
        go_roundw
        case rel => exact ⟨d4 ++ [v], r4, by rw [List.length_append]; go_num, by simp; omega, Lib.hid (by rw [hd4.out]; simp), Lib.hid (by rw [List.length_append, List.length_singleton, show o4 + (d4.length + 1) * 4 = o4 + d4.length * 4 + 4 by omega]; exact HR4.out), trivial, HE5⟩
        case measure => simp [intOf]; omega

set_option maxHeartbeats 3200000 in
theorem rword_any (x : Prg) (s : PrgP) (i : Nat) (fn : Fnc) (nm : List UInt8) (N : Nat) (w : World) (h : x.Ok w N s.p s.q) (hN : N ≤ w.heap.size) (hi : x.fns[i]? = some fn) (hbig : fn.params.length + fn.vars.length ≤ 4000000) :
    Calls Try.prog 107 #[x.v s, .int .i64 (i : Int), .string (str nm)] w fun z w' => z = .returned (.int .i64 (wordR x fn nm : Nat)) ∧ Below w.heap.size w w' := by
  obtain ⟨p, q, c, d⟩ := s
  obtain ⟨w1, hw1, k0, hB1, hz1⟩ := one_alloc w (.cells #[.slice p x.regs.length c, .slice q x.fns.length d] 25)
  have HF := Lib.hid (rfind_any x ⟨p, q, c, d⟩ i fn nm N w1 (h.later (hB1.mono hN) (Nat.le_refl N)) (by omega) hi hbig)
  have c0 : w1.cell? ⟨w.heap.size, 0, none⟩ = some (.slice p x.regs.length c) := cell_blk k0 rfl
  have c1 : w1.cell? ⟨w.heap.size, 1, none⟩ = some (.slice q x.fns.length d) := cell_blk k0 rfl
  have HK := findK_word x fn nm
  have HB1 := Lib.hid (And.intro hB1 hz1)
  unfold Prg.v at HF ⊢
  generalize findK x fn nm = K at HF HK
  generalize wordR x fn nm = R at HK ⊢
  clear h hi hbig k0 hB1
  rcases HK with ⟨rfl, rfl, _⟩ | ⟨rfl, rfl, _⟩ | ⟨rfl | rfl, rfl, _⟩
  all_goals
    (go_enter Try.func107, Try.ntmps107
     go_wp2_with fail
     refine HF.out.mono ?_
     rintro z w2 ⟨⟨j, rfl⟩, hB2⟩
     have HE := Lib.hid (HB1.out.1.trans (hB2.mono (by have := HB1.out.2; omega)))
     clear hB2
     go_wp2_with fail
     go_ret
     exact ⟨rfl, HE.out⟩)
set_option maxHeartbeats 3200000 in
theorem rarray_any (x : Prg) (s : PrgP) (i : Nat) (fn : Fnc) (nm : List UInt8) (N : Nat) (w : World) (h : x.Ok w N s.p s.q) (hN : N ≤ w.heap.size) (hi : x.fns[i]? = some fn) (hbig : fn.params.length + fn.vars.length ≤ 4000000) :
    Calls Try.prog 109 #[x.v s, .int .i64 (i : Int), .string (str nm)] w fun z w' => z = .returned (.int .i64 (arrayR x fn nm : Nat)) ∧ Below w.heap.size w w' := by
  obtain ⟨p, q, c, d⟩ := s
  obtain ⟨w1, hw1, k0, hB1, hz1⟩ := one_alloc w (.cells #[.slice p x.regs.length c, .slice q x.fns.length d] 25)
  have HF := Lib.hid (rfind_any x ⟨p, q, c, d⟩ i fn nm N w1 (h.later (hB1.mono hN) (Nat.le_refl N)) (by omega) hi hbig)
  have c0 : w1.cell? ⟨w.heap.size, 0, none⟩ = some (.slice p x.regs.length c) := cell_blk k0 rfl
  have c1 : w1.cell? ⟨w.heap.size, 1, none⟩ = some (.slice q x.fns.length d) := cell_blk k0 rfl
  have HK := findK_word x fn nm
  have HB1 := Lib.hid (And.intro hB1 hz1)
  unfold Prg.v at HF ⊢
  generalize findK x fn nm = K at HF HK
  generalize arrayR x fn nm = R at HK ⊢
  clear h hi hbig k0 hB1
  rcases HK with ⟨rfl, _, rfl⟩ | ⟨rfl, _, rfl⟩ | ⟨rfl | rfl, _, rfl⟩
  all_goals
    (go_enter Try.func109, Try.ntmps109
     go_wp2_with fail
     refine HF.out.mono ?_
     rintro z w2 ⟨⟨j, rfl⟩, hB2⟩
     have HE := Lib.hid (HB1.out.1.trans (hB2.mono (by have := HB1.out.2; omega)))
     clear hB2
     go_wp2_with fail
     go_ret
     exact ⟨rfl, HE.out⟩)
end Go.Proofs.Ytnghehcjklkoeaa
