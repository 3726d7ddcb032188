/- Which inputs fit: the program's Fit. -/
import Derived.Test.YtihmibggonffdaaGreatK5
import Derived.Test.YtihmibggonffdaaGreatF2
namespace Go.Proofs.YtihmibggonffdaaGreat
open Go.RowKit

def LenAt (w : World) (n : Nat) (b o : Nat) : Prop := ∃ p c, w.cell? ⟨b, o, none⟩ = some (.slice p n c) ∧ n ≤ 140737488355328
theorem LenAt.later {N : Nat} {w w' : World} (hw : Below N w w') (n : Nat) (b o : Nat) (hb : b < N) (h : LenAt w n b o) : LenAt w' n b o := by
  obtain ⟨p, c, h1, h2⟩ := h
  exact ⟨p, c, (hw.cell hb).trans h1, h2⟩
def lenB : List Nat → List Rgn → Bool
  | n :: l, r :: rs => !((n : Int) != r.size) && lenB l rs
  | _, _ => true
def fitI (b : Bool) : Int := if b then 0 else 2
def lastP (x : Prg) : Nat := match x.fns.getLast? with | some f => f.params.length | none => 0
def fitB (x : Prg) (na : Nat) (rows : List Nat) : Bool := decide (mayR x = 0) && !((na : Int) != (lastP x : Int)) && !((rows.length : Int) != (x.regs.length : Int)) && lenB rows x.regs
structure InP where
  (pa pr : Option Addr) (na ca cr : Nat) (rows : List Nat)
def InP.v (t : InP) : Value := .agg #[.slice t.pa t.na t.ca, .slice t.pr t.rows.length t.cr]
structure InP.Ok (w : World) (N : Nat) (t : InP) : Prop where
  na : t.na ≤ 140737488355328
  rows : RowIn N (LenAt w) 1 t.rows t.pr
theorem InP.Ok.later {w w' : World} {N : Nat} {t : InP} (h : t.Ok w N) (hB : Below N w w') : t.Ok w' N := ⟨h.na, h.rows.imp (Nat.le_refl N) (LenAt.later hB)⟩
theorem last_of {x : Prg} (h : 1 ≤ x.fns.length) : ∃ ds fn, x.fns = ds ++ [fn] ∧ lastP x = fn.params.length := by
  obtain ⟨ds, fn, h1⟩ : ∃ ds fn, x.fns = ds ++ [fn] := by
    rcases List.eq_nil_or_concat x.fns with h0 | ⟨ds, fn, h0⟩
    · rw [h0] at h; simp at h
    · exact ⟨ds, fn, by rw [h0, List.concat_eq_append]⟩
  exact ⟨ds, fn, h1, by unfold lastP; rw [h1]; simp⟩
theorem may_fns {x : Prg} (h : mayR x = 0) : 1 ≤ x.fns.length := by
  have h1 := ((may_zero x).1 h).1
  simp only [Prg.few, fewB, Bool.and_eq_true, decide_eq_true_eq] at h1
  omega
theorem fit_no {x : Prg} {na : Nat} {rows : List Nat} (h : mayR x ≠ 0) : fitB x na rows = false := by unfold fitB; rw [decide_eq_false h]; rfl
theorem fit_yes {x : Prg} {na : Nat} {rows : List Nat} (h : mayR x = 0) : fitB x na rows = (!((na : Int) != (lastP x : Int)) && (!((rows.length : Int) != (x.regs.length : Int)) && lenB rows x.regs)) := by unfold fitB; rw [decide_eq_true h]; simp only [Bool.true_and, Bool.and_assoc]

set_option maxRecDepth 100000 in
set_option maxHeartbeats 6400000 in
theorem fit_any (x : Prg) (s : PrgP) (t : InP) (N : Nat) (w : World) (h : x.Ok w N s.p s.q) (ht : t.Ok w N) (hN : N ≤ w.heap.size) (hc : x.regs.length ≤ s.c) (hd : x.fns.length ≤ s.d) :
    Calls Tryz.prog 47 #[x.v s, t.v] w fun z w' => z = .returned (.int .i64 (fitI (fitB x t.na t.rows))) ∧ Below w.heap.size w w' := by
  obtain ⟨p, q, c, d⟩ := s
  obtain ⟨pa, pr, na, ca, cr, rows⟩ := t
  obtain ⟨W0, hW0, k0, k1, hB0, hz0⟩ := two_alloc w (.cells #[.slice p x.regs.length c, .slice q x.fns.length d] 25) (.cells #[.slice pa na ca, .slice pr rows.length cr] 66)
  have HU := Lib.hid (fun (W : World) (hB : Below W0.heap.size W0 W) => show Below w.heap.size w W from hB0.trans (hB.mono (by omega)))
  have HP := Lib.hid (fun (W : World) (hB : Below W0.heap.size W0 W) => show W.cell? ⟨w.heap.size, 0, none⟩ = some (.slice p x.regs.length c) ∧ W.cell? ⟨w.heap.size, 1, none⟩ = some (.slice q x.fns.length d) ∧ W.cell? ⟨w.heap.size + 1, 0, none⟩ = some (.slice pa na ca) ∧ W.cell? ⟨w.heap.size + 1, 1, none⟩ = some (.slice pr rows.length cr) from
    ⟨cell_blk ((hB.block _ (lt_blk k0)).trans k0) rfl, cell_blk ((hB.block _ (lt_blk k0)).trans k0) rfl, cell_blk ((hB.block _ (lt_blk k1)).trans k1) rfl, cell_blk ((hB.block _ (lt_blk k1)).trans k1) rfl⟩)
  obtain ⟨b, o, hp, hb, ha⟩ := Row.start h.1
  obtain ⟨b', o', hq, hb', ha'⟩ := Row.start h.2
  obtain ⟨b5, o5, hr, hb5, ha5⟩ := Row.start (show RowIn N (LenAt w) 1 rows pr from ht.rows)
  have hm := h.1.1
  have hm' := h.2.1
  have hm5 : rows.length ≤ 140737488355328 := ht.rows.1
  have hmn : na ≤ 140737488355328 := ht.na
  have HRg := Lib.hid (fun (W : World) (ds r : List Rgn) (y : Rgn) (hB : Below w.heap.size w W) (hE : x.regs = ds ++ y :: r) => show p = some ⟨b, o, none⟩ ∧ W.cell? ⟨b, o + ds.length * 4 + 2, none⟩ = some (.int .i64 y.size) from by
    have hlt : ds.length < x.regs.length := by rw [hE]; simp
    have h1 := Row.get (i := ds.length) (x := y) ha (by rw [hE]; simp)
    exact ⟨by rcases hp with h0 | h0; (· omega); (· exact h0), (Rgn.At.later hB y b _ (show b < w.heap.size by omega) h1).2.2.1⟩)
  have HFn := Lib.hid (fun (W : World) (ds r : List Fnc) (y : Fnc) (hB : Below w.heap.size w W) (hE : x.fns = ds ++ y :: r) => show ∃ sg : FncP, q = some ⟨b', o', none⟩ ∧ W.cell? ⟨b', o' + ds.length * 5 + 1, none⟩ = some (.slice sg.pp y.params.length sg.cp) ∧ y.params.length ≤ 140737488355328 from by
    have hlt : ds.length < x.fns.length := by rw [hE]; simp
    obtain ⟨sg, e0, e1, e2, e3, e4, hok⟩ := Fnc.At.all (Row.get (i := ds.length) (x := y) ha' (by rw [hE]; simp))
    have hbw : b' < w.heap.size := by omega
    refine ⟨sg, ?_, (hB.cell (p := ⟨b', _, none⟩) hbw).trans e1, hok.1.1⟩
    rcases hq with h0 | h0
    · omega
    · exact h0)
  have HRw := Lib.hid (fun (W : World) (ds r : List Nat) (n : Nat) (hB : Below w.heap.size w W) (hE : rows = ds ++ n :: r) => show pr = some ⟨b5, o5, none⟩ ∧ ∃ pk ck, W.cell? ⟨b5, o5 + ds.length, none⟩ = some (.slice pk n ck) ∧ n ≤ 140737488355328 from by
    have hlt : ds.length < rows.length := by rw [hE]; simp
    have h1 := Row.get (i := ds.length) (x := n) ha5 (by rw [hE]; simp)
    rw [Nat.mul_one] at h1
    exact ⟨by rcases hr with h0 | h0; (· omega); (· exact h0), LenAt.later hB n b5 _ (show b5 < w.heap.size by omega) h1⟩)
  have HMy := Lib.hid (fun (W : World) (hB : Below w.heap.size w W) => may_any x ⟨p, q, c, d⟩ N W (h.later (hB.mono hN) (Nat.le_refl N)) (Nat.le_trans hN hB.size) hc hd)
  have HW0 := Lib.hid hW0
  obtain ⟨F, hF⟩ : ∃ F, F = fitB x na rows := ⟨_, rfl⟩
  have HF := Lib.hid hF
  unfold Prg.v InP.v
  unfold Prg.v at HMy
  dsimp only
  rw [← hF]
  have hX : Below W0.heap.size W0 W0.drew := (Below.refl _ _).drew
  have HMy1 := Lib.hid (HMy.out _ (HU.out _ hX))
  clear hW0 k0 k1 hB0 hz0 h ht hp hq hr hb hb' hb5 ha ha' ha5 hF HMy
  go_enter Tryz.func47, Tryz.ntmps47
  go_upto_region 1 with fail
  rw [HW0.out]
  by_cases hmy : mayR x = 0
  rotate_left
  · refine wp_region_held_drew (S := fun W => W.cell? ⟨w.heap.size, 0, none⟩ = some (.slice p x.regs.length c) ∧ W.cell? ⟨w.heap.size, 1, none⟩ = some (.slice q x.fns.length d) ∧ W.cell? ⟨w.heap.size + 1, 0, none⟩ = some (.slice pa na ca) ∧ W.cell? ⟨w.heap.size + 1, 1, none⟩ = some (.slice pr rows.length cr)) (by kernel_rfl) ?_ (fun hHeld => ?_)
    · exact HP.out _ hX
    refine tq 0 ?_
    refine wpAnyH_ready (rs := [1]) (by kernel_rfl) (by simp) ?_
    refine rdy rfl (fun K hK => ?_) AllReadyH.nil
    go_simp
    refine HMy1.out.mono ?_
    rintro z w5 ⟨rfl, hB5⟩
    replace hX := hX.trans (hB5.mono hX.size)
    clear hB5
    refine hK.out _ _ ?_ (fun hHeld => ?_)
    · exact HP.out _ hX
    clear hK K
    try simp only [Act.put, List.setIfInBounds_toArray, List.set_cons_zero, List.set_cons_succ]
    have hmb : ((mayR x : Int) != 0) = true := by simp [bne, hmy]
    refine tk 2 (.bool true) rfl (.inl ⟨by rfl, ?_⟩) ?_
    · (intro w hSw; (try dsimp only at hSw); go_simp)
    try simp only [Act.put, List.setIfInBounds_toArray, List.set_cons_zero, List.set_cons_succ]
    refine tq 3 ?_
    refine sq 4 ?_
    refine sq 5 ?_
    refine sq 6 ?_
    refine sq 7 ?_
    refine sq 8 ?_
    refine sq 9 ?_
    refine sq 10 ?_
    refine sq 11 ?_
    refine sq 12 ?_
    refine sq 13 ?_
    refine sq 14 ?_
    refine sq 15 ?_
    refine sq 16 ?_
    refine sq 17 ?_
    refine tq 18 ?_
    refine tq 19 ?_
    refine sq 20 ?_
    refine sq 21 ?_
    refine sq 22 ?_
    refine sq 23 ?_
    refine sq 24 ?_
    refine sq 25 ?_
    refine sq 26 ?_
    refine tq 27 ?_
    refine wpAnyH_done (by kernel_rfl) ?_ _
    have HX := Lib.hid (HU.out _ hX)
    have HV := Lib.hid (show F = false by rw [HF.out]; exact fit_no hmy)
    clear hX HMy1
    go_wp2_with fail
    go_ret
    exact ⟨by rw [HV.out]; rfl, HX.out⟩
  obtain ⟨ds, fn, hds, hlp⟩ := last_of (may_fns hmy)
  have hxl : x.fns.length = ds.length + 1 := by rw [hds]; simp
  have HFt := Lib.hid (show F = (!((na : Int) != (fn.params.length : Int)) && (!((rows.length : Int) != (x.regs.length : Int)) && lenB rows x.regs)) by rw [HF.out, fit_yes hmy, hlp])
  obtain ⟨sg, hqs, e1, hmp⟩ := HFn.out _ ds [] fn (HU.out _ hX) hds
  have HE1 := Lib.hid (fun (W : World) (hB : Below W0.heap.size W0 W) => show W.cell? ⟨b', o' + ds.length * 5 + 1, none⟩ = some (.slice sg.pp fn.params.length sg.cp) from by
    have hbw : b' < W0.heap.size := by
      have := World.block_lt_of_cell? _ _ e1
      simpa using this
    exact ((hB.cell (p := ⟨b', _, none⟩) hbw).trans ((Below.refl W0.heap.size W0).drew.cell (p := ⟨b', _, none⟩) hbw).symm).trans e1)
  cases hqs
  have hlt : ds.length < x.fns.length := by omega
  have hws : IntKind.i64.wrap ((x.fns.length : Int) - 1) = ((ds.length : Nat) : Int) := by rw [hxl]; simp [IntKind.wrap, IntKind.bits, IntKind.signed]; omega
  have HXl := Lib.hid hxl
  clear e1 hds hlp hxl
  generalize f1 : ((na : Int) != (fn.params.length : Int)) = t1 at HFt
  generalize f2 : ((rows.length : Int) != (x.regs.length : Int)) = t2 at HFt
  cases t1
  rotate_left
  · refine wp_region_held_drew (S := fun W => W.cell? ⟨w.heap.size, 0, none⟩ = some (.slice p x.regs.length c) ∧ W.cell? ⟨w.heap.size, 1, none⟩ = some (.slice (some ⟨b', o', none⟩) x.fns.length d) ∧ W.cell? ⟨w.heap.size + 1, 0, none⟩ = some (.slice pa na ca) ∧ W.cell? ⟨w.heap.size + 1, 1, none⟩ = some (.slice pr rows.length cr) ∧ W.cell? ⟨b', o' + ds.length * 5 + 1, none⟩ = some (.slice sg.pp fn.params.length sg.cp)) (by kernel_rfl) ?_ (fun hHeld => ?_)
    · exact ⟨(HP.out _ hX).1, (HP.out _ hX).2.1, (HP.out _ hX).2.2.1, (HP.out _ hX).2.2.2, HE1.out _ hX⟩
    refine tq 0 ?_
    refine wpAnyH_ready (rs := [1]) (by kernel_rfl) (by simp) ?_
    refine rdy rfl (fun K hK => ?_) AllReadyH.nil
    go_simp
    refine HMy1.out.mono ?_
    rintro z w5 ⟨rfl, hB5⟩
    replace hX := hX.trans (hB5.mono hX.size)
    clear hB5
    refine hK.out _ _ ?_ (fun hHeld => ?_)
    · exact ⟨(HP.out _ hX).1, (HP.out _ hX).2.1, (HP.out _ hX).2.2.1, (HP.out _ hX).2.2.2, HE1.out _ hX⟩
    clear hK K
    try simp only [Act.put, List.setIfInBounds_toArray, List.set_cons_zero, List.set_cons_succ]
    have hmb : ((mayR x : Int) != 0) = false := by simp [bne, hmy]
    refine tk 2 (.bool false) rfl (.inl ⟨by rfl, ?_⟩) ?_
    · (intro w hSw; (try dsimp only at hSw); go_simp)
    try simp only [Act.put, List.setIfInBounds_toArray, List.set_cons_zero, List.set_cons_succ]
    refine tq 3 ?_
    refine tq 4 ?_
    refine tq 5 ?_
    refine tq 6 ?_
    refine tq 7 ?_
    refine tq 8 ?_
    refine tq 9 ?_
    refine tq 10 ?_
    refine tq 11 ?_
    refine tk 12 (.int .i64 ((ds.length : Nat) : Int)) rfl (.inl ⟨by rfl, ?_⟩) ?_
    · (intro w hSw; (try dsimp only at hSw); go_simp)
    try simp only [Act.put, List.setIfInBounds_toArray, List.set_cons_zero, List.set_cons_succ]
    refine tq 13 ?_
    refine tq 14 ?_
    refine tq 15 ?_
    refine tq 16 ?_
    refine tk 17 (.bool true) rfl (.inl ⟨by rfl, ?_⟩) ?_
    · (intro w hSw; (try dsimp only at hSw); go_simp)
    try simp only [Act.put, List.setIfInBounds_toArray, List.set_cons_zero, List.set_cons_succ]
    refine tq 18 ?_
    refine tq 19 ?_
    refine sq 20 ?_
    refine sq 21 ?_
    refine sq 22 ?_
    refine sq 23 ?_
    refine sq 24 ?_
    refine sq 25 ?_
    refine sq 26 ?_
    refine tq 27 ?_
    refine wpAnyH_done (by kernel_rfl) ?_ _
    have HX := Lib.hid (HU.out _ hX)
    have HV := Lib.hid (show F = false by rw [HFt.out]; rfl)
    clear hX HMy1
    go_wp2_with fail
    go_ret
    exact ⟨by rw [HV.out]; rfl, HX.out⟩
  cases t2
  rotate_left
  · refine wp_region_held_drew (S := fun W => W.cell? ⟨w.heap.size, 0, none⟩ = some (.slice p x.regs.length c) ∧ W.cell? ⟨w.heap.size, 1, none⟩ = some (.slice (some ⟨b', o', none⟩) x.fns.length d) ∧ W.cell? ⟨w.heap.size + 1, 0, none⟩ = some (.slice pa na ca) ∧ W.cell? ⟨w.heap.size + 1, 1, none⟩ = some (.slice pr rows.length cr) ∧ W.cell? ⟨b', o' + ds.length * 5 + 1, none⟩ = some (.slice sg.pp fn.params.length sg.cp)) (by kernel_rfl) ?_ (fun hHeld => ?_)
    · exact ⟨(HP.out _ hX).1, (HP.out _ hX).2.1, (HP.out _ hX).2.2.1, (HP.out _ hX).2.2.2, HE1.out _ hX⟩
    refine tq 0 ?_
    refine wpAnyH_ready (rs := [1]) (by kernel_rfl) (by simp) ?_
    refine rdy rfl (fun K hK => ?_) AllReadyH.nil
    go_simp
    refine HMy1.out.mono ?_
    rintro z w5 ⟨rfl, hB5⟩
    replace hX := hX.trans (hB5.mono hX.size)
    clear hB5
    refine hK.out _ _ ?_ (fun hHeld => ?_)
    · exact ⟨(HP.out _ hX).1, (HP.out _ hX).2.1, (HP.out _ hX).2.2.1, (HP.out _ hX).2.2.2, HE1.out _ hX⟩
    clear hK K
    try simp only [Act.put, List.setIfInBounds_toArray, List.set_cons_zero, List.set_cons_succ]
    have hmb : ((mayR x : Int) != 0) = false := by simp [bne, hmy]
    refine tk 2 (.bool false) rfl (.inl ⟨by rfl, ?_⟩) ?_
    · (intro w hSw; (try dsimp only at hSw); go_simp)
    try simp only [Act.put, List.setIfInBounds_toArray, List.set_cons_zero, List.set_cons_succ]
    refine tq 3 ?_
    refine tq 4 ?_
    refine tq 5 ?_
    refine tq 6 ?_
    refine tq 7 ?_
    refine tq 8 ?_
    refine tq 9 ?_
    refine tq 10 ?_
    refine tq 11 ?_
    refine tk 12 (.int .i64 ((ds.length : Nat) : Int)) rfl (.inl ⟨by rfl, ?_⟩) ?_
    · (intro w hSw; (try dsimp only at hSw); go_simp)
    try simp only [Act.put, List.setIfInBounds_toArray, List.set_cons_zero, List.set_cons_succ]
    refine tq 13 ?_
    refine tq 14 ?_
    refine tq 15 ?_
    refine tq 16 ?_
    refine tk 17 (.bool false) rfl (.inl ⟨by rfl, ?_⟩) ?_
    · (intro w hSw; (try dsimp only at hSw); go_simp)
    try simp only [Act.put, List.setIfInBounds_toArray, List.set_cons_zero, List.set_cons_succ]
    refine tq 18 ?_
    refine tq 19 ?_
    refine tq 20 ?_
    refine tq 21 ?_
    refine tq 22 ?_
    refine tq 23 ?_
    refine tq 24 ?_
    refine tq 25 ?_
    refine tk 26 (.bool true) rfl (.inl ⟨by rfl, ?_⟩) ?_
    · (intro w hSw; (try dsimp only at hSw); go_simp)
    try simp only [Act.put, List.setIfInBounds_toArray, List.set_cons_zero, List.set_cons_succ]
    refine tq 27 ?_
    refine wpAnyH_done (by kernel_rfl) ?_ _
    have HX := Lib.hid (HU.out _ hX)
    have HV := Lib.hid (show F = false by rw [HFt.out]; rfl)
    clear hX HMy1
    go_wp2_with fail
    go_ret
    exact ⟨by rw [HV.out]; rfl, HX.out⟩
  refine wp_region_held_drew (S := fun W => W.cell? ⟨w.heap.size, 0, none⟩ = some (.slice p x.regs.length c) ∧ W.cell? ⟨w.heap.size, 1, none⟩ = some (.slice (some ⟨b', o', none⟩) x.fns.length d) ∧ W.cell? ⟨w.heap.size + 1, 0, none⟩ = some (.slice pa na ca) ∧ W.cell? ⟨w.heap.size + 1, 1, none⟩ = some (.slice pr rows.length cr) ∧ W.cell? ⟨b', o' + ds.length * 5 + 1, none⟩ = some (.slice sg.pp fn.params.length sg.cp)) (by kernel_rfl) ?_ (fun hHeld => ?_)
  · exact ⟨(HP.out _ hX).1, (HP.out _ hX).2.1, (HP.out _ hX).2.2.1, (HP.out _ hX).2.2.2, HE1.out _ hX⟩
  refine tq 0 ?_
  refine wpAnyH_ready (rs := [1]) (by kernel_rfl) (by simp) ?_
  refine rdy rfl (fun K hK => ?_) AllReadyH.nil
  go_simp
  refine HMy1.out.mono ?_
  rintro z w5 ⟨rfl, hB5⟩
  replace hX := hX.trans (hB5.mono hX.size)
  clear hB5
  refine hK.out _ _ ?_ (fun hHeld => ?_)
  · exact ⟨(HP.out _ hX).1, (HP.out _ hX).2.1, (HP.out _ hX).2.2.1, (HP.out _ hX).2.2.2, HE1.out _ hX⟩
  clear hK K
  try simp only [Act.put, List.setIfInBounds_toArray, List.set_cons_zero, List.set_cons_succ]
  have hmb : ((mayR x : Int) != 0) = false := by simp [bne, hmy]
  refine tk 2 (.bool false) rfl (.inl ⟨by rfl, ?_⟩) ?_
  · (intro w hSw; (try dsimp only at hSw); go_simp)
  try simp only [Act.put, List.setIfInBounds_toArray, List.set_cons_zero, List.set_cons_succ]
  refine tq 3 ?_
  refine tq 4 ?_
  refine tq 5 ?_
  refine tq 6 ?_
  refine tq 7 ?_
  refine tq 8 ?_
  refine tq 9 ?_
  refine tq 10 ?_
  refine tq 11 ?_
  refine tk 12 (.int .i64 ((ds.length : Nat) : Int)) rfl (.inl ⟨by rfl, ?_⟩) ?_
  · (intro w hSw; (try dsimp only at hSw); go_simp)
  try simp only [Act.put, List.setIfInBounds_toArray, List.set_cons_zero, List.set_cons_succ]
  refine tq 13 ?_
  refine tq 14 ?_
  refine tq 15 ?_
  refine tq 16 ?_
  refine tk 17 (.bool false) rfl (.inl ⟨by rfl, ?_⟩) ?_
  · (intro w hSw; (try dsimp only at hSw); go_simp)
  try simp only [Act.put, List.setIfInBounds_toArray, List.set_cons_zero, List.set_cons_succ]
  refine tq 18 ?_
  refine tq 19 ?_
  refine tq 20 ?_
  refine tq 21 ?_
  refine tq 22 ?_
  refine tq 23 ?_
  refine tq 24 ?_
  refine tq 25 ?_
  refine tk 26 (.bool false) rfl (.inl ⟨by rfl, ?_⟩) ?_
  · (intro w hSw; (try dsimp only at hSw); go_simp)
  try simp only [Act.put, List.setIfInBounds_toArray, List.set_cons_zero, List.set_cons_succ]
  refine tq 27 ?_
  refine wpAnyH_done (by kernel_rfl) ?_ _
  have HX := Lib.hid hX
  have HF2 := Lib.hid (show F = lenB rows x.regs by rw [HFt.out]; rfl)
  have hll : rows.length = x.regs.length := by simp [bne] at f2; omega
  have HLl := Lib.hid hll
  clear hX HMy1 f1 f2 hll hws
  obtain ⟨p0, p1, p2, p3⟩ := HP.out _ HX.out
  go_wp2_with fail
  clear p0 p1 p2 p3
  go_loopw [5, 6, 38] (fun s5 s6 i wr => ∃ (dr rr' : List Nat) (dg rg : List Rgn), i = .int .i64 dr.length ∧ dr.length + rr'.length = rows.length ∧ Hid (dr.length = dg.length ∧ rr'.length = rg.length) ∧ Hid (rows = dr ++ rr') ∧ Hid (x.regs = dg ++ rg) ∧ Hid (F = lenB rr' rg) ∧ Hid (Below W0.heap.size W0 wr)) (fun _ _ i _ => rows.length - (intOf i).toNat)
  case atStart => exact ⟨[], rows, [], x.regs, rfl, by simp, Lib.hid ⟨rfl, HLl.out⟩, Lib.hid rfl, Lib.hid rfl, HF2, HX⟩
  case round =>
    obtain ⟨dr, rr', dg, rg, rfl, hk, hLn, hdr, hdg, hE, hB⟩ := hrel
    obtain ⟨p0, p1, p2, p3⟩ := HP.out _ hB.out
    cases rg with
    | nil =>
      obtain rfl : rr' = [] := List.eq_nil_of_length_eq_zero hLn.out.2
      simp only [List.length_nil] at hk
      have hge : ¬ dr.length < rows.length := by omega
      have HV := Lib.hid (show F = true by rw [hE.out]; rfl)
      have HEn := Lib.hid (HU.out _ hB.out)
      clear hE
      go_wp2_with fail
      go_ret
      exact ⟨by rw [HV.out]; rfl, HEn.out⟩
    | cons y rg =>
      cases rr' with
      | nil => have := hLn.out.2; simp at this
      | cons n rr' =>
      simp only [List.length_cons] at hk
      have hlt2 : dr.length < rows.length := by omega
      have hl2 : dr.length = dg.length := hLn.out.1
      obtain ⟨hpr, pk, ck, e5, hmk⟩ := HRw.out _ dr rr' n (HU.out _ hB.out) hdr.out
      obtain ⟨hpp, e6⟩ := HRg.out _ dg rg y (HU.out _ hB.out) hdg.out
      cases hpr; cases hpp
      have hltr : dr.length < rows.length := by rw [hdr.out]; simp
      have hltg : dg.length < x.regs.length := by rw [hdg.out]; simp
      have HE2 := Lib.hid (show F = (!((n : Int) != y.size) && lenB rr' rg) by rw [hE.out, lenB])
      have HLn := Lib.hid (show (dr ++ [n]).length = (dg ++ [y]).length ∧ rr'.length = rg.length from ⟨by simp [hl2], by have := hLn.out.2; simpa using this⟩)
      generalize f3 : ((n : Int) != y.size) = t3 at HE2
      have hltg' : dr.length < x.regs.length := by omega
      rw [← hl2] at e6
      clear hE hLn hl2 hltg
      cases t3
      · have HE3 := Lib.hid (show F = lenB rr' rg by rw [HE2.out]; rfl)
        clear HE2
        go_wp2_with fail
        go_roundw
        case rel => exact ⟨dr ++ [n], rr', dg ++ [y], rg, by rw [List.length_append]; go_num, by simp; omega, HLn, Lib.hid (by rw [hdr.out]; simp), Lib.hid (by rw [hdg.out]; simp), HE3, hB⟩
        case measure => simp [intOf]; omega
      · have HEn := Lib.hid (HU.out _ hB.out)
        have HV := Lib.hid (show F = false by rw [HE2.out]; rfl)
        clear HE2
        go_wp2_with fail
        go_ret
        exact ⟨by rw [HV.out]; rfl, HEn.out⟩
end Go.Proofs.YtihmibggonffdaaGreat
