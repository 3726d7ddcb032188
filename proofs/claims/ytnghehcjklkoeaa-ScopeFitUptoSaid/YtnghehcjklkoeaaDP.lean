/- DC, DP as one. -/
import Derived.Test.YtnghehcjklkoeaaDB
import Derived.Test.YtnghehcjklkoeaaF1
import Derived.Test.YtnghehcjklkoeaaL2
import Derived.Maps.AppendAt
/- The document's: why the statements of a function may not be. -/
namespace Go.Proofs.Ytnghehcjklkoeaa
open Go.RowKit

theorem exec_load_mid {P : Program} {op : Oper} {a : Act} {w : World} (ty : TypeId) (x : Operand) (ho : op.op = .load ty x) (b o : Nat) (hx : a.eval x = .pointer (some ⟨b, o, none⟩)) (A : Array Value) (d : TypeDesc) (hc : w.rangeAt b o A.toList)
    (hu : P.underlying ty = some d) (hd : d.isRow = true) (hi : (P.info? ty).map (·.size) = some A.size) : (execOp a.eval op).run P w = .ok (.value (.agg A)) w := by
  have h1 := run_loadVar_mid (P := P) w b o ty A.toList d hc hu hd (by rw [hi]; simp)
  unfold execOp
  simp only [ho, hx, Instr.loadAt, Instr.sureAddr, Sem.run_bind, Sem.run_pure, Result.andThen_ok, h1]
set_option maxRecDepth 100000 in
set_option maxHeartbeats 12800000 in
theorem rinner_step (n : Nat) (ih : RI n) : RI (n + 1) := by
  intro l hln x s fi fn f cts pc cc N ar pr cr deep p c w h har hal hdeep hl
  obtain ⟨pp, pq, cp, dp⟩ := s
  obtain ⟨W0, hW0, k0, hB0, hz0⟩ := one_alloc w (.cells #[.slice pp x.regs.length cp, .slice pq x.fns.length dp] 25)
  have HU := Lib.hid (fun (W : World) (hB : Below W0.heap.size W0 W) => show Below w.heap.size w W from hB0.trans (hB.mono (by omega)))
  have HP := Lib.hid (fun (W : World) (hB : Below W0.heap.size W0 W) => show W.cell? ⟨w.heap.size, 0, none⟩ = some (.slice pp x.regs.length cp) ∧ W.cell? ⟨w.heap.size, 1, none⟩ = some (.slice pq x.fns.length dp) from
    ⟨cell_blk ((hB.block _ (lt_blk k0)).trans k0) rfl, cell_blk ((hB.block _ (lt_blk k0)).trans k0) rfl⟩)
  have HSt := Lib.hid (fun (y : St) (hy : y.size ≤ n) (W : World) (sp : StP) (hB : Below w.heap.size w W) (hok : y.Ok W N sp) => rstmt_any y (fun l hl => ih l (Nat.lt_of_lt_of_le hl hy)) x ⟨pp, pq, cp, dp⟩ fi fn f cts pc cc N ar pr cr deep sp W (h.later hB) (har.imp hB.size (StrAt.later hB)) hal hdeep hok)
  obtain ⟨hm, hs⟩ := hl
  obtain ⟨b, o, hp, hb, ha⟩ : ∃ b o, (l.len = 0 ∨ p = some ⟨b, o, none⟩) ∧ (b < N ∨ l.len = 0) ∧ l.At w N b o := by
    rcases hs with h0 | ⟨b, o, hp, hb, ha⟩
    · exact ⟨0, 0, .inl h0, .inr h0, by cases l with | nil => trivial | cons => simp [Sts.len] at h0⟩
    · exact ⟨b, o, .inr hp, .inl hb, ha⟩
  have HA := Lib.hid (And.intro ha hb)
  have HN := Lib.hid h.hN
  have HLn := Lib.hid (show l.size ≤ n by omega)
  obtain ⟨R, hR⟩ : ∃ R, R = l.chk x fn f fi deep ar := ⟨_, rfl⟩
  have HR := Lib.hid hR
  rw [← hR]
  have HW0 := Lib.hid hW0
  unfold Prg.v
  unfold Prg.v St.val at HSt
  clear hW0 k0 hB0 hz0 h har hs ha hb hln ih hR
  go_enter Try.func70, Try.ntmps70
  go_upto_region 1 with fail
  rw [HW0.out]
  go_wp2_with fail
  go_loopw [13, 14] (fun i xx wr => ∃ (k : Nat) (r : Sts), i = .int .i64 k ∧ k + r.len = l.len ∧ Hid (r.size ≤ l.size) ∧ Hid (r.At w N b (o + k * 16)) ∧ Hid (R = r.chk x fn f fi deep ar) ∧ Hid (Below W0.heap.size W0 wr)) (fun i _ _ => l.len - (intOf i).toNat)
  case atStart => exact ⟨0, l, rfl, by omega, Lib.hid (Nat.le_refl _), Lib.hid (by rw [Nat.zero_mul]; exact HA.out.1), HR, Lib.hid (Below.refl _ _)⟩
  case round =>
    obtain ⟨k, r, rfl, hk, hrs, hr, hE, hB⟩ := hrel
    cases r with
    | nil =>
      simp only [Sts.len] at hk
      have hge : ¬ k < l.len := by omega
      have HV := Lib.hid (show 0 = R by rw [hE.out, Sts.chk])
      have HE := Lib.hid (HU.out _ hB.out)
      clear hE hr
      go_wp2_with fail
      go_ret
      exact ⟨by rw [← HV.out]; rfl, HE.out⟩
    | cons y r =>
      obtain ⟨hy, hr'⟩ := hr.out
      simp only [Sts.len] at hk
      have hlt : k < l.len := by omega
      rcases hp with h0 | rfl
      · omega
      have hbN : b < N := by have := HA.out.2; omega
      have hX : Below wr.heap.size wr wr.drew := (Below.refl _ _).drew
      have hX0 := hB.out.trans (hX.mono hB.out.size)
      obtain ⟨sp, hcs, hok⟩ := hy.open
      obtain ⟨A, hA⟩ : ∃ A, y.cells sp = A := ⟨_, rfl⟩
      have hbw : b < w.heap.size := Nat.lt_of_lt_of_le hbN HN.out
      have hrg := (fun (W : World) (hB : Below w.heap.size w W) => show W.rangeAt b (o + k * 16) A.toList from fun j v hv => (hB.cell (p := ⟨b, o + k * 16 + j, none⟩) hbw).trans (hcs j v (by rw [hA, ← Array.getElem?_toList]; exact hv)))
      have hsz : A.size = 16 := by rw [← hA]; rfl
      have hys : y.size ≤ n := by have h1 := hrs.out; have h2 := HLn.out; simp only [Sts.size] at h1; omega
      have HC := Lib.hid (HSt.out y hys wr.drew sp (HU.out _ hX0) (hok.later ((HU.out _ hX0).mono HN.out) (Nat.le_refl N)))
      rw [hA] at HC
      have HRg := Lib.hid hrg
      have HLd := Lib.hid hsz
      have HE2 := Lib.hid (show R = seq (y.chk x fn f fi deep ar) (r.chk x fn f fi deep ar) by rw [hE.out, Sts.chk])
      have HRr := Lib.hid hr'
      have HRs := Lib.hid (show r.size ≤ l.size by have h1 := hrs.out; simp only [Sts.size] at h1; omega)
      generalize y.chk x fn f fi deep ar = v1 at HC HE2
      clear hy hr hr' hok hE hcs hA hrg hsz hys hrs
      go_upto_region 4 with fail
      refine wp_region_held_drew (S := fun W => W.cell? ⟨w.heap.size, 0, none⟩ = some (.slice pp x.regs.length cp) ∧ W.cell? ⟨w.heap.size, 1, none⟩ = some (.slice pq x.fns.length dp) ∧ W.rangeAt b (o + k * 16) A.toList) (by kernel_rfl) ?_ (fun hHeld => ?_)
      · exact ⟨(HP.out _ hX0).1, (HP.out _ hX0).2, HRg.out _ (HU.out _ hX0)⟩
      refine tk 0 ?_ rfl (.inl ⟨by rfl, ?_⟩) ?_
      rotate_left
      · (intro w hSw; (try dsimp only at hSw); go_simp; try with_reducible rfl)
      try simp only [Act.put, List.setIfInBounds_toArray, List.set_cons_zero, List.set_cons_succ]
      refine tk 1 ?_ rfl (.inl ⟨by rfl, ?_⟩) ?_
      rotate_left
      · (intro w hSw; (try dsimp only at hSw); go_simp; try with_reducible rfl)
      try simp only [Act.put, List.setIfInBounds_toArray, List.set_cons_zero, List.set_cons_succ]
      refine tk 2 ?_ rfl (.inl ⟨by rfl, ?_⟩) ?_
      rotate_left
      · (intro w hSw; (try dsimp only at hSw); go_simp; try with_reducible rfl)
      try simp only [Act.put, List.setIfInBounds_toArray, List.set_cons_zero, List.set_cons_succ]
      refine tk 3 ?_ rfl (.inl ⟨by rfl, ?_⟩) ?_
      rotate_left
      · (intro w hSw; (try dsimp only at hSw); go_simp; try with_reducible rfl)
      try simp only [Act.put, List.setIfInBounds_toArray, List.set_cons_zero, List.set_cons_succ]
      refine tk 4 ?_ rfl (.inl ⟨by rfl, ?_⟩) ?_
      rotate_left
      · (intro w hSw; (try dsimp only at hSw); go_simp; try with_reducible rfl)
      try simp only [Act.put, List.setIfInBounds_toArray, List.set_cons_zero, List.set_cons_succ]
      refine tk 5 (.agg A) rfl (.inl ⟨by rfl, ?_⟩) ?_
      · intro W hSw
        exact exec_load_mid 49 _ rfl b (o + k * 16) rfl A _ hSw.2.2 Try.underlying49 rfl (infoSt.trans (by rw [HLd.out]))
      try simp only [Act.put, List.setIfInBounds_toArray, List.set_cons_zero, List.set_cons_succ]
      refine tk 6 ?_ rfl (.inl ⟨by rfl, ?_⟩) ?_
      rotate_left
      · (intro w hSw; (try dsimp only at hSw); go_simp; try with_reducible rfl)
      try simp only [Act.put, List.setIfInBounds_toArray, List.set_cons_zero, List.set_cons_succ]
      refine tk 7 ?_ rfl (.inl ⟨by rfl, ?_⟩) ?_
      rotate_left
      · (intro w hSw; (try dsimp only at hSw); go_simp; try with_reducible rfl)
      try simp only [Act.put, List.setIfInBounds_toArray, List.set_cons_zero, List.set_cons_succ]
      refine tk 8 ?_ rfl (.inl ⟨by rfl, ?_⟩) ?_
      rotate_left
      · (intro w hSw; (try dsimp only at hSw); go_simp; try with_reducible rfl)
      try simp only [Act.put, List.setIfInBounds_toArray, List.set_cons_zero, List.set_cons_succ]
      refine wpAnyH_ready (rs := [9]) (by kernel_rfl) (by simp) ?_
      refine rdy rfl (fun K hK => ?_) AllReadyH.nil
      go_simp
      refine HC.out.mono ?_
      rintro z w5 ⟨rfl, hB5⟩
      replace hX := hX.trans (hB5.mono hX.size)
      replace hX0 := hB.out.trans (hX.mono hB.out.size)
      clear hB5
      refine hK.out _ _ ?_ (fun hHeld => ?_)
      · exact ⟨(HP.out _ hX0).1, (HP.out _ hX0).2, HRg.out _ (HU.out _ hX0)⟩
      clear hK K
      try simp only [Act.put, List.setIfInBounds_toArray, List.set_cons_zero, List.set_cons_succ]
      refine tk 10 ?_ rfl (.inl ⟨by rfl, ?_⟩) ?_
      rotate_left
      · (intro w hSw; (try dsimp only at hSw); go_simp; try with_reducible rfl)
      try simp only [Act.put, List.setIfInBounds_toArray, List.set_cons_zero, List.set_cons_succ]
      refine wpAnyH_done (by kernel_rfl) ?_ _
      have HX := Lib.hid hX0
      clear hX hX0
      by_cases hv1 : v1 = 0
      · subst hv1
        have HE3 := Lib.hid (show R = r.chk x fn f fi deep ar by rw [HE2.out]; rfl)
        clear HE2
        go_wp2_with fail
        go_roundw
        case rel => exact ⟨k + 1, r, by go_num, by omega, HRs, Lib.hid (by rw [show o + (k + 1) * 16 = o + k * 16 + 16 by omega]; exact HRr.out), HE3, HX⟩
        case measure => simp [intOf]; omega
      · have hv1i : ((v1 : Int) != 0) = true := by simp [bne]; omega
        have HV := Lib.hid (show v1 = R by rw [HE2.out, seq_no hv1])
        have HE := Lib.hid (HU.out _ HX.out)
        clear HE2
        go_wp2_with fail
        go_ret
        exact ⟨by rw [← HV.out]; rfl, HE.out⟩
theorem rinner_to : ∀ n, RI n
  | 0 => fun _ h => absurd h (Nat.not_lt_zero _)
  | n + 1 => rinner_step n (rinner_to n)
theorem RowIn.none {α : Type} {N : Nat} {A : α → Nat → Nat → Prop} {k : Nat} {p : Option Addr} : RowIn N A k ([] : List α) p := ⟨Nat.zero_le _, .inl rfl⟩
set_option maxRecDepth 100000 in
set_option maxHeartbeats 12800000 in
theorem rstmts7_any (x : Prg) (s : PrgP) (fi : Nat) (fn : Fnc) (l : Sts) (p : Option Addr) (c N : Nat) (w : World) (h : x.Ok w N s.p s.q) (hN : N ≤ w.heap.size) (hi : x.fns[fi]? = some fn) (hbig : fn.params.length + fn.vars.length ≤ 4000000) (hbb : fn.body.big ≤ 4000000) (hl : l.In w N p) :
    Calls Try.prog 54 #[.agg #[.slice s.p x.regs.length s.c, .slice s.q x.fns.length s.d], .int .i64 (fi : Int), .slice p l.len c, .int .i64 1, .slice none 0 0] w fun z w' => z = .returned (.int .i64 (l.chk x fn (adds nz (fn.body.fors 1)) fi 1 [] : Nat)) ∧ Below w.heap.size w w' := by
  obtain ⟨pp, pq, cp, dp⟩ := s
  obtain ⟨W0, hW0, k0, hB0, hz0⟩ := one_alloc w (.cells #[.slice pp x.regs.length cp, .slice pq x.fns.length dp] 25)
  have HU := Lib.hid (fun (W : World) (hB : Below W0.heap.size W0 W) => show Below w.heap.size w W from hB0.trans (hB.mono (by omega)))
  have HP := Lib.hid (fun (W : World) (hB : Below W0.heap.size W0 W) => show W.cell? ⟨w.heap.size, 0, none⟩ = some (.slice pp x.regs.length cp) ∧ W.cell? ⟨w.heap.size, 1, none⟩ = some (.slice pq x.fns.length dp) from
    ⟨cell_blk ((hB.block _ (lt_blk k0)).trans k0) rfl, cell_blk ((hB.block _ (lt_blk k0)).trans k0) rfl⟩)
  obtain ⟨b', o', hq, hb', ha'⟩ := Row.start h.2
  obtain ⟨pb, cb, hc4, hin⟩ := Fnc.At.bodyC (Row.get ha' hi)
  have hil : fi < x.fns.length := (List.getElem?_eq_some_iff.1 hi).1
  have hmf := h.2.1
  have hpq : pq = some ⟨b', o', none⟩ := by
    rcases hq with h0 | h0
    · omega
    · exact h0
  have hbw : b' < w.heap.size := by omega
  have HF := Lib.hid (fun (W : World) (hB : Below w.heap.size w W) => show W.cell? ⟨b', o' + fi * 5 + 4, none⟩ = some (.slice pb fn.body.len cb) from (hB.cell (p := ⟨b', _, none⟩) hbw).trans hc4)
  have HCt := Lib.hid (fun (W : World) (hB : Below w.heap.size w W) => rcounts_to _ fn.body (Nat.lt_succ_self _) hbb 1 (by decide) pb cb N W (hin.later (hB.mono hN) (Nat.le_refl N)) (Nat.le_trans hN hB.size))
  have HIn := Lib.hid (fun (W : World) (q : Option Addr) (cq : Nat) (hB : Below w.heap.size w W) (hr : RowIn W.heap.size (StrAt W) 1 (fn.body.fors 1) q) => rinner_to _ l (Nat.lt_succ_self _) x ⟨pp, pq, cp, dp⟩ fi fn (adds nz (fn.body.fors 1)) (fn.body.fors 1) q cq N [] none 0 1 p c W ⟨h.later (hB.mono hN) (Nat.le_refl N), Nat.le_trans hN hB.size, hi, hbig, hr, cts_is _⟩ RowIn.none (by decide) (by decide) (hl.later (hB.mono hN) (Nat.le_refl N)))
  have HW0 := Lib.hid hW0
  have HB0 := Lib.hid hB0
  unfold Prg.v at HIn
  generalize l.chk x fn (adds nz (fn.body.fors 1)) fi 1 [] = R at HIn ⊢
  generalize fn.body.fors 1 = F at HCt HIn
  subst hpq
  clear hW0 k0 hB0 hz0 h hq hb' ha' hin hc4 hl hi hbig hbb
  have hX : Below W0.heap.size W0 W0.drew := (Below.refl _ _).drew
  go_enter Try.func54, Try.ntmps54
  go_upto_region 1 with fail
  rw [HW0.out]
  refine wp_region_held_drew (S := fun W => W.cell? ⟨w.heap.size, 0, none⟩ = some (.slice pp x.regs.length cp) ∧ W.cell? ⟨w.heap.size, 1, none⟩ = some (.slice (some ⟨b', o', none⟩) x.fns.length dp) ∧ W.cell? ⟨b', o' + fi * 5 + 4, none⟩ = some (.slice pb fn.body.len cb)) (by kernel_rfl) ?_ (fun hHeld => ?_)
  · exact ⟨(HP.out _ hX).1, (HP.out _ hX).2, HF.out _ (HU.out _ hX)⟩
  refine tk 0 ?_ rfl (.inl ⟨by rfl, ?_⟩) ?_
  rotate_left
  · (intro w hSw; (try dsimp only at hSw); go_simp; try with_reducible rfl)
  try simp only [Act.put, List.setIfInBounds_toArray, List.set_cons_zero, List.set_cons_succ]
  refine tk 1 ?_ rfl (.inl ⟨by rfl, ?_⟩) ?_
  rotate_left
  · (intro w hSw; (try dsimp only at hSw); go_simp; try with_reducible rfl)
  try simp only [Act.put, List.setIfInBounds_toArray, List.set_cons_zero, List.set_cons_succ]
  refine tk 2 ?_ rfl (.inl ⟨by rfl, ?_⟩) ?_
  rotate_left
  · (intro w hSw; (try dsimp only at hSw); go_simp; try with_reducible rfl)
  try simp only [Act.put, List.setIfInBounds_toArray, List.set_cons_zero, List.set_cons_succ]
  refine tk 3 ?_ rfl (.inl ⟨by rfl, ?_⟩) ?_
  rotate_left
  · (intro w hSw; (try dsimp only at hSw); go_simp; try with_reducible rfl)
  try simp only [Act.put, List.setIfInBounds_toArray, List.set_cons_zero, List.set_cons_succ]
  refine tk 4 ?_ rfl (.inl ⟨by rfl, ?_⟩) ?_
  rotate_left
  · (intro w hSw; (try dsimp only at hSw); go_simp; try with_reducible rfl)
  try simp only [Act.put, List.setIfInBounds_toArray, List.set_cons_zero, List.set_cons_succ]
  refine tk 5 ?_ rfl (.inl ⟨by rfl, ?_⟩) ?_
  rotate_left
  · (intro w hSw; (try dsimp only at hSw); go_simp; try with_reducible rfl)
  try simp only [Act.put, List.setIfInBounds_toArray, List.set_cons_zero, List.set_cons_succ]
  refine tk 6 ?_ rfl (.inl ⟨by rfl, ?_⟩) ?_
  rotate_left
  · (intro w hSw; (try dsimp only at hSw); go_simp; try with_reducible rfl)
  try simp only [Act.put, List.setIfInBounds_toArray, List.set_cons_zero, List.set_cons_succ]
  refine tk 7 ?_ rfl (.inl ⟨by rfl, ?_⟩) ?_
  rotate_left
  · (intro w hSw; (try dsimp only at hSw); go_simp; try with_reducible rfl)
  try simp only [Act.put, List.setIfInBounds_toArray, List.set_cons_zero, List.set_cons_succ]
  refine tk 8 ?_ rfl (.inl ⟨by rfl, ?_⟩) ?_
  rotate_left
  · (intro w hSw; (try dsimp only at hSw); go_simp; try with_reducible rfl)
  try simp only [Act.put, List.setIfInBounds_toArray, List.set_cons_zero, List.set_cons_succ]
  refine tk 9 ?_ rfl (.inl ⟨by rfl, ?_⟩) ?_
  rotate_left
  · (intro w hSw; (try dsimp only at hSw); go_simp; try with_reducible rfl)
  try simp only [Act.put, List.setIfInBounds_toArray, List.set_cons_zero, List.set_cons_succ]
  refine tk 10 ?_ rfl (.inl ⟨by rfl, ?_⟩) ?_
  rotate_left
  · (intro w hSw; (try dsimp only at hSw); go_simp; try with_reducible rfl)
  try simp only [Act.put, List.setIfInBounds_toArray, List.set_cons_zero, List.set_cons_succ]
  refine wpAnyH_ready (rs := [11]) (by kernel_rfl) (by simp) ?_
  refine rdy rfl (fun K hK => ?_) AllReadyH.nil
  go_simp
  refine (HCt.out _ (HU.out _ hX)).mono ?_
  rintro z w5 ⟨⟨q5, cq5, rfl, hrow5⟩, hB5⟩
  replace hX := hX.trans (hB5.mono hX.size)
  clear hB5
  refine hK.out _ _ ?_ (fun hHeld => ?_)
  · exact ⟨(HP.out _ hX).1, (HP.out _ hX).2, HF.out _ (HU.out _ hX)⟩
  clear hK K
  try simp only [Act.put, List.setIfInBounds_toArray, List.set_cons_zero, List.set_cons_succ]
  refine wpAnyH_ready (rs := [12]) (by kernel_rfl) (by simp) ?_
  refine rdy rfl (fun K hK => ?_) AllReadyH.nil
  go_simp
  refine (HIn.out _ q5 cq5 (HU.out _ hX) hrow5).mono ?_
  rintro z w6 ⟨rfl, hB6⟩
  replace hX := hX.trans (hB6.mono hX.size)
  clear hB6
  refine hK.out _ _ ?_ (fun hHeld => ?_)
  · exact ⟨(HP.out _ hX).1, (HP.out _ hX).2, HF.out _ (HU.out _ hX)⟩
  clear hK K
  try simp only [Act.put, List.setIfInBounds_toArray, List.set_cons_zero, List.set_cons_succ]
  refine tk 13 ?_ rfl (.inl ⟨by rfl, ?_⟩) ?_
  rotate_left
  · (intro w hSw; (try dsimp only at hSw); go_simp; try with_reducible rfl)
  try simp only [Act.put, List.setIfInBounds_toArray, List.set_cons_zero, List.set_cons_succ]
  refine wpAnyH_done (by kernel_rfl) ?_ _
  have HE := Lib.hid (HU.out _ hX)
  clear hX
  go_wp2_with fail
  go_ret
  exact ⟨rfl, HE.out⟩
end Go.Proofs.Ytnghehcjklkoeaa
/- When a program may be: what is asked, part by part. -/
namespace Go.Proofs.Ytnghehcjklkoeaa
open Go.RowKit

theorem seq_iff (a b : Nat) : seq a b = 0 ↔ a = 0 ∧ b = 0 := by unfold seq; split <;> omega
theorem ask_iff (b : Bool) (e : Nat) (he : e ≠ 0) : ask b e = 0 ↔ b = true := by unfold ask; cases b <;> simp [he]
theorem newB_one (a : List (List UInt8)) (s : List UInt8) : newB nz (a ++ [s]) = (newB nz a && (nameB s && !(a.any (fun y => y == s)))) := by
  rw [newB_app, newB, newB, Bool.and_true, cts_is a s, Bool.not_not]
theorem newB_pre {a b : List (List UInt8)} (h : newB nz (a ++ b) = true) : newB nz a = true := by
  rw [newB_app] at h; exact (Bool.and_eq_true _ _ ▸ h).1
theorem newB_cut {a b : List (List UInt8)} {s : List UInt8} (h : (nameB s && !(a.any (fun y => y == s))) = false) : newB nz (a ++ s :: b) = false := by
  cases hq : newB nz (a ++ s :: b) with
  | false => rfl
  | true =>
    rw [show a ++ s :: b = (a ++ [s]) ++ b by simp] at hq
    have := newB_pre hq
    rw [newB_one, h, Bool.and_false] at this
    cases this
theorem newB_name : ∀ {a : List (List UInt8)} {f : List UInt8 → Nat} {s : List UInt8}, newB f a = true → s ∈ a → nameB s = true
  | [], _, _, _, hs => by cases hs
  | x :: a, f, s, h, hs => by
    rw [newB] at h
    simp only [Bool.and_eq_true] at h
    rcases List.mem_cons.1 hs with rfl | hs
    · exact h.1.1
    · exact newB_name h.2 hs
def varN (x : Prg) (f : Fnc) : Bool := newB nz (rnm x.regs ++ vnm (f.params ++ f.vars)) && newB nz f.rets && f.rets.all (fun s => (f.params ++ f.vars).any (isWord s))
theorem own_var (x : Prg) (f : Fnc) : ownN x.regs f = varN x f := rfl
theorem bodiesR_zero (x : Prg) : ∀ (l : List Fnc) (i : Nat), bodiesR x i l = 0 ↔ ∀ k f, l[k]? = some f → bodyR x (i + k) f = 0
  | [], i => by simp [bodiesR]
  | f :: l, i => by
    rw [bodiesR, seq_iff, bodiesR_zero x l (i + 1)]
    constructor
    · rintro ⟨h3, h4⟩ k g hg
      cases k with
      | zero => simp at hg; subst hg; exact h3
      | succ k => have := h4 k g (by simpa using hg); rw [show i + 1 + k = i + (k + 1) by omega] at this; exact this
    · intro h
      refine ⟨h 0 f (by simp), fun k g hg => ?_⟩
      have := h (k + 1) g (by simpa using hg)
      rw [show i + 1 + k = i + (k + 1) by omega]; exact this
theorem may_zero (x : Prg) : mayR x = 0 ↔ x.few = true ∧ namesB x = true ∧ rgsAt [] x.regs = true ∧ x.fns.all Fnc.varsB = true ∧ ∀ k f, x.fns[k]? = some f → bodyR x k f = 0 := by
  unfold mayR
  rw [seq_iff, seq_iff, seq_iff, seq_iff, ask_iff _ 13 (by decide), ask_iff _ 8 (by decide), ask_iff _ 14 (by decide), ask_iff _ 9 (by decide), bodiesR_zero]
  simp only [Nat.zero_add]
theorem names_new {x : Prg} (h : namesB x = true) : newB nz (rnm x.regs ++ fnm x.fns) = true := by unfold namesB at h; exact (Bool.and_eq_true _ _ ▸ h).1
theorem no_few {x : Prg} (h : x.few = false) : mayR x ≠ 0 := fun h0 => by rw [((may_zero x).1 h0).1] at h; cases h
theorem no_regs {x : Prg} (h : newB nz (rnm x.regs) = false) : mayR x ≠ 0 := fun h0 => by rw [newB_pre (names_new ((may_zero x).1 h0).2.1)] at h; cases h
theorem no_at {x : Prg} (h : rgsAt [] x.regs = false) : mayR x ≠ 0 := fun h0 => by rw [((may_zero x).1 h0).2.2.1] at h; cases h
theorem fns_at {x : Prg} {ds r : List Fnc} {y : Fnc} (h : x.fns = ds ++ y :: r) : x.fns[ds.length]? = some y := by rw [h]; simp
theorem no_name {x : Prg} {ds r : List Fnc} {y : Fnc} (h : x.fns = ds ++ y :: r) (hn : newB nz ((rnm x.regs ++ fnm ds) ++ [y.name]) = false) : mayR x ≠ 0 := fun h0 => by
  have h1 := names_new ((may_zero x).1 h0).2.1
  rw [h, show rnm x.regs ++ fnm (ds ++ y :: r) = ((rnm x.regs ++ fnm ds) ++ [y.name]) ++ fnm r by simp [fnm]] at h1
  rw [newB_pre h1] at hn; cases hn
theorem no_var {x : Prg} {ds r : List Fnc} {y : Fnc} (h : x.fns = ds ++ y :: r) (hn : varN x y = false) : mayR x ≠ 0 := fun h0 => by
  have h1 := ((may_zero x).1 h0).2.1
  unfold namesB at h1
  have h2 := List.all_eq_true.1 (Bool.and_eq_true _ _ ▸ h1).2 y (by rw [h]; simp)
  rw [own_var, hn] at h2; cases h2
theorem no_kind {x : Prg} {ds r : List Fnc} {y : Fnc} (h : x.fns = ds ++ y :: r) (hn : y.varsB = false) : mayR x ≠ 0 := fun h0 => by
  have h1 := List.all_eq_true.1 ((may_zero x).1 h0).2.2.2.1 y (by rw [h]; simp)
  rw [hn] at h1; cases h1
theorem no_body {x : Prg} {ds r : List Fnc} {y : Fnc} (h : x.fns = ds ++ y :: r) (hn : bodyR x ds.length y ≠ 0) : mayR x ≠ 0 := fun h0 => hn (((may_zero x).1 h0).2.2.2.2 _ _ (fns_at h))
theorem may_yes {x : Prg} (h1 : x.few = true) (h2 : newB nz (rnm x.regs ++ fnm x.fns) = true) (h3 : ∀ f ∈ x.fns, varN x f = true) (h4 : rgsAt [] x.regs = true) (h5 : ∀ f ∈ x.fns, f.varsB = true) (h6 : ∀ k f, x.fns[k]? = some f → bodyR x k f = 0) : mayR x = 0 :=
  (may_zero x).2 ⟨h1, by unfold namesB; rw [h2, Bool.true_and]; exact List.all_eq_true.2 fun f hf => (own_var x f).trans (h3 f hf), h4, List.all_eq_true.2 h5, h6⟩
theorem few_lt (n : Int) : fewB n 1 512 = (!decide (n < 1) && !decide (512 < n)) := by
  unfold fewB
  have e1 : decide (1 ≤ n) = !decide (n < 1) := by rw [Bool.eq_iff_iff]; simp
  have e2 : decide (n ≤ 512) = !decide (512 < n) := by rw [Bool.eq_iff_iff]; simp
  rw [e1, e2]
theorem few_no_regs {x : Prg} (h : x.regs.all Rgn.few = false) : x.few = false := by unfold Prg.few; rw [h]; simp
theorem few_no_fns {x : Prg} (h : x.fns.all Fnc.few = false) : x.few = false := by unfold Prg.few; rw [h]; simp
theorem all_cut {α : Type} {f : α → Bool} {l d r : List α} {y : α} (h : l = d ++ y :: r) (hy : f y = false) : l.all f = false := by rw [h]; simp [hy]
theorem all_one {α : Type} {f : α → Bool} {d : List α} {y : α} (h : d.all f = true) (hy : f y = true) : (d ++ [y]).all f = true := by rw [List.all_append, h]; simp [hy]
theorem few_all {x : Prg} (h1 : x.regs.length ≤ 16) (h2 : 1 ≤ x.fns.length) (h3 : x.fns.length ≤ 32) (h4 : x.total ≤ 65536) (h5 : x.regs.all Rgn.few = true) (h6 : x.fns.all Fnc.few = true) : x.few = true := by
  unfold Prg.few
  rw [h5, h6]
  unfold fewB cap
  rw [if_pos h4]
  simp only [Bool.and_true, Bool.and_eq_true, decide_eq_true_eq]
  omega
theorem few_bad {x : Prg} (h : 16 < x.regs.length ∨ x.fns.length < 1 ∨ 32 < x.fns.length ∨ 65536 < x.total) : x.few = false := by
  cases hq : x.few with
  | false => rfl
  | true =>
    simp only [Prg.few, fewB, Bool.and_eq_true, decide_eq_true_eq] at hq
    unfold cap at hq
    split at hq <;> omega
theorem ret_notin {x : Prg} {f : Fnc} {ds r : List (List UInt8)} {s : List UInt8} (h : f.rets = ds ++ s :: r) (hn : (f.params ++ f.vars).any (isWord s) = false) : varN x f = false := by
  unfold varN
  rw [all_cut (f := fun s => (f.params ++ f.vars).any (isWord s)) h hn, Bool.and_false]
theorem ret_twice {x : Prg} {f : Fnc} {ds r : List (List UInt8)} {s : List UInt8} (h : f.rets = ds ++ s :: r) (hn : ds.any (fun y => y == s) = true) : varN x f = false := by
  unfold varN
  rw [h, newB_cut (a := ds) (b := r) (s := s) (by rw [hn]; simp), Bool.and_false, Bool.false_and]
theorem var_cut {x : Prg} {f : Fnc} {ds r : List Vr} {v : Vr} (h : f.params ++ f.vars = ds ++ v :: r) (hn : (nameB v.name && !((rnm x.regs ++ vnm ds).any (fun y => y == v.name))) = false) : varN x f = false := by
  unfold varN
  rw [h, show rnm x.regs ++ vnm (ds ++ v :: r) = (rnm x.regs ++ vnm ds) ++ v.name :: vnm r by simp [vnm], newB_cut hn, Bool.false_and, Bool.false_and]
theorem word_name {l : List Vr} {a : List (List UInt8)} {s : List UInt8} (h : newB nz (a ++ vnm l) = true) (hw : l.any (isWord s) = true) : nameB s = true := by
  obtain ⟨v, hv, hs⟩ := List.any_eq_true.1 hw
  unfold isWord at hs
  simp only [Bool.and_eq_true, beq_iff_eq] at hs
  rw [← hs.1]
  exact newB_name h (List.mem_append_right _ (List.mem_map.2 ⟨v, hv, rfl⟩))
/-- the words' names -/
def wnm (l : List Vr) : List (List UInt8) := (l.filter (fun v => v.kind == 1)).map (·.name)
theorem wnm_any : ∀ (l : List Vr) (s : List UInt8), (wnm l).any (fun y => y == s) = l.any (isWord s)
  | [], s => rfl
  | v :: l, s => by
    rw [List.any_cons, ← wnm_any l s]
    unfold wnm isWord
    rw [List.filter_cons]
    cases hk : (v.kind == 1)
    · simp
    · simp
theorem wnm_snoc (l : List Vr) (v : Vr) : wnm (l ++ [v]) = wnm l ++ if v.kind == 1 then [v.name] else [] := by
  unfold wnm
  rw [List.filter_append, List.map_append]
  congr 1
  cases hk : (v.kind == 1) <;> simp [hk]
theorem wnm_le (l : List Vr) : (wnm l).length ≤ l.length := by unfold wnm; rw [List.length_map]; exact List.length_filter_le _ _
theorem own_grown {w w' : World} {base : Nat} {e : TypeId} {size n : Nat} {v : Value} {xs : List Value} {row : Option Nat} (h : w.ownsRow base e size v n xs) (hg : w.grownBy w' row) (hne : ∀ j, v.ownBlock = some j → row ≠ some j) : w'.ownsRow base e size v n xs := by
  refine ⟨h.1, ?_⟩
  rcases h.2 with h0 | ⟨g, cap, cur, hv, hbg, hk, hr⟩
  · exact .inl h0
  · have hlt := (h.lt g (by rw [hv]; rfl)).2
    exact .inr ⟨g, cap, cur, hv, hbg, (hg.block g hlt (by have := hne g (by rw [hv]; rfl); first | exact this | exact fun e => this e.symm)).trans hk, hr⟩
/-- two rows of the call's own, apart -/
structure Two (w : World) (B : Nat) (va : Value) (ta : List (List UInt8)) (vb : Value) (tb : List (List UInt8)) : Prop where
  a : OwnS w B va ta
  b : OwnS w B vb tb
  ap : ∀ j, va.ownBlock = some j → vb.ownBlock ≠ some j
theorem Two.later {w w' : World} {B : Nat} {va vb : Value} {ta tb : List (List UInt8)} (h : Two w B va ta vb tb) (hB : Below w.heap.size w w') : Two w' B va ta vb tb := ⟨own_later h.a hB, own_later h.b hB, h.ap⟩
theorem Two.app1 {w w' : World} {B : Nat} {va va' vb : Value} {ta ta' tb : List (List UInt8)} (h : Two w B va ta vb tb) (hown : OwnS w' B va' ta') (hg : w.grownBy w' va.ownBlock) (hat : va'.ownBlock = va.ownBlock ∨ va'.ownBlock = some w.heap.size) : Two w' B va' ta' vb tb :=
  ⟨hown, own_grown h.b hg (fun j hj he => h.ap j he hj), fun j hj he => by
    rcases hat with e | e
    · exact h.ap j (by rw [← e]; exact hj) he
    · rw [e] at hj; cases hj; have := (h.b.lt _ he).2; omega⟩
theorem Two.app2 {w w' : World} {B : Nat} {va vb vb' : Value} {ta tb tb' : List (List UInt8)} (h : Two w B va ta vb tb) (hown : OwnS w' B vb' tb') (hg : w.grownBy w' vb.ownBlock) (hat : vb'.ownBlock = vb.ownBlock ∨ vb'.ownBlock = some w.heap.size) : Two w' B va ta vb' tb' :=
  ⟨own_grown h.a hg (fun j hj he => h.ap j hj he), hown, fun j hj he => by
    rcases hat with e | e
    · exact h.ap j hj (by rw [← e]; exact he)
    · rw [e] at he; cases he; have := (h.a.lt _ hj).2; omega⟩
theorem wpList_app_at {P : Program} {w : World} {ops : Array Oper} {rest : List Oper} {o : Oper} {a : Act} {Q : Exit → Act → World → Prop} (hgd : o.guard = none) (s x : Operand) (t : TypeId)
    (ho : o.op = .call { callee := .builtin .append, args := #[s, x], argTypes := #[t, t] })
    (base : Nat) (e : TypeId) (i : TypeInfo) (z : Value) (size bytes : Nat) (ht : P.underlying t = some (.slice e)) (hi : P.info? e = some i) (hz : i.zero = some z)
    (hsize : i.size = size) (hby : i.bytes = bytes) (hzs : z.cells.size = size) (hsz : 0 < size)
    (v : Value) (n : Nat) (xs : List Value) (hs : a.eval s = v) (hown : w.ownsRow base e size v n xs)
    (p : Option Addr) (m c : Nat) (news : List Value) (hx : a.eval x = .slice p m c) (hsrc : Src w size p m news) (h1 : ∀ u ∈ news, u.oneCell' = true)
    (h63 : n + m ≤ maxLen) (hbytes : (n + m) * bytes ≤ 140737488355328) (hbase : base ≤ w.heap.size)
    (h : ∀ v' w', w'.ownsRow base e size v' (n + m) (xs ++ news) → w.grownBy w' v.ownBlock → (v'.ownBlock = v.ownBlock ∨ v'.ownBlock = some w.heap.size) → wpList P ops Q rest (a.put o.dst v') w') : wpList P ops Q (o :: rest) a w := by
  obtain ⟨hl, rfl | ⟨b', o', rfl, hc⟩⟩ := hsrc
  · have : news = [] := List.eq_nil_of_length_eq_zero (by simpa using hl)
    subst this
    have hrun := run_append_empty (P := P) (w := w) base t o.type e i size ht hi v n xs hown p c
    exact Lib.wpList_append_run w hgd s x t t ho _ _ hs hx _ _ hrun (h v w (by simpa using hown) (World.grownBy.refl w _) (.inl rfl))
  · exact wpList_append_own_at w hgd s x t ho base e i z size bytes ht hi hz hsize hby hzs hsz v n xs hs hown _ m c news hx hl (fun j u hu => by rw [add_of]; exact hc j u hu) h1 h63 hbytes hbase fun v' w' h2 h3 _ h5 => h v' w' h2 h3 h5
end Go.Proofs.Ytnghehcjklkoeaa
