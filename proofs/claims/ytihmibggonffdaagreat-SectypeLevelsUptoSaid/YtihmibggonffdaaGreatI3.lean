/- DC, K3, I3 as one. -/
import Derived.Test.YtihmibggonffdaaGreatDB
import Derived.Test.YtihmibggonffdaaGreatF1
import Derived.Test.YtihmibggonffdaaGreatK2
import Derived.Test.YtihmibggonffdaaGreatI1
/- The document's: why the statements of a function may not be. -/
namespace Go.Proofs.YtihmibggonffdaaGreat
open Go.RowKit

theorem exec_load_mid {P : Program} {op : Oper} {a : Act} {w : World} (ty : TypeId) (x : Operand) (ho : op.op = .load ty x) (b o : Nat) (hx : a.eval x = .pointer (some ⟨b, o, none⟩)) (A : Array Value) (d : TypeDesc) (hc : w.rangeAt b o A.toList)
   (hu : P.underlying ty = some d) (hd : d.isRow = true) (hi : (P.info? ty).map (·.size) = some A.size) : (execOp a.eval op).run P w = .ok (.value (.agg A)) w := by
 have h1 := run_loadVar_mid (P := P) w b o ty A.toList d hc hu hd (by rw [hi]; simp)
 unfold execOp
 simp only [ho, hx, Instr.loadAt, Instr.sureAddr, Sem.run_bind, Sem.run_pure, Result.andThen_ok, h1]
set_option maxRecDepth 100000 in
set_option maxHeartbeats 12800000 in
theorem rinner_step (n : Nat) (ih : RI n) : RI (n + 1) := by
 intro l hln x s fi fn f cts pc cc N ar pr cr deep p c w h har hal hdeep hl
 obtain ⟨pp, pq, cp, dp⟩ := s
 obtain ⟨W0, hW0, k0, hB0, hz0⟩ := one_alloc w (.cells #[.slice pp x.regs.length cp, .slice pq x.fns.length dp] 25)
 have HU := Lib.hid (fun (W : World) (hB : Below W0.heap.size W0 W) => show Below w.heap.size w W from hB0.trans (hB.mono (by omega)))
 have HP := Lib.hid (fun (W : World) (hB : Below W0.heap.size W0 W) => show W.cell? ⟨w.heap.size, 0, none⟩ = some (.slice pp x.regs.length cp) ∧ W.cell? ⟨w.heap.size, 1, none⟩ = some (.slice pq x.fns.length dp) from
   ⟨cell_blk ((hB.block _ (lt_blk k0)).trans k0) rfl, cell_blk ((hB.block _ (lt_blk k0)).trans k0) rfl⟩)
 have HSt := Lib.hid (fun (y : St) (hy : y.size ≤ n) (W : World) (sp : StP) (hB : Below w.heap.size w W) (hok : y.Ok W N sp) => rstmt_any y (fun l hl => ih l (Nat.lt_of_lt_of_le hl hy)) x ⟨pp, pq, cp, dp⟩ fi fn f cts pc cc N ar pr cr deep sp W (h.later hB) (har.imp hB.size (StrAt.later hB)) hal hdeep hok)
 obtain ⟨hm, hs⟩ := hl
 obtain ⟨b, o, hp, hb, ha⟩ : ∃ b o, (l.len = 0 ∨ p = some ⟨b, o, none⟩) ∧ (b < N ∨ l.len = 0) ∧ l.At w N b o := by
   rcases hs with h0 | ⟨b, o, hp, hb, ha⟩
   · exact ⟨0, 0, .inl h0, .inr h0, by cases l with | nil => trivial | cons => simp [Sts.len] at h0⟩
   · exact ⟨b, o, .inr hp, .inl hb, ha⟩
 have HA := Lib.hid (And.intro ha hb)
 have HN := Lib.hid h.hN
 have HLn := Lib.hid (show l.size ≤ n by omega)
 obtain ⟨R, hR⟩ : ∃ R, R = l.chk x fn f fi deep ar := ⟨_, rfl⟩
 have HR := Lib.hid hR
 rw [← hR]
 have HW0 := Lib.hid hW0
 unfold Prg.v
 unfold Prg.v St.val at HSt
 clear hW0 k0 hB0 hz0 h har hs ha hb hln ih hR
 go_enter Tryz.func63, Tryz.ntmps63
 go_upto_region 1 with fail
 rw [HW0.out]
 go_wp2_with fail
 go_loopw [13, 14] (fun i xx wr => ∃ (k : Nat) (r : Sts), i = .int .i64 k ∧ k + r.len = l.len ∧ Hid (r.size ≤ l.size) ∧ Hid (r.At w N b (o + k * 16)) ∧ Hid (R = r.chk x fn f fi deep ar) ∧ Hid (Below W0.heap.size W0 wr)) (fun i _ _ => l.len - (intOf i).toNat)
 case atStart => exact ⟨0, l, rfl, by omega, Lib.hid (Nat.le_refl _), Lib.hid (by rw [Nat.zero_mul]; exact HA.out.1), HR, Lib.hid (Below.refl _ _)⟩
 case round =>
   obtain ⟨k, r, rfl, hk, hrs, hr, hE, hB⟩ := hrel
   cases r with
   | nil =>
     simp only [Sts.len] at hk
     have hge : ¬ k < l.len := by omega
     have HV := Lib.hid (show 0 = R by rw [hE.out, Sts.chk])
     have HE := Lib.hid (HU.out _ hB.out)
     clear hE hr
     go_wp2_with fail
     go_ret
     exact ⟨by rw [← HV.out]; rfl, HE.out⟩
   | cons y r =>
     obtain ⟨hy, hr'⟩ := hr.out
     simp only [Sts.len] at hk
     have hlt : k < l.len := by omega
     rcases hp with h0 | rfl
     · omega
     have hbN : b < N := by have := HA.out.2; omega
     have hX : Below wr.heap.size wr wr.drew := (Below.refl _ _).drew
     have hX0 := hB.out.trans (hX.mono hB.out.size)
     obtain ⟨sp, hcs, hok⟩ := hy.open
     obtain ⟨A, hA⟩ : ∃ A, y.cells sp = A := ⟨_, rfl⟩
     have hbw : b < w.heap.size := Nat.lt_of_lt_of_le hbN HN.out
     have hrg := (fun (W : World) (hB : Below w.heap.size w W) => show W.rangeAt b (o + k * 16) A.toList from fun j v hv => (hB.cell (p := ⟨b, o + k * 16 + j, none⟩) hbw).trans (hcs j v (by rw [hA, ← Array.getElem?_toList]; exact hv)))
     have hsz : A.size = 16 := by rw [← hA]; rfl
     have hys : y.size ≤ n := by have h1 := hrs.out; have h2 := HLn.out; simp only [Sts.size] at h1; omega
     have HC := Lib.hid (HSt.out y hys wr.drew sp (HU.out _ hX0) (hok.later ((HU.out _ hX0).mono HN.out) (Nat.le_refl N)))
     rw [hA] at HC
     have HRg := Lib.hid hrg
     have HLd := Lib.hid hsz
     have HE2 := Lib.hid (show R = seq (y.chk x fn f fi deep ar) (r.chk x fn f fi deep ar) by rw [hE.out, Sts.chk])
     have HRr := Lib.hid hr'
     have HRs := Lib.hid (show r.size ≤ l.size by have h1 := hrs.out; simp only [Sts.size] at h1; omega)
     generalize y.chk x fn f fi deep ar = v1 at HC HE2
     clear hy hr hr' hok hE hcs hA hrg hsz hys hrs
     go_upto_region 4 with fail
     refine wp_region_held_drew (S := fun W => W.cell? ⟨w.heap.size, 0, none⟩ = some (.slice pp x.regs.length cp) ∧ W.cell? ⟨w.heap.size, 1, none⟩ = some (.slice pq x.fns.length dp) ∧ W.rangeAt b (o + k * 16) A.toList) (by kernel_rfl) ?_ (fun hHeld => ?_)
     · exact ⟨(HP.out _ hX0).1, (HP.out _ hX0).2, HRg.out _ (HU.out _ hX0)⟩
     refine tq 0 ?_
     refine tq 1 ?_
     refine tq 2 ?_
     refine tq 3 ?_
     refine tq 4 ?_
     refine tk 5 (.agg A) rfl (.inl ⟨by rfl, ?_⟩) ?_
     · intro W hSw
       exact exec_load_mid 45 _ rfl b (o + k * 16) rfl A _ hSw.2.2 Tryz.underlying45 rfl (infoSt.trans (by rw [HLd.out]))
     try simp only [Act.put, List.setIfInBounds_toArray, List.set_cons_zero, List.set_cons_succ]
     refine tq 6 ?_
     refine tq 7 ?_
     refine tq 8 ?_
     refine wpAnyH_ready (rs := [9]) (by kernel_rfl) (by simp) ?_
     refine rdy rfl (fun K hK => ?_) AllReadyH.nil
     go_simp
     refine HC.out.mono ?_
     rintro z w5 ⟨rfl, hB5⟩
     replace hX := hX.trans (hB5.mono hX.size)
     replace hX0 := hB.out.trans (hX.mono hB.out.size)
     clear hB5
     refine hK.out _ _ ?_ (fun hHeld => ?_)
     · exact ⟨(HP.out _ hX0).1, (HP.out _ hX0).2, HRg.out _ (HU.out _ hX0)⟩
     clear hK K
     try simp only [Act.put, List.setIfInBounds_toArray, List.set_cons_zero, List.set_cons_succ]
     refine tq 10 ?_
     refine wpAnyH_done (by kernel_rfl) ?_ _
     have HX := Lib.hid hX0
     clear hX hX0
     by_cases hv1 : v1 = 0
     · subst hv1
       have HE3 := Lib.hid (show R = r.chk x fn f fi deep ar by rw [HE2.out]; rfl)
       clear HE2
       go_wp2_with fail
       go_roundw
       case rel => exact ⟨k + 1, r, by go_num, by omega, HRs, Lib.hid (by rw [show o + (k + 1) * 16 = o + k * 16 + 16 by omega]; exact HRr.out), HE3, HX⟩
       case measure => simp [intOf]; omega
     · have hv1i : ((v1 : Int) != 0) = true := by simp [bne]; omega
       have HV := Lib.hid (show v1 = R by rw [HE2.out, seq_no hv1])
       have HE := Lib.hid (HU.out _ HX.out)
       clear HE2
       go_wp2_with fail
       go_ret
       exact ⟨by rw [← HV.out]; rfl, HE.out⟩
theorem rinner_to : ∀ n, RI n
 | 0 => fun _ h => absurd h (Nat.not_lt_zero _)
 | n + 1 => rinner_step n (rinner_to n)
theorem RowIn.none {α : Type} {N : Nat} {A : α → Nat → Nat → Prop} {k : Nat} {p : Option Addr} : RowIn N A k ([] : List α) p := ⟨Nat.zero_le _, .inl rfl⟩
set_option maxRecDepth 100000 in
set_option maxHeartbeats 12800000 in
theorem rstmts7_any (x : Prg) (s : PrgP) (fi : Nat) (fn : Fnc) (l : Sts) (p : Option Addr) (c N : Nat) (w : World) (h : x.Ok w N s.p s.q) (hN : N ≤ w.heap.size) (hi : x.fns[fi]? = some fn) (hbig : fn.params.length + fn.vars.length ≤ 4000000) (hbb : fn.body.big ≤ 4000000) (hl : l.In w N p) :
   Calls Tryz.prog 33 #[.agg #[.slice s.p x.regs.length s.c, .slice s.q x.fns.length s.d], .int .i64 (fi : Int), .slice p l.len c, .int .i64 1, .slice none 0 0] w fun z w' => z = .returned (.int .i64 (l.chk x fn (adds nz (fn.body.fors 1)) fi 1 [] : Nat)) ∧ Below w.heap.size w w' := by
 obtain ⟨pp, pq, cp, dp⟩ := s
 obtain ⟨W0, hW0, k0, hB0, hz0⟩ := one_alloc w (.cells #[.slice pp x.regs.length cp, .slice pq x.fns.length dp] 25)
 have HU := Lib.hid (fun (W : World) (hB : Below W0.heap.size W0 W) => show Below w.heap.size w W from hB0.trans (hB.mono (by omega)))
 have HP := Lib.hid (fun (W : World) (hB : Below W0.heap.size W0 W) => show W.cell? ⟨w.heap.size, 0, none⟩ = some (.slice pp x.regs.length cp) ∧ W.cell? ⟨w.heap.size, 1, none⟩ = some (.slice pq x.fns.length dp) from
   ⟨cell_blk ((hB.block _ (lt_blk k0)).trans k0) rfl, cell_blk ((hB.block _ (lt_blk k0)).trans k0) rfl⟩)
 obtain ⟨b', o', hq, hb', ha'⟩ := Row.start h.2
 obtain ⟨pb, cb, hc4, hin⟩ := Fnc.At.bodyC (Row.get ha' hi)
 have hil : fi < x.fns.length := (List.getElem?_eq_some_iff.1 hi).1
 have hmf := h.2.1
 have hpq : pq = some ⟨b', o', none⟩ := by
   rcases hq with h0 | h0
   · omega
   · exact h0
 have hbw : b' < w.heap.size := by omega
 have HF := Lib.hid (fun (W : World) (hB : Below w.heap.size w W) => show W.cell? ⟨b', o' + fi * 5 + 4, none⟩ = some (.slice pb fn.body.len cb) from (hB.cell (p := ⟨b', _, none⟩) hbw).trans hc4)
 have HCt := Lib.hid (fun (W : World) (hB : Below w.heap.size w W) => rcounts_to _ fn.body (Nat.lt_succ_self _) hbb 1 (by decide) pb cb N W (hin.later (hB.mono hN) (Nat.le_refl N)) (Nat.le_trans hN hB.size))
 have HIn := Lib.hid (fun (W : World) (q : Option Addr) (cq : Nat) (hB : Below w.heap.size w W) (hr : RowIn W.heap.size (StrAt W) 1 (fn.body.fors 1) q) => rinner_to _ l (Nat.lt_succ_self _) x ⟨pp, pq, cp, dp⟩ fi fn (adds nz (fn.body.fors 1)) (fn.body.fors 1) q cq N [] none 0 1 p c W ⟨h.later (hB.mono hN) (Nat.le_refl N), Nat.le_trans hN hB.size, hi, hbig, hr, cts_is _⟩ RowIn.none (by decide) (by decide) (hl.later (hB.mono hN) (Nat.le_refl N)))
 have HW0 := Lib.hid hW0
 have HB0 := Lib.hid hB0
 unfold Prg.v at HIn
 generalize l.chk x fn (adds nz (fn.body.fors 1)) fi 1 [] = R at HIn ⊢
 generalize fn.body.fors 1 = F at HCt HIn
 subst hpq
 clear hW0 k0 hB0 hz0 h hq hb' ha' hin hc4 hl hi hbig hbb
 have hX : Below W0.heap.size W0 W0.drew := (Below.refl _ _).drew
 go_enter Tryz.func33, Tryz.ntmps33
 go_upto_region 1 with fail
 rw [HW0.out]
 refine wp_region_held_drew (S := fun W => W.cell? ⟨w.heap.size, 0, none⟩ = some (.slice pp x.regs.length cp) ∧ W.cell? ⟨w.heap.size, 1, none⟩ = some (.slice (some ⟨b', o', none⟩) x.fns.length dp) ∧ W.cell? ⟨b', o' + fi * 5 + 4, none⟩ = some (.slice pb fn.body.len cb)) (by kernel_rfl) ?_ (fun hHeld => ?_)
 · exact ⟨(HP.out _ hX).1, (HP.out _ hX).2, HF.out _ (HU.out _ hX)⟩
 refine tq 0 ?_
 refine tq 1 ?_
 refine tq 2 ?_
 refine tq 3 ?_
 refine tq 4 ?_
 refine tq 5 ?_
 refine tq 6 ?_
 refine tq 7 ?_
 refine tq 8 ?_
 refine tq 9 ?_
 refine tq 10 ?_
 refine wpAnyH_ready (rs := [11]) (by kernel_rfl) (by simp) ?_
 refine rdy rfl (fun K hK => ?_) AllReadyH.nil
 go_simp
 refine (HCt.out _ (HU.out _ hX)).mono ?_
 rintro z w5 ⟨⟨q5, cq5, rfl, hrow5⟩, hB5⟩
 replace hX := hX.trans (hB5.mono hX.size)
 clear hB5
 refine hK.out _ _ ?_ (fun hHeld => ?_)
 · exact ⟨(HP.out _ hX).1, (HP.out _ hX).2, HF.out _ (HU.out _ hX)⟩
 clear hK K
 try simp only [Act.put, List.setIfInBounds_toArray, List.set_cons_zero, List.set_cons_succ]
 refine wpAnyH_ready (rs := [12]) (by kernel_rfl) (by simp) ?_
 refine rdy rfl (fun K hK => ?_) AllReadyH.nil
 go_simp
 refine (HIn.out _ q5 cq5 (HU.out _ hX) hrow5).mono ?_
 rintro z w6 ⟨rfl, hB6⟩
 replace hX := hX.trans (hB6.mono hX.size)
 clear hB6
 refine hK.out _ _ ?_ (fun hHeld => ?_)
 · exact ⟨(HP.out _ hX).1, (HP.out _ hX).2, HF.out _ (HU.out _ hX)⟩
 clear hK K
 try simp only [Act.put, List.setIfInBounds_toArray, List.set_cons_zero, List.set_cons_succ]
 refine tq 13 ?_
 refine wpAnyH_done (by kernel_rfl) ?_ _
 have HE := Lib.hid (HU.out _ hX)
 clear hX
 go_wp2_with fail
 go_ret
 exact ⟨rfl, HE.out⟩
/- May, whole. -/
open Go.RowKit

theorem sum_le : ∀ (l : List Fnc) (i : Nat) (f : Fnc), l[i]? = some f → f.body.sc 1 ≤ sumSc l
 | [], i, f, h => by simp at h
 | g :: l, 0, f, h => by simp at h; subst h; rw [sumSc]; omega
 | g :: l, i + 1, f, h => by have := sum_le l i f (by simpa using h); rw [sumSc]; omega
set_option maxRecDepth 100000 in
set_option maxHeartbeats 6400000 in
theorem placeIn_any (x : Prg) (s : PrgP) (i : Nat) (fn : Fnc) (pb N : Nat) (w : World) (hP : PB w N x pb s.p s.q s.c s.d) (hN : N ≤ w.heap.size) (hi : x.fns[i]? = some fn) (hT : x.total ≤ 65536) :
   Calls Tryz.prog 56 #[.pointer (some ⟨pb, 0, none⟩), .int .i64 (i : Int)] w fun z w' => ∃ m, z = .returned (Plc.v ⟨pb, i, m, [], none, 0, 1⟩) ∧ Cm w' m (adds nz (fn.body.fors 1)) ∧ Below w.heap.size w w' := by
 have hmm := @run_makeMap Tryz.prog
 have hil : i < x.fns.length := (List.getElem?_eq_some_iff.1 hi).1
 obtain ⟨W0, hW0, k0, k1, k2, hB0, hz0⟩ := three w (.cells #[.pointer none, .int .i64 0, .map none, .slice none 0 0, .int .i64 0] 113) (.map #[] 0) (.cells #[.map (some (w.heap.size + 1))] 111)
 obtain ⟨b', o', hq, hb', ha'⟩ := Row.start hP.ok.2
 obtain ⟨q4, c4, e4, hok4⟩ := Fnc.At.bodyC (Row.get ha' hi)
 have hbw : b' < w.heap.size := by omega
 have hqs : s.q = some ⟨b', o', none⟩ := by
   rcases hq with h0 | h0
   · omega
   · exact h0
 have hCm : Cm W0 (w.heap.size + 1) nz := ⟨#[], 0, [], k1, trivial, fun _ => rfl⟩
 have hNm : Nm W0 (w.heap.size + 1 + 1) (w.heap.size + 1) nz := ⟨k2, hCm, by omega⟩
 have HEa := Lib.hid (eachC_to _ fn.body (Nat.lt_succ_self _) 1 (by omega) q4 c4 N W0 (w.heap.size + 1 + 1) (w.heap.size + 1) 0 nz (hok4.later (hB0.mono hN) (Nat.le_refl N)) (by omega) (by omega) hNm (fun _ => Nat.le_refl _) (by have := sum_le x.fns i fn hi; unfold Prg.total at hT; omega))
 rw [show ((1 : Nat) : Int) = 1 from rfl] at HEa
 unfold seeC at HEa
 have p1 : W0.cell? ⟨pb, 1, none⟩ = some (.slice s.q x.fns.length s.d) := cell_blk ((hB0.block _ (lt_blk hP.cs)).trans hP.cs) rfl
 rw [hqs] at p1
 have b4 := (hB0.cell (p := ⟨b', o' + i * 5 + 4, none⟩) hbw).trans e4
 have hii : (i : Int) < (x.fns.length : Int) := by omega
 have hmf := hP.ok.2.1
 have HW0 := Lib.hid hW0
 have HB0 := Lib.hid (show Below w.heap.size w W0 ∧ w.heap.size < W0.heap.size from ⟨hB0, by omega⟩)
 have HK := Lib.hid k0
 unfold Plc.v
 clear hW0 k0 k1 k2 hB0 hz0 hP hi hT hCm hNm hq hb' ha' e4 hok4 hqs hbw
 go_enter Tryz.func56, Tryz.ntmps56
 go_upto_region 2 with fail
 rw [HW0.out]
 clear HW0
 go_wp2_with fail
 refine HEa.out.mono ?_
 rintro z w1 ⟨rfl, hM, hB1, _⟩
 have hz := (hB1.block _ HB0.out.2 (by omega)).trans HK.out
 have g0 : w1.cell? ⟨w.heap.size + 1 + 1, 0, none⟩ = some (.map (some (w.heap.size + 1))) := cell_blk hM.1 rfl
 have z0 : w1.cell? ⟨w.heap.size, 0, none⟩ = some (.pointer none) := cell_blk hz rfl
 have z1 : w1.cell? ⟨w.heap.size, 1, none⟩ = some (.int .i64 0) := cell_blk hz rfl
 have z2 : w1.cell? ⟨w.heap.size, 2, none⟩ = some (.map none) := cell_blk hz rfl
 have z3 : w1.cell? ⟨w.heap.size, 3, none⟩ = some (.slice none 0 0) := cell_blk hz rfl
 have z4 : w1.cell? ⟨w.heap.size, 4, none⟩ = some (.int .i64 0) := cell_blk hz rfl
 have hfz : ∀ j, w1.frozen? ⟨w.heap.size, j, none⟩ = false := fun j => by simp [World.frozen?, hz]
 have f0 := hfz 0
 have f1 := hfz 1
 have f2 := hfz 2
 have f3 := hfz 3
 have f4 := hfz 4
 have hFin : ∀ F, F = ((((w1.setCell ⟨w.heap.size, 0, none⟩ (.pointer (some ⟨pb, 0, none⟩))).setCell ⟨w.heap.size, 1, none⟩ (.int .i64 (i : Int))).setCell ⟨w.heap.size, 2, none⟩ (.map (some (w.heap.size + 1)))).setCell ⟨w.heap.size, 3, none⟩ (.slice none 0 0)).setCell ⟨w.heap.size, 4, none⟩ (.int .i64 1) →
     F.heap[w.heap.size]? = some (.cells #[.pointer (some ⟨pb, 0, none⟩), .int .i64 (i : Int), .map (some (w.heap.size + 1)), .slice none 0 0, .int .i64 1] 113 (0, 0)) ∧ Cm F (w.heap.size + 1) (adds nz (fn.body.fors 1)) ∧ Below w.heap.size w F := by
   intro F hF
   have s1 : (w1.setCell ⟨w.heap.size, 0, none⟩ (.pointer (some ⟨pb, 0, none⟩))).heap[w.heap.size]? = some (.cells #[.pointer (some ⟨pb, 0, none⟩), .int .i64 0, .map none, .slice none 0 0, .int .i64 0] 113 (0, 0)) := by rw [setCell_eq_setRow _ _ 0 _ _ (0, 0) _ hz]; exact setRow_heap _ _ _ _ _ (0, 0) hz
   have s2 : ((w1.setCell ⟨w.heap.size, 0, none⟩ (.pointer (some ⟨pb, 0, none⟩))).setCell ⟨w.heap.size, 1, none⟩ (.int .i64 (i : Int))).heap[w.heap.size]? = some (.cells #[.pointer (some ⟨pb, 0, none⟩), .int .i64 (i : Int), .map none, .slice none 0 0, .int .i64 0] 113 (0, 0)) := by rw [setCell_eq_setRow _ _ 1 _ _ (0, 0) _ s1]; exact setRow_heap _ _ _ _ _ (0, 0) s1
   have s3 : (((w1.setCell ⟨w.heap.size, 0, none⟩ (.pointer (some ⟨pb, 0, none⟩))).setCell ⟨w.heap.size, 1, none⟩ (.int .i64 (i : Int))).setCell ⟨w.heap.size, 2, none⟩ (.map (some (w.heap.size + 1)))).heap[w.heap.size]? = some (.cells #[.pointer (some ⟨pb, 0, none⟩), .int .i64 (i : Int), .map (some (w.heap.size + 1)), .slice none 0 0, .int .i64 0] 113 (0, 0)) := by rw [setCell_eq_setRow _ _ 2 _ _ (0, 0) _ s2]; exact setRow_heap _ _ _ _ _ (0, 0) s2
   have s4 : ((((w1.setCell ⟨w.heap.size, 0, none⟩ (.pointer (some ⟨pb, 0, none⟩))).setCell ⟨w.heap.size, 1, none⟩ (.int .i64 (i : Int))).setCell ⟨w.heap.size, 2, none⟩ (.map (some (w.heap.size + 1)))).setCell ⟨w.heap.size, 3, none⟩ (.slice none 0 0)).heap[w.heap.size]? = some (.cells #[.pointer (some ⟨pb, 0, none⟩), .int .i64 (i : Int), .map (some (w.heap.size + 1)), .slice none 0 0, .int .i64 0] 113 (0, 0)) := by rw [setCell_eq_setRow _ _ 3 _ _ (0, 0) _ s3]; exact setRow_heap _ _ _ _ _ (0, 0) s3
   have s5 : F.heap[w.heap.size]? = some (.cells #[.pointer (some ⟨pb, 0, none⟩), .int .i64 (i : Int), .map (some (w.heap.size + 1)), .slice none 0 0, .int .i64 1] 113 (0, 0)) := by rw [hF, setCell_eq_setRow _ _ 4 _ _ (0, 0) _ s4]; exact setRow_heap _ _ _ _ _ (0, 0) s4
   refine ⟨s5, hM.2.1.of_block ?_, ?_⟩
   · rw [hF]
     have hne : w.heap.size + 1 ≠ w.heap.size := by omega
     rw [Below.heap_setCell _ _ _ _ hne, Below.heap_setCell _ _ _ _ hne, Below.heap_setCell _ _ _ _ hne, Below.heap_setCell _ _ _ _ hne, Below.heap_setCell _ _ _ _ hne]
   · rw [hF]
     have hb := But.below HB0.out.1 hB1 (Nat.le_succ _) (Nat.le_of_lt HB0.out.2)
     exact ((((hb.setCell (p := ⟨w.heap.size, 0, none⟩) (Nat.le_refl _) _).setCell (p := ⟨w.heap.size, 1, none⟩) (Nat.le_refl _) _).setCell (p := ⟨w.heap.size, 2, none⟩) (Nat.le_refl _) _).setCell (p := ⟨w.heap.size, 3, none⟩) (Nat.le_refl _) _).setCell (p := ⟨w.heap.size, 4, none⟩) (Nat.le_refl _) _
 have HFin := Lib.hid hFin
 clear hM hB1 hz hfz hFin
 go_wp2_with fail
 obtain ⟨F, hF⟩ : ∃ F, F = ((((w1.setCell ⟨w.heap.size, 0, none⟩ (.pointer (some ⟨pb, 0, none⟩))).setCell ⟨w.heap.size, 1, none⟩ (.int .i64 (i : Int))).setCell ⟨w.heap.size, 2, none⟩ (.map (some (w.heap.size + 1)))).setCell ⟨w.heap.size, 3, none⟩ (.slice none 0 0)).setCell ⟨w.heap.size, 4, none⟩ (.int .i64 1) := ⟨_, rfl⟩
 obtain ⟨r1, r2, r3⟩ := HFin.out F hF
 rw [← hF]
 clear hF HFin
 have y0 := cell_blk r1 (j := 0) rfl
 have y1 := cell_blk r1 (j := 1) rfl
 have y2 := cell_blk r1 (j := 2) rfl
 have y3 := cell_blk r1 (j := 3) rfl
 have y4 := cell_blk r1 (j := 4) rfl
 refine bodyPost_ret (v := .agg #[.pointer (some ⟨pb, 0, none⟩), .int .i64 (i : Int), .map (some (w.heap.size + 1)), .slice none 0 0, .int .i64 1]) ?_ rfl ⟨w.heap.size + 1, rfl, r2, r3⟩
 simp [results, Tryz.results56, go_sem, y0, y1, y2, y3, y4]

/- What is asked of the whole program's names. -/
open Go.RowKit

def namesB (x : Prg) : Bool := newB nz (rnm x.regs ++ fnm x.fns) && x.fns.all (ownN x.regs)
theorem ask8 {b : Bool} (h : ask b 8 ≠ 0) : b = false := by cases b with | false => rfl | true => exact absurd rfl h
theorem ask8' {b : Bool} (h : ask b 8 = 0) : b = true := by cases b with | false => cases h | true => rfl
set_option maxRecDepth 100000 in
set_option maxHeartbeats 12800000 in
theorem mustBeNamed_any (x : Prg) (s : PrgP) (N : Nat) (w : World) (h : x.Ok w N s.p s.q) (hN : N ≤ w.heap.size) (hvs : ∀ f ∈ x.fns, f.params.length + f.vars.length ≤ 1000) :
   Calls Tryz.prog 53 #[x.v s] w (Chk (ask (namesB x) 8) w) := by
 obtain ⟨p, q, c, d⟩ := s
 obtain ⟨W0, hW0, k0, hB0, hz0⟩ := one_alloc w (.cells #[.slice p x.regs.length c, .slice q x.fns.length d] 25)
 obtain ⟨b, o, hp, hb, ha⟩ := Row.start h.1
 obtain ⟨b', o', hq, hb', ha'⟩ := Row.start h.2
 have hm := h.1.1
 have hm' := h.2.1
 have HA := Lib.hid (And.intro ha hb)
 have HA' := Lib.hid (And.intro ha' hb')
 have HOwn := Lib.hid (fun (W : World) (f : Fnc) (sf : FncP) (hB : Below w.heap.size w W) (hf : f ∈ x.fns) (hok : f.Ok w N sf) => mustNameOwn_any x.regs f sf p c N W (hok.later (hB.mono hN) (Nat.le_refl N)) ((h.later (hB.mono hN) (Nat.le_refl N)).1) (Nat.le_trans hN hB.size) (hvs f hf))
 have HB0 := Lib.hid hB0
 have HZ0 := Lib.hid hz0
 have HW0 := Lib.hid hW0
 have HK := Lib.hid k0
 have HNm := Lib.hid names_any
 have HNo := Lib.hid (fun (w' : World) (hf : namesB x = false) (hB : Below w.heap.size w w') => show Chk (ask (namesB x) 8) w (Pn 8) w' from Chk.no' (e := 8) (by rw [hf]; rfl) (by decide) hB)
 have HNo2 := Lib.hid (fun (w' : World) (r : Nat) (hr : ask (namesB x) 8 = r) (h0 : r ≠ 0) (hB : Below w.heap.size w w') => show Chk (ask (namesB x) 8) w (Pn (r : Int)) w' from Chk.no' hr h0 hB)
 unfold Pn at HNo HNo2
 unfold Prg.v
 clear hW0 k0 hB0 h hb hb' ha ha' hz0 hvs
 go_enter Tryz.func53, Tryz.ntmps53
 go_wp2_with fail
 rw [HW0.out]
 refine (HNm.out _).mono ?_
 rintro z W1 ⟨g1, b1, rfl, m1, l1, l1', hB1⟩
 have HM1 := Lib.hid (And.intro m1 hB1)
 have HG := Lib.hid l1'
 have HU := Lib.hid (fun (W : World) (hB : Below W0.heap.size W0 W) => show Below w.heap.size w W from HB0.out.trans (hB.mono (by have := HZ0.out; omega)))
 have HV := Lib.hid (fun (W W' : World) (k : Nat) (hB : Below W0.heap.size W0 W) (hb : But k W W') (hk : W0.heap.size ≤ k) => show Below W0.heap.size W0 W' from But.below hB hb hk hB.size)
 have HC := Lib.hid (fun (W : World) (hB : Below W0.heap.size W0 W) => show W.cell? ⟨w.heap.size, 0, none⟩ = some (.slice p x.regs.length c) ∧ W.cell? ⟨w.heap.size, 1, none⟩ = some (.slice q x.fns.length d) from ⟨cell_blk ((hB.block _ (lt_blk HK.out)).trans HK.out) rfl, cell_blk ((hB.block _ (lt_blk HK.out)).trans HK.out) rfl⟩)
 clear m1 l1 l1' hB1 HNm
 unfold nmFn
 obtain ⟨c0, c1⟩ := HC.out _ HM1.out.2
 go_wp2_with fail
 clear c0 c1
 go_loopw [11] (fun i wr => ∃ (ds r : List Rgn), i = .int .i64 ds.length ∧ ds.length + r.length = x.regs.length ∧ Hid (x.regs = ds ++ r) ∧ Hid (Row (Rgn.At w) 4 r b (o + ds.length * 4)) ∧ Hid (Nm wr g1 b1 (adds nz (rnm ds)) ∧ Below W0.heap.size W0 wr) ∧ Hid (newB nz (rnm ds) = true)) (fun i _ => x.regs.length - (intOf i).toNat)
 case atStart => exact ⟨[], x.regs, rfl, by simp, Lib.hid rfl, Lib.hid (by simpa using HA.out.1), HM1, Lib.hid rfl⟩
 case round =>
   obtain ⟨ds, r, rfl, hk, hds, hr, hM, hE⟩ := hrel
   cases r with
   | cons y r =>
     obtain ⟨hy, hr'⟩ := hr.out
     simp only [List.length_cons] at hk
     have hlt : ds.length < x.regs.length := by omega
     rcases hp with h0 | rfl
     · omega
     obtain ⟨d0, d1, d2, d3⟩ := Rgn.At.of hy (HU.out _ hM.out.2) (by have := HA.out.2; omega)
     have HR := Lib.hid hr'
     obtain ⟨Wa, hWa, ka, hBa, hza⟩ := one_alloc wr (.cells #[.string (str y.name), .int .i64 y.addr, .int .i64 y.size, .bool y.secret] 83)
     have HWa := Lib.hid hWa
     have HMa := Lib.hid (And.intro (hM.out.1.later hBa) (hM.out.2.trans (hBa.mono hM.out.2.size)))
     have a0 : Wa.cell? ⟨wr.heap.size, 0, none⟩ = some (.string (str y.name)) := cell_blk ka rfl
     clear hy hr hr' hWa ka hBa hza
     go_upto_region 5 with fail
     rw [HWa.out]
     clear d0 d1 d2 d3 HWa
     cases hn : (nameB y.name && decide (adds nz (rnm ds) y.name = 0)) with
     | false =>
       have HC1 := Lib.hid (name1_no y.name g1 b1 _ _ HMa.out.1 hn)
       have HX := Lib.hid (HNo.out Wa (by unfold namesB; rw [hds.out, show rnm (ds ++ y :: r) = rnm ds ++ y.name :: rnm r by simp [rnm], List.append_assoc, List.cons_append, newB_bad hn]; simp) (HU.out _ HMa.out.2))
       clear hn
       go_wp2_with fail
       refine HC1.out.mono ?_
       rintro z w1 ⟨rfl, rfl⟩
       unfold Pn
       go_wp2_with fail
       exact ⟨rfl, HX.out⟩
     | true =>
       have HC1 := Lib.hid (name1_yes y.name g1 b1 _ _ HMa.out.1 hn)
       have HE := Lib.hid (show newB nz (rnm (ds ++ [y])) = true by rw [show rnm (ds ++ [y]) = rnm ds ++ [y.name] by simp [rnm]]; exact newB_snoc hE.out hn)
       have HEq := Lib.hid (show adds nz (rnm (ds ++ [y])) = add (adds nz (rnm ds)) y.name by rw [show rnm (ds ++ [y]) = rnm ds ++ [y.name] by simp [rnm], adds_app])
       clear hn
       go_wp2_with fail
       refine HC1.out.mono ?_
       rintro z w1 ⟨rfl, hM1, hb1⟩
       have HM1 := Lib.hid (And.intro hM1 (HV.out _ _ _ HMa.out.2 hb1 HG.out))
       clear hM1 hb1 a0
       go_wp2_with fail
       go_roundw
       case rel => exact ⟨ds ++ [y], r, by rw [List.length_append]; go_num, by simp; omega, Lib.hid (by rw [hds.out]; simp), Lib.hid (by rw [List.length_append, List.length_singleton, show o + (ds.length + 1) * 4 = o + ds.length * 4 + 4 by omega]; exact HR.out), Lib.hid (by rw [HEq.out]; exact HM1.out), HE⟩
       case measure => simp [intOf]; omega
   | nil =>
     simp only [List.length_nil] at hk
     have hge : ¬ ds.length < x.regs.length := by omega
     have hdr : x.regs = ds := by rw [hds.out, List.append_nil]
     have HR1 := Lib.hid (show newB nz (rnm x.regs) = true by rw [hdr]; exact hE.out)
     have HM := Lib.hid (show Nm wr g1 b1 (adds nz (rnm x.regs)) ∧ Below W0.heap.size W0 wr by rw [hdr]; exact hM.out)
     obtain ⟨c0, c1⟩ := HC.out _ HM.out.2
     clear hdr hE hM hr hds
     go_wp2_with fail
     clear c0 c1
     obtain ⟨wq, rfl⟩ : ∃ wq : World, wq = wr := ⟨_, rfl⟩
     go_loopw [23] (fun i' wr => ∃ (ds r : List Fnc), i' = .int .i64 ds.length ∧ ds.length + r.length = x.fns.length ∧ Hid (x.fns = ds ++ r) ∧ Hid (Row (Fnc.At w N) 5 r b' (o' + ds.length * 5)) ∧ Hid (Nm wr g1 b1 (adds nz (rnm x.regs ++ fnm ds)) ∧ Below W0.heap.size W0 wr) ∧ Hid (newB nz (rnm x.regs ++ fnm ds) = true ∧ ds.all (ownN x.regs) = true)) (fun i' _ => x.fns.length - (intOf i').toNat)
     case atStart => exact ⟨[], x.fns, rfl, by simp, Lib.hid rfl, Lib.hid (by simpa using HA'.out.1), Lib.hid (by simpa [fnm] using HM.out), Lib.hid (by simpa [fnm] using HR1.out)⟩
     case round =>
       obtain ⟨ds, r, rfl, hk, hds, hr, hM, hE⟩ := hrel
       cases r with
       | nil =>
         simp only [List.length_nil] at hk
         have hge : ¬ ds.length < x.fns.length := by omega
         have HOK := Lib.hid (show Chk (ask (namesB x) 8) w (.returned (.tuple #[])) wr from .ok (by
           have h1 := hE.out
           rw [← List.append_nil ds, ← hds.out] at h1
           unfold namesB
           rw [h1.1, h1.2]; rfl) (HU.out _ hM.out.2))
         go_wp2_with fail
         go_end0
         exact HOK.out
       | cons y r =>
         obtain ⟨hy, hr'⟩ := hr.out
         simp only [List.length_cons] at hk
         have hlt : ds.length < x.fns.length := by omega
         rcases hq with h0 | rfl
         · omega
         have hbw : b' < w.heap.size := by have := HA'.out.2; omega
         obtain ⟨⟨pp, pv, pr, pb, cp, cv, cr, cb⟩, e0, e1, e2, e3, e4, hok⟩ := Fnc.At.all hy
         have hu := HU.out _ hM.out.2
         have d0 := (hu.cell (p := ⟨b', o' + ds.length * 5, none⟩) hbw).trans e0
         have d1 := (hu.cell (p := ⟨b', o' + ds.length * 5 + 1, none⟩) hbw).trans e1
         have d2 := (hu.cell (p := ⟨b', o' + ds.length * 5 + 2, none⟩) hbw).trans e2
         have d3 := (hu.cell (p := ⟨b', o' + ds.length * 5 + 3, none⟩) hbw).trans e3
         have d4 := (hu.cell (p := ⟨b', o' + ds.length * 5 + 4, none⟩) hbw).trans e4
         have HR := Lib.hid hr'
         have HF := Lib.hid (fun (W : World) (hB : Below W0.heap.size W0 W) => HOwn.out W y ⟨pp, pv, pr, pb, cp, cv, cr, cb⟩ (HU.out W hB) (by rw [hds.out]; simp) hok)
         unfold Fnc.v at HF
         obtain ⟨Wa, hWa, ka, hBa, hza⟩ := one_alloc wr (.cells #[.string (str y.name), .slice pp y.params.length cp, .slice pv y.vars.length cv, .slice pr y.rets.length cr, .slice pb y.body.len cb] 48)
         have HWa := Lib.hid hWa
         have HKa := Lib.hid ka
         have HMa := Lib.hid (And.intro (hM.out.1.later hBa) (hM.out.2.trans (hBa.mono hM.out.2.size)))
         have HNE := Lib.hid (show wr.heap.size < Wa.heap.size ∧ wr.heap.size ≠ b1 from ⟨by omega, by have := hM.out.1.2.1.lt; omega⟩)
         have a0 : Wa.cell? ⟨wr.heap.size, 0, none⟩ = some (.string (str y.name)) := cell_blk ka rfl
         clear hy hr hr' hWa ka hBa hza hu e0 e1 e2 e3 e4 hok hbw
         go_upto_region 10 with fail
         rw [HWa.out]
         clear d0 d1 d2 d3 d4 HWa
         cases hn : (nameB y.name && decide (adds nz (rnm x.regs ++ fnm ds) y.name = 0)) with
         | false =>
           have HC1 := Lib.hid (name1_no y.name g1 b1 _ _ HMa.out.1 hn)
           have HX := Lib.hid (HNo.out Wa (by unfold namesB; rw [hds.out, show rnm x.regs ++ fnm (ds ++ y :: r) = (rnm x.regs ++ fnm ds) ++ y.name :: fnm r by simp [fnm], newB_bad hn]; rfl) (HU.out _ HMa.out.2))
           clear hn
           go_wp2_with fail
           refine HC1.out.mono ?_
           rintro z w1 ⟨rfl, rfl⟩
           unfold Pn
           go_wp2_with fail
           exact ⟨rfl, HX.out⟩
         | true =>
           have HC1 := Lib.hid (name1_yes y.name g1 b1 _ _ HMa.out.1 hn)
           have HE := Lib.hid (show newB nz (rnm x.regs ++ fnm (ds ++ [y])) = true by rw [show rnm x.regs ++ fnm (ds ++ [y]) = (rnm x.regs ++ fnm ds) ++ [y.name] by simp [fnm]]; exact newB_snoc hE.out.1 hn)
           have HEq := Lib.hid (show adds nz (rnm x.regs ++ fnm (ds ++ [y])) = add (adds nz (rnm x.regs ++ fnm ds)) y.name by rw [show rnm x.regs ++ fnm (ds ++ [y]) = (rnm x.regs ++ fnm ds) ++ [y.name] by simp [fnm], adds_app])
           clear hn
           go_wp2_with fail
           refine HC1.out.mono ?_
           rintro z w1 ⟨rfl, hM1, hb1⟩
           have HM1 := Lib.hid (And.intro hM1 (HV.out _ _ _ HMa.out.2 hb1 HG.out))
           have k1 := (hb1.block _ HNE.out.1 HNE.out.2).trans HKa.out
           have a0 : w1.cell? ⟨wr.heap.size, 0, none⟩ = some (.string (str y.name)) := cell_blk k1 rfl
           have a1 : w1.cell? ⟨wr.heap.size, 1, none⟩ = some (.slice pp y.params.length cp) := cell_blk k1 rfl
           have a2 : w1.cell? ⟨wr.heap.size, 2, none⟩ = some (.slice pv y.vars.length cv) := cell_blk k1 rfl
           have a3 : w1.cell? ⟨wr.heap.size, 3, none⟩ = some (.slice pr y.rets.length cr) := cell_blk k1 rfl
           have a4 : w1.cell? ⟨wr.heap.size, 4, none⟩ = some (.slice pb y.body.len cb) := cell_blk k1 rfl
           obtain ⟨c0, c1⟩ := HC.out _ HM1.out.2
           have HF1 := Lib.hid (HF.out _ HM1.out.2)
           clear hM1 hb1 k1
           go_wp2_with fail
           refine HF1.out.mono ?_
           intro z w2 hc
           clear a0 a1 a2 a3 a4 c0 c1
           rcases hc with ⟨r1, hB2⟩ | ⟨r1, hB2⟩
           rotate_left
           · have hf := ask8 r1
             have HX := Lib.hid (HNo2.out w2 _ (show ask (namesB x) 8 = ask (ownN x.regs y) 8 by rw [hf]; unfold namesB; rw [show x.fns.all (ownN x.regs) = false by rw [hds.out, List.all_append, List.all_cons, hf, Bool.false_and, Bool.and_false], Bool.and_false]) r1 (HU.out _ (HM1.out.2.trans (hB2.mono HM1.out.2.size))))
             unfold Pn
             clear hB2 r1 hf
             go_wp2_with fail
             exact ⟨rfl, HX.out⟩
           have hf := ask8' r1
           have HM2 := Lib.hid (And.intro (HM1.out.1.later hB2) (HM1.out.2.trans (hB2.mono HM1.out.2.size)))
           have HE2 := Lib.hid (show (ds ++ [y]).all (ownN x.regs) = true by rw [List.all_append, hE.out.2, List.all_cons, hf]; rfl)
           clear hB2 r1 hf
           go_wp2_with fail
           go_roundw
           case rel => exact ⟨ds ++ [y], r, by rw [List.length_append]; go_num, by simp; omega, Lib.hid (by rw [hds.out]; simp), Lib.hid (by rw [List.length_append, List.length_singleton, show o' + (ds.length + 1) * 5 = o' + ds.length * 5 + 5 by omega]; exact HR.out), Lib.hid (by rw [HEq.out]; exact HM2.out), Lib.hid ⟨HE.out, HE2.out⟩⟩
           case measure => simp [intOf]; omega
end Go.Proofs.YtihmibggonffdaaGreat
