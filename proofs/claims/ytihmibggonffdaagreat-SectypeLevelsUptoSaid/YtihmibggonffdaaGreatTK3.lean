/- TK1, TK2, TK3 as one. -/
import Derived.Test.YtihmibggonffdaaGreatTJ0
/- The walker goes through a function. -/
namespace Go.Proofs.YtihmibggonffdaaGreat
open Go.RowKit Go.ChangeMaps

theorem infoB1 : ∃ i, Tryz.prog.info? 4 = some i ∧ i.zero = some (.bool false) ∧ i.size = 1 ∧ i.bytes = 1 := by
 have h : (Tryz.prog.info? 4).map (fun i => (i.zero, i.size, i.bytes)) = some (some (.bool false), 1, 1) := by kernel_rfl
 cases hi : Tryz.prog.info? 4 with
 | none => rw [hi] at h; cases h
 | some i =>
   rw [hi] at h
   simp only [Option.map_some, Option.some.injEq, Prod.mk.injEq] at h
   exact ⟨i, rfl, h.1, h.2.1, h.2.2⟩
theorem own_below {w w' : World} {M n : Nat} {t : TypeId} {v : Value} {cs : List Value} (h : w.ownsRow M t 1 v n cs) (hB : Below w.heap.size w w') : w'.ownsRow M t 1 v n cs :=
 h.kept (row := none) ⟨hB.os, hB.tape, hB.output, hB.size, fun j hj _ => hB.block j hj⟩ (Classical.em _)
theorem own_fw {W W' : World} {n : Nat} {v : Value} {cs : List Value} {N wb cb pb nn mb B : Nat} {x : Prg} {s : PrgP} {w0 : World} {g : List UInt8 → Bool} (hO : W.ownsRow B 4 1 v n cs) (hG : W.grownBy W' v.ownBlock) (hW : Ws W N wb cb pb x s w0 nn) (hM : Mp W mb g) (hB : N ≤ B) : Ws W' N wb cb pb x s w0 nn ∧ Mp W' mb g ∧ Fw (fun k => v.ownBlock = some k) W W' := by
 have hF : Fw (fun k => v.ownBlock = some k) W W' := by
   obtain ⟨a1, a2, a3, a4, a5⟩ := hG
   exact ⟨a1, a2, a3, a4, fun j hj hn => a5 j hj (by first | exact hn | exact fun e => hn e.symm)⟩
 have hk : ∀ k, v.ownBlock = some k → N ≤ k ∧ ∃ cur, W.heap[k]? = some (.cells cur 4 (0, 0)) := fun k e => by
   rcases hO.2 with ⟨rfl, _⟩ | ⟨g, cap, cur, rfl, hb, hg, _⟩
   · cases e
   · cases e; exact ⟨Nat.le_trans hB hb, cur, hg⟩
 refine ⟨hW.fw hF (fun k e => (hk k e).1) (fun k e => ?_), hM.fw hF (fun e => ?_), hF⟩
 · obtain ⟨_, cur, hg⟩ := hk k e
   refine ⟨fun e => ?_, fun e => ?_, fun e => ?_, fun c h => ?_⟩
   · subst e; rw [hW.wk] at hg; injection hg with hg; injection hg with _ e' _; exact absurd e' (by decide)
   · subst e; obtain ⟨_, _, h3⟩ := hW.cb_map; rw [h3] at hg; cases hg
   · subst e; have h3 := hW.prg.cs; rw [h3] at hg; injection hg with hg; injection hg with _ e' _; exact absurd e' (by decide)
   · rw [h] at hg; injection hg with hg; injection hg with _ e' _; exact absurd e' (by decide)
 · obtain ⟨_, cur, hg⟩ := hk mb e
   obtain ⟨_, _, h3, _⟩ := hM
   rw [h3] at hg; cases hg
theorem boolCells_snoc (l : List Bool) (b : Bool) : boolCells (l ++ [b]) = boolCells l ++ [.bool b] := by simp [boolCells]
def rcOf (fn : Fnc) : Re → Rc
 | .no e => .no e
 | .ok T n' => .ok (fn.rets.map (mem T)) n'
set_option maxRecDepth 100000 in
set_option maxHeartbeats 12800000 in
theorem function_walk (x : Prg) (s : PrgP) (i : Nat) (fn : Fnc) (f : List UInt8 → Nat) (cf : Nat → Nat → Rc) (wb cb pb N : Nat) (w0 : World) (hi : x.fns[i]? = some fn) (m : Nat) (ih : StsTo x s i fn f cf wb cb pb N w0 m) (hm : fn.body.size < m) (n : Nat) (w : World) (deep : Nat) (ar : List (List UInt8)) (hchk : fn.body.chk x fn f i deep ar = 0) (hbig : fn.body.big ≤ 1048576) (hW : Ws w N wb cb pb x s w0 n) (hn : n ≤ 65536) :
   Calls Tryz.prog 28 #[.pointer (some ⟨wb, 0, none⟩), .int .i64 (i : Int)] w (FnEnd (rcOf fn (fn.body.go x fn cf (parT fn.params) n)) N wb cb pb x s w0 w) := by
 have hc0 := cell_blk hW.wk (j := 0) rfl
 simp only [List.getElem_toArray, List.getElem_cons_zero] at hc0
 have hpv := hW.prg.v.2
 obtain ⟨qb, qo, hq, hqb, hqa⟩ := Row.start hW.z.2
 have hlt : i < x.fns.length := by
   rcases Nat.lt_or_ge i x.fns.length with h | h
   · exact h
   · rw [List.getElem?_eq_none h] at hi; cases hi
 have hqe : s.q = some ⟨qb, qo, none⟩ := by
   rcases hq with h | h
   · omega
   · exact h
 rw [hqe] at hpv
 have hfa := Row.get hqa hi
 obtain ⟨t, hcl, hok⟩ := hfa.open
 have hqN : qb < N := by omega
 have HCC := Lib.hid (fun (W : World) (hB : Below N w0 W) (j : Nat) (v : Value) (hv : (fn.cells t)[j]? = some v) => show W.cell? ⟨qb, qo + i * 5 + j, none⟩ = some v from (hB.cell (p := ⟨qb, qo + i * 5 + j, none⟩) hqN).trans (zc_cell (hcl j v hv)).1)
 obtain ⟨b1, o1, hp1, hb1, ha1⟩ := Row.start hok.1
 have hm1 := hok.1.1
 obtain ⟨b3, o3, hp3, hb3, ha3⟩ := Row.start hok.2.2.1.2
 have hm3 := hok.2.2.1.2.1
 have HA1 := Lib.hid (And.intro ha1 hb1)
 have HA3 := Lib.hid (And.intro ha3 hb3)
 have HIN := Lib.hid (show fn.body.In (zc w0) N t.pb from hok.2.2.2)
 have HLT := Lib.hid hW.lts
 have hBW := (Below.refl w.heap.size w).alloc (Nat.le_refl _) (.map #[] 0)
 have HW0 := Lib.hid (hW.later hBW)
 have HM0 := Lib.hid (show Mp (w.alloc (.map #[] 0)) w.heap.size (mem []) from Mp.new w)
 have HF0 := Lib.hid (show Fw (fun k => k = wb ∨ k = cb) w (w.alloc (.map #[] 0)) from Fw.of_below hBW)
 have hcbl : cb < w.heap.size := by obtain ⟨_, _, h3⟩ := hW.cb_map; exact lt_blk h3
 have HNe := Lib.hid (show N ≤ w.heap.size ∧ w.heap.size ≠ wb ∧ w.heap.size ≠ cb from ⟨hW.lts.2.2.1, by have := lt_blk hW.wk; omega, by omega⟩)
 have HI := Lib.hid (And.intro ih (And.intro hm (And.intro hchk (And.intro hbig hn))))
 have c1 := HCC.out (w.alloc (.map #[] 0)) (hW.later hBW).old 1 (.slice t.pp fn.params.length t.cp) rfl
 clear hqa hfa hcl hok ha1 ha3 ih hm hchk hbig hq hqe hW hBW hcbl hb1 hb3 hqb
 obtain ⟨R, hR⟩ : ∃ R, R = fn.body.go x fn cf (parT fn.params) n := ⟨_, rfl⟩
 rw [← hR]
 have HR := Lib.hid hR
 clear hR
 have hmm := @run_makeMap Tryz.prog
 go_enter Tryz.func28, Tryz.ntmps28
 go_wp2_with fail
 clear hmm
 go_loopw [27] (fun j wr => ∃ (k : Nat) (r : List Vr) (T' : List (List UInt8)), j = .int .i64 k ∧ k + r.length = fn.params.length ∧ Hid (Row (Vr.At (zc w0)) 4 r b1 (o1 + k * 4)) ∧ Hid (r.foldl (fun T v => setT T v.name v.secret) T' = parT fn.params) ∧ Hid (Ws wr N wb cb pb x s w0 n) ∧ Hid (Mp wr w.heap.size (mem T')) ∧ Hid (Fw (fun k => k = wb ∨ k = cb) w wr)) (fun j _ => fn.params.length - (intOf j).toNat)
 case atStart => exact ⟨0, fn.params, [], rfl, by omega, Lib.hid (by rw [Nat.zero_mul]; exact HA1.out.1), Lib.hid rfl, HW0, HM0, HF0⟩
 case round =>
   obtain ⟨k, r, T', rfl, hk, hr, hE, hWr, hMr, hFr⟩ := hrel
   obtain ⟨wo, rfl⟩ : ∃ wo : World, wo = wr := ⟨_, rfl⟩
   cases r with
   | cons y r =>
     obtain ⟨hy, hr'⟩ := hr.out
     simp only [List.length_cons] at hk
     have hlt1 : k < fn.params.length := by omega
     rcases hp1 with h0 | hp1
     · omega
     have hb1N : b1 < N := by have := HA1.out.2; omega
     obtain ⟨d0, d1, d2, d3⟩ := hy
     have d0 := (hWr.out.old.cell hb1N).trans (zc_cell d0).1
     have d1 := (hWr.out.old.cell hb1N).trans (zc_cell d1).1
     have d2 := (hWr.out.old.cell hb1N).trans (zc_cell d2).1
     have d3 := (hWr.out.old.cell hb1N).trans (zc_cell d3).1
     have hBa := (Below.refl wo.heap.size wo).alloc (Nat.le_refl _) (.cells #[.string (str y.name), .int .i64 y.kind, .int .i64 y.size, .bool y.secret] 58)
     have HS := Lib.hid (lvSet_any (mem T') y.name y.secret w.heap.size _ (hMr.out.later hBa))
     have HW2 := Lib.hid (hWr.out.later hBa)
     have HM2 := Lib.hid (hMr.out.later hBa)
     have HF2 := Lib.hid (hFr.out.new (Fw.of_below (S := fun _ => False) hBa) (fun _ e => e.elim))
     have HR' := Lib.hid hr'
     have HE2 := Lib.hid (show r.foldl (fun T v => setT T v.name v.secret) (setT T' y.name y.secret) = parT fn.params from hE.out)
     rw [hp1] at *
     clear hr' hr hE hWr hMr hFr hBa c1
     go_wp2_with fail
     refine HS.out.mono ?_
     rintro z w3 ⟨rfl, hM3, hB3⟩
     have HM3 := Lib.hid (show Mp w3 w.heap.size (mem (setT T' y.name y.secret)) from by rw [mem_set]; exact hM3)
     have HW3 := Lib.hid (HW2.out.set HM2.out HNe.out.2.2 HNe.out.1 (Fw.of_but hB3))
     have HF3 := Lib.hid (HF2.out.new (Fw.of_but hB3) (fun j e => .inr (by omega)))
     clear hM3 hB3 d0 d1 d2 d3
     go_wp2_with fail
     go_roundw
     case rel => exact ⟨k + 1, r, _, by go_num, by omega, Lib.hid (by rw [show o1 + (k + 1) * 4 = o1 + k * 4 + 4 by omega]; exact HR'.out), HE2, HW3, HM3, HF3⟩
     case measure => simp [intOf]; omega
   | nil =>
     simp only [List.length_nil] at hk
     have hge : ¬ k < fn.params.length := by omega
     have c4 := HCC.out wo hWr.out.old 4 (.slice t.pb fn.body.len t.cb) rfl
     have HT := Lib.hid (show T' = parT fn.params from hE.out)
     have HC := Lib.hid (HI.out.1 fn.body HI.out.2.1 deep ar t.pb t.cb w.heap.size n T' wo HI.out.2.2.1 HIN.out HI.out.2.2.2.1 hWr.out hMr.out HNe.out.1 HNe.out.2.2 HI.out.2.2.2.2)
     have HFo := hFr
     clear c1 hr hE hWr hMr hFr
     go_wp2_with fail
     refine HC.out.mono ?_
     intro z w2 h2
     rw [HT.out, ← HR.out] at h2
     rcases h2 with ⟨hr, hWx, hMx, hFx⟩ | ⟨hr, hFx⟩
     rotate_left
     · have HEnd := Lib.hid (show FnEnd (rcOf fn R) N wb cb pb x s w0 w (Pn _) w2 from .no (by rw [hr]; rfl) (HFo.out.new hFx (fun j e => by rcases e with e | e | e; exact .inl (.inl e); exact .inl (.inr e); exact .inr (by omega))))
       clear hr hFx
       unfold Pn at HEnd ⊢
       go_wp2_with fail
       exact ⟨rfl, HEnd.out⟩
     rename_i T2 n2
     have HR2 := Lib.hid (show rcOf fn R = .ok (fn.rets.map (mem T2)) n2 from by rw [hr]; rfl)
     have c3 := HCC.out w2 hWx.old 3 (.slice t.pr fn.rets.length t.cr) rfl
     have HW2 := Lib.hid hWx
     have HM2 := Lib.hid hMx
     have HF2 := Lib.hid (HFo.out.new hFx (fun j e => by rcases e with e | e | e; exact .inl (.inl e); exact .inl (.inr e); exact .inr (by omega)))
     clear hr hWx hMx hFx c4 hc0 hpv
     go_wp2_with fail
     go_loopw [51, 9] (fun j v wr => ∃ (k : Nat) (d r : List (List UInt8)), j = .int .i64 k ∧ d.length = k ∧ Hid (fn.rets = d ++ r) ∧ k + r.length = fn.rets.length ∧ Hid (Row (StrAt (zc w0)) 1 r b3 (o3 + k)) ∧ Hid (wr.ownsRow w.heap.size 4 1 v k (boolCells (d.map (mem T2)))) ∧ Hid (Ws wr N wb cb pb x s w0 n2) ∧ Hid (Mp wr w.heap.size (mem T2)) ∧ Hid (Fw (fun k => k = wb ∨ k = cb) w wr)) (fun j _ _ => fn.rets.length - (intOf j).toNat)
     case atStart => exact ⟨0, [], fn.rets, rfl, rfl, Lib.hid rfl, by omega, Lib.hid (by rw [Nat.add_zero]; exact HA3.out.1), Lib.hid (World.ownsRow_nil _ _ _ _), HW2, HM2, HF2⟩
     case round =>
       obtain ⟨k, d, r, rfl, hd, hds, hk, hr, hO, hWr, hMr, hFr⟩ := hrel
       obtain ⟨wq, rfl⟩ : ∃ wq : World, wq = wr := ⟨_, rfl⟩
       cases r with
       | nil =>
         simp only [List.length_nil] at hk
         have hge2 : ¬ k < fn.rets.length := by omega
         have HEnd := Lib.hid (show ∀ v, wq.ownsRow w.heap.size 4 1 v k (boolCells (d.map (mem T2))) → FnEnd (rcOf fn R) N wb cb pb x s w0 w (.returned v) wq from fun v hv => .ok HR2.out (by have e := hds.out; rw [List.append_nil] at e; rw [List.length_map, e, hd]; exact hv) hWr.out hFr.out)
         have HO := hO
         clear hr hds hO hWr hMr hFr c3
         go_wp2_with fail
         go_ret
         exact HEnd.out _ HO.out
       | cons y r =>
         obtain ⟨hy, hr'⟩ := hr.out
         simp only [List.length_cons] at hk
         have hlt3 : k < fn.rets.length := by omega
         rcases hp3 with h0 | hp3
         · omega
         have hb3N : b3 < N := by have := HA3.out.2; omega
         have d0 := (hWr.out.old.cell (p := ⟨b3, o3 + k, none⟩) hb3N).trans (zc_cell hy).1
         have HS := Lib.hid (lvSecret_any (mem T2) y w.heap.size wq hMr.out)
         have HR' := Lib.hid hr'
         rw [hp3]
         clear hr' hr c3
         have HDS := Lib.hid (show fn.rets = (d ++ [y]) ++ r from by rw [hds.out]; simp)
         have HO := hO
         have HW3 := hWr
         have HM3 := hMr
         have HF3 := hFr
         clear hO hWr hMr hFr hds hy
         obtain ⟨i0, hi0, hz0, hz1, hz2⟩ := infoB1
         have hzs : (Value.bool false).cells.size = 1 := rfl
         have hkl : k < 140737488355328 := by have := hm3; omega
         obtain ⟨bt, hbt⟩ : ∃ q, q = mem T2 y := ⟨_, rfl⟩
         rw [← hbt] at HS
         go_wp2_with fail
         refine HS.out.mono ?_
         rintro z w3 ⟨rfl, hB3⟩
         obtain ⟨W1, hW1, k1, hB1, hz1⟩ := one_alloc w3 (.cells #[.bool bt] 4)
         have hB4 := hB3.trans (hB1.mono hB3.size)
         have HOa := Lib.hid (own_below HO.out hB4)
         have HWa := Lib.hid (HW3.out.later hB4)
         have HMa := Lib.hid (HM3.out.later hB4)
         have HFa := Lib.hid (HF3.out.new (Fw.of_below (S := fun _ => False) hB4) (fun _ e => e.elim))
         have HSr := Lib.hid (show Src W1 1 (some ⟨w3.heap.size, 0, none⟩) 1 [.bool bt] from ⟨rfl, .inr ⟨_, _, rfl, fun j u hu => by
           rcases j with _ | j
           · cases hu; exact cell_blk k1 rfl
           · simp at hu⟩⟩)
         have HBs := Lib.hid (show w.heap.size ≤ W1.heap.size from HFa.out.size)
         have HBT := Lib.hid hbt
         clear hB3 hB4 d0 hB1 hz1 k1 hbt HO HW3 HM3 HF3
         go_wp2_with (at_builtin; refine wpList_append_src rfl _ _ 28 rfl w.heap.size 4 i0 _ 1 1 Tryz.underlying28 hi0 hz0 hz1 hz2 rfl (by decide) _ k (boolCells (d.map (mem T2))) rfl HOa.out _ _ _ [.bool bt] rfl HSr.out (by intro u hu; simp at hu; subst hu; rfl) (by unfold maxLen; omega) (by omega) HBs.out ?_; intro v' w2 hown hgrow)
         have hOw := own_fw HOa.out hgrow HWa.out HMa.out HNe.out.1
         have HX := Lib.hid (And.intro (show w2.ownsRow w.heap.size 4 1 v' (k + 1) (boolCells ((d ++ [y]).map (mem T2))) from by rw [List.map_append, List.map_cons, List.map_nil, boolCells_snoc, ← HBT.out]; exact hown) (And.intro hOw.1 (And.intro hOw.2.1 (HFa.out.new hOw.2.2 (fun j e => .inr (own_blk HOa.out j e))))))
         clear hown hgrow hOw hi0 hz0 hz1 hz2 hzs
         go_wp2_with fail
         go_roundw
         case rel => exact ⟨k + 1, d ++ [y], r, by go_num, by simp [hd], HDS, by omega, Lib.hid (by rw [show o3 + (k + 1) = o3 + k + 1 by omega]; exact HR'.out), Lib.hid HX.out.1, Lib.hid HX.out.2.1, Lib.hid HX.out.2.2.1, Lib.hid HX.out.2.2.2⟩
         case measure => simp [intOf]; omega
/- Which function a call names, as the walker looks for it. -/
open Go.RowKit

set_option maxHeartbeats 800000 in
theorem wcall1_any (v : Fnc) (s : FncP) (sb b o : Nat) (nm : List UInt8) (w : World) (h : SB w sb b o nm) :
   Calls Tryz.prog 138 #[.agg #[.string (str v.name), .slice s.pp v.params.length s.cp, .slice s.pv v.vars.length s.cv, .slice s.pr v.rets.length s.cr, .slice s.pb v.body.len s.cb], .pointer (some ⟨sb, 0, none⟩)] w fun z w' => z = .returned (.bool (fnNamed nm v)) ∧ Below w.heap.size w w' := by
 obtain ⟨W0, hW0, k0, hB0, hz0⟩ := one_alloc w (.cells #[.string (str v.name), .slice s.pp v.params.length s.cp, .slice s.pv v.vars.length s.cv, .slice s.pr v.rets.length s.cr, .slice s.pb v.body.len s.cb] 48)
 have h' := h.later hB0
 have c0 : W0.cell? ⟨sb, 0, none⟩ = some (.pointer (some ⟨b, o, none⟩)) := cell_blk h'.cs rfl
 have c1 := h'.nm
 have c2 : W0.cell? ⟨w.heap.size, 0, none⟩ = some (.string (str v.name)) := cell_blk k0 rfl
 have HB0 := Lib.hid hB0
 have HW0 := Lib.hid hW0
 have e1 := str_eqb v.name nm
 unfold fnNamed
 generalize (v.name == nm) = t1 at e1
 clear h h' hW0 k0 hB0 hz0
 cases t1 <;>
 · go_enter Tryz.func138, Tryz.ntmps138
   go_upto_region 1 with fail
   rw [HW0.out]
   go_quiet (fail)
   go_wp2_with fail
   go_ret
   exact ⟨rfl, below_drewN HB0.out _⟩
set_option maxHeartbeats 3200000 in
theorem wixCall_any (l : List Fnc) (p : Option Addr) (c N : Nat) (nm : List UInt8) (sb b1 o1 : Nat) (w : World) (hl : RowIn N (Fnc.At w N) 5 l p) (hN : N ≤ w.heap.size) (hsb : SB w sb b1 o1 nm) :
   Calls Tryz.prog 132 #[.slice p l.length c, .func (.func 138) #[] #[.pointer (some ⟨sb, 0, none⟩)]] w fun z w' => (∃ i, z = .returned (.int .i64 i) ∧ IxIs (fnNamed nm) l i) ∧ Below w.heap.size w w' := by
 obtain ⟨b, o, hp, hb, ha⟩ := Row.start hl
 have hm := hl.1
 have HA := Lib.hid (And.intro ha hb)
 have HI := Lib.hid hsb
 clear hl hb ha hsb
 go_enter Tryz.func132, Tryz.ntmps132
 go_wp2_with fail
 go_loopw [8] (fun i wr => ∃ (d r : List Fnc), i = .int .i64 d.length ∧ d.length + r.length = l.length ∧ Hid (l = d ++ r) ∧ Hid (Row (Fnc.At w N) 5 r b (o + d.length * 5)) ∧ Hid (d.all (fun y => !(fnNamed nm) y) = true) ∧ Hid (Below w.heap.size w wr)) (fun i _ => l.length - (intOf i).toNat)
 case atStart => exact ⟨[], l, rfl, by simp, Lib.hid rfl, Lib.hid (by simpa using HA.out.1), Lib.hid rfl, Lib.hid (Below.refl _ _)⟩
 case round =>
   obtain ⟨d, r, rfl, hd, hE, hr, hF, hB⟩ := hrel
   cases r with
   | nil =>
     simp only [List.length_nil] at hd
     have hge : ¬ d.length < l.length := by omega
     have HR := Lib.hid (show IxIs (fnNamed nm) l (-1) from .inr ⟨rfl, by rw [hE.out, List.append_nil]; exact hF.out⟩)
     go_wp2_with fail
     go_ret
     exact ⟨⟨_, rfl, HR.out⟩, hB.out⟩
   | cons y r =>
     obtain ⟨hy, hr'⟩ := hr.out
     simp only [List.length_cons] at hd
     have hlt : d.length < l.length := by omega
     rcases hp with h0 | rfl
     · omega
     have hbw : b < w.heap.size := by have := HA.out.2; omega
     obtain ⟨s, g0, g1, g2, g3, g4, _⟩ := Fnc.At.all hy
     have d0 := (hB.out.cell (p := ⟨b, _, none⟩) hbw).trans g0
     have d1 := (hB.out.cell (p := ⟨b, _, none⟩) hbw).trans g1
     have d2 := (hB.out.cell (p := ⟨b, _, none⟩) hbw).trans g2
     have d3 := (hB.out.cell (p := ⟨b, _, none⟩) hbw).trans g3
     have d4 := (hB.out.cell (p := ⟨b, _, none⟩) hbw).trans g4
     clear g0 g1 g2 g3 g4
     have HR := Lib.hid hr'
     have HC := Lib.hid (wcall1_any y s sb b1 o1 nm wr (HI.out.later hB.out))
     have HY := Lib.hid (show (fnNamed nm) y = true → IxIs (fnNamed nm) l (d.length : Int) from fun h => .inl ⟨d.length, y, d, r, rfl, hE.out, rfl, h, hF.out⟩)
     have HN' := Lib.hid (show (fnNamed nm) y = false → (d ++ [y]).all (fun y => !(fnNamed nm) y) = true from fun h => by rw [List.all_append, hF.out]; simp only [List.all_cons, List.all_nil, h]; rfl)
     clear hy hr hr'
     generalize (fnNamed nm) y = t at HY HN' HC
     cases t with
     | true =>
       go_wp2_with fail
       refine HC.out.mono ?_
       rintro z w1 ⟨rfl, hB1⟩
       have HB1 := Lib.hid (hB.out.trans (hB1.mono hB.out.size))
       have HR1 := Lib.hid (HY.out (by first | rfl | trivial))
       clear hB1
       go_wp2_with fail
       go_ret
       exact ⟨⟨_, rfl, HR1.out⟩, HB1.out⟩
     | false =>
       go_wp2_with fail
       refine HC.out.mono ?_
       rintro z w1 ⟨rfl, hB1⟩
       have HB1 := Lib.hid (hB.out.trans (hB1.mono hB.out.size))
       have HR1 := Lib.hid (HN'.out (by first | rfl | trivial))
       clear hB1
       go_wp2_with fail
       go_roundw
       case rel => exact ⟨d ++ [y], r, by rw [List.length_append]; go_num, by simp; omega, Lib.hid (by rw [hE.out]; simp), Lib.hid (by rw [List.length_append, List.length_singleton, show o + (d.length + 1) * 5 = o + d.length * 5 + 5 by omega]; exact HR.out), HR1, HB1⟩
       case measure => simp [intOf]; omega
/- The walker goes through a call. -/
open Go.RowKit Go.ChangeMaps

theorem ix_callee {l : List Fnc} {nm : List UInt8} {z : Int} {k : Nat} {g : Fnc} (h : IxIs (fnNamed nm) l z) (hc : calleeOf l nm 0 = some (k, g)) : z = (k : Int) ∧ l[k]? = some g := by
 rcases h with ⟨k', x', d, r, rfl, rfl, hd, hx, ha⟩ | ⟨_, ha⟩
 · rw [callee_some hx d 0 ha] at hc
   cases hc
   rw [Nat.zero_add]
   exact ⟨by rw [hd], by simp⟩
 · rw [callee_none _ _ ha] at hc; cases hc
theorem ownBools {w : World} {M : Nat} {v : Value} {l : List Bool} (h : w.ownsRow M 4 1 v l.length (boolCells l)) : ∃ p c, v = .slice p l.length c ∧ (l.length = 0 ∨ ∃ q cur, p = some ⟨q, 0, none⟩ ∧ M ≤ q ∧ w.heap[q]? = some (.cells cur 4 (0, 0)) ∧ ∀ j t, l[j]? = some t → w.cell? ⟨q, 0 + j, none⟩ = some (.bool t)) := by
 rcases h.2 with ⟨rfl, h0⟩ | ⟨g, cap, cur, rfl, hb, hg, _⟩
 · rw [h0]; exact ⟨none, 0, rfl, .inl rfl⟩
 · refine ⟨_, _, rfl, .inr ⟨g, cur, rfl, hb, hg, fun j t hj => ?_⟩⟩
   have h5 := h.cells (g := g) rfl j (.bool t) (by simp [boolCells, hj])
   rw [add_at] at h5
   exact h5
set_option maxRecDepth 100000 in
set_option maxHeartbeats 12800000 in
theorem call_walk (x : Prg) (s : PrgP) (i : Nat) (fn : Fnc) (cf : Nat → Nat → Rc) (wb cb pb N : Nat) (w0 : World) (hi : x.fns[i]? = some fn) (y : St) (b o mb n k deep : Nat) (g : Fnc) (T : List (List UInt8)) (w : World) (hcl : calleeOf x.fns y.name 0 = some (k, g)) (hla : y.args.len = g.params.length) (hln : y.names.length = g.rets.length)
   (hfn : ∀ (W : World), Ws W N wb cb pb x s w0 n → Calls Tryz.prog 28 #[.pointer (some ⟨wb, 0, none⟩), .int .i64 (k : Int)] W (FnEnd (cf k n) N wb cb pb x s w0 W)) (hlen : ∀ l n', cf k n = .ok l n' → l.length = g.rets.length)
   (hchk : y.args.chk x fn deep = 0) (hy : y.At (zc w0) N b o) (hb : b < N) (hsz : y.args.size ≤ 3000000) (hW : Ws w N wb cb pb x s w0 n) (hM : Mp w mb (mem T)) (hmN : N ≤ mb) (hmc : mb ≠ cb) :
   Calls Tryz.prog 116 #[.pointer (some ⟨wb, 0, none⟩), .int .i64 (i : Int), .pointer (some ⟨b, o, none⟩), .map (some mb)] w (GoEnd (if argsT x fn T y.args g.params then (match cf k n with | .no e => .no e | .ok l n' => .ok (setAll T y.names l) n') else .no 10) N wb cb mb pb x s w0 w) := by
 obtain ⟨st, hcs, hok⟩ := hy.open
 obtain ⟨W1, hW1, k1, hB1, hz1⟩ := one_alloc w (.cells #[.pointer (some ⟨b, o, none⟩)] 140)
 have hl := hW.lts
 have H1 := hW.later hB1
 have HC := Lib.hid (fun (W : World) (hB : Below N w0 W) (j : Nat) (v : Value) (hv : (y.cells st)[j]? = some v) => show W.cell? ⟨b, o + j, none⟩ = some v from (hB.cell (p := ⟨b, o + j, none⟩) hb).trans (zc_cell (hcs j v hv)).1)
 obtain ⟨qb, qo, hq, hqb, hqa⟩ := Row.start hW.z.2
 have hSB : SB W1 w.heap.size b o y.name := ⟨k1, HC.out W1 H1.old 1 (.string (str y.name)) rfl, by omega⟩
 have HIx := Lib.hid (wixCall_any x.fns s.q s.d N y.name w.heap.size b o W1 H1.prg.ok.2 H1.lts.2.2.1 hSB)
 have HK := Lib.hid (fun (z : Int) (h : IxIs (fnNamed y.name) x.fns z) => ix_callee h hcl)
 have HFC := Lib.hid (fun (hk : x.fns[k]? = some g) => (Row.get hqa hk).open)
 have HQ := Lib.hid (And.intro hq hqb)
 have HB1 := Lib.hid (show Fw (fun k => k = wb ∨ k = cb ∨ k = mb) w W1 from Fw.of_below hB1)
 have HW_1 := Lib.hid H1
 have HM_1 := Lib.hid (hM.later hB1)
 have HW1 := Lib.hid hW1
 have HN := Lib.hid (And.intro hmN (And.intro hmc hb))
 have HFN := Lib.hid (And.intro hfn hlen)
 have HA := Lib.hid (And.intro hchk hsz)
 have HOK := Lib.hid hok
 have HBX := Lib.hid (fun (W : World) (hF : Fw (fun k => k = wb ∨ k = cb ∨ k = mb) W1 W) => show W.cell? ⟨w.heap.size, 0, none⟩ = some (.pointer (some ⟨b, o, none⟩)) from cell_blk ((hF.block _ (lt_blk k1) (by have := lt_blk hW.wk; have := hM.lt; obtain ⟨_, _, h3⟩ := hW.cb_map; have := lt_blk h3; omega)).trans k1) rfl)
 have hwc := cell_blk H1.wk (j := 0) rfl
 simp only [List.getElem_toArray, List.getElem_cons_zero] at hwc
 have hpv := H1.prg.v.2
 clear hok hcs hW hM hW1 k1 hB1 hz1 hl H1 hq hqb hqa hSB hcl hfn hlen hchk hsz hy hmN hmc
 obtain ⟨R, hR⟩ : ∃ R, R = (if argsT x fn T y.args g.params then (match cf k n with | .no e => .no e | .ok l n' => .ok (setAll T y.names l) n') else .no 10 : Re) := ⟨_, rfl⟩
 rw [← hR]
 have HR := Lib.hid hR
 clear hR
 go_enter Tryz.func116, Tryz.ntmps116
 go_upto_region 1 with fail
 rw [HW1.out]
 clear HW1
 go_wp2_with fail
 refine HIx.out.mono ?_
 rintro z w2 ⟨⟨zi, rfl, hz⟩, hB2⟩
 obtain ⟨rfl, hkg⟩ := HK.out zi hz
 have hklt : k < x.fns.length := by
   rcases Nat.lt_or_ge k x.fns.length with h | h
   · exact h
   · rw [List.getElem?_eq_none h] at hkg; cases hkg
 obtain ⟨hq, hqb⟩ := HQ.out
 have hqe : s.q = some ⟨qb, qo, none⟩ := by
   rcases hq with h | h
   · omega
   · exact h
 have hqN : qb < N := by omega
 obtain ⟨t, hcg, hokg⟩ := HFC.out hkg
 have HW_2 := Lib.hid (HW_1.out.later hB2)
 have HM_2 := Lib.hid (HM_1.out.later hB2)
 have HF2 := Lib.hid (show Fw (fun k => k = wb ∨ k = cb ∨ k = mb) W1 w2 from Fw.of_below hB2)
 have d0 := HBX.out w2 HF2.out
 have d1 := cell_blk HW_2.out.wk (j := 0) rfl
 simp only [List.getElem_toArray, List.getElem_cons_zero] at d1
 have d2 := HW_2.out.prg.v.2
 rw [hqe] at d2
 have d3 := (HW_2.out.old.cell (p := ⟨qb, qo + k * 5 + 1, none⟩) hqN).trans (zc_cell (hcg 1 (.slice t.pp g.params.length t.cp) rfl)).1
 obtain ⟨tp, htp⟩ : ∃ q, q = t.pp := ⟨_, rfl⟩
 rw [← htp] at d3
 obtain ⟨ap, hap⟩ : ∃ q, q = st.pg := ⟨_, rfl⟩
 have HC4 := Lib.hid (fun (W : World) (hB : Below N w0 W) => show W.cell? ⟨b, o + 11, none⟩ = some (.slice ap y.args.len st.cg) from by rw [hap]; exact HC.out W hB 11 (.slice st.pg y.args.len st.cg) rfl)
 have d4 := HC4.out w2 HW_2.out.old
 have HOG := Lib.hid hokg
 clear hz hB2 hwc hpv hq hqb hcg hokg
 obtain ⟨ab, ao, hpa, hba, haa⟩ : ∃ ab ao, (y.args.len = 0 ∨ ap = some ⟨ab, ao, none⟩) ∧ (ab < N ∨ y.args.len = 0) ∧ y.args.At (zc w0) N ab ao := by
   rw [hap]
   rcases HOK.out.2.2.2.1.2 with h0 | ⟨b', o', hp, hb, ha⟩
   · refine ⟨0, 0, .inl h0, .inr h0, ?_⟩
     cases e : y.args with
     | nil => trivial
     | cons u v => rw [e] at h0; simp [Exs.len] at h0
   · exact ⟨b', o', .inr hp, .inl hb, ha⟩
 have hma := HOK.out.2.2.2.1.1
 obtain ⟨vb, vo, hpv, hvb, hva⟩ := Row.start HOG.out.1
 rw [← htp] at hpv
 clear htp hap
 have hmv := HOG.out.1.1
 have HAA := Lib.hid (And.intro haa hba)
 have HVA := Lib.hid (And.intro hva hvb)
 clear haa hba hva hvb
 go_wp2_with fail
 obtain ⟨wo, rfl⟩ : ∃ wo : World, wo = w2 := ⟨_, rfl⟩
 clear d0 d1 d2 d3 d4
 go_loopw [38] (fun j wr => ∃ (q : Nat) (r : Exs) (vs : List Vr), j = .int .i64 q ∧ q + r.len = y.args.len ∧ vs.length = r.len ∧ r.size ≤ y.args.size ∧ Hid (r.At (zc w0) N ab (ao + q * 4)) ∧ Hid (Row (Vr.At (zc w0)) 4 vs vb (vo + q * 4)) ∧ Hid (r.chk x fn deep = 0) ∧ Hid (argsT x fn T r vs = argsT x fn T y.args g.params) ∧ Hid (Ws wr N wb cb pb x s w0 n) ∧ Hid (Mp wr mb (mem T)) ∧ Hid (Fw (fun k => k = wb ∨ k = cb ∨ k = mb) W1 wr)) (fun j _ => y.args.len - (intOf j).toNat)
 case atStart => exact ⟨0, y.args, g.params, rfl, by omega, hla.symm, Nat.le_refl _, Lib.hid (by rw [Nat.zero_mul]; exact HAA.out.1), Lib.hid (by rw [Nat.zero_mul]; exact HVA.out.1), Lib.hid HA.out.1, Lib.hid rfl, HW_2, HM_2, HF2⟩
 case round =>
   obtain ⟨q, r, vs, rfl, hk, hvs, hsz, hr, hv, hck, hE, hWr, hMr, hFr⟩ := hrel
   cases r with
   | nil =>
     simp only [Exs.len] at hk
     have hge : ¬ q < y.args.len := by omega
     have HT := Lib.hid (show argsT x fn T y.args g.params = true from by rw [← hE.out, argsT])
     have HR3 := Lib.hid (show R = (match cf k n with | .no e => Re.no e | .ok l n' => .ok (setAll T y.names l) n') from by rw [HR.out, if_pos HT.out])
     have HC5 := Lib.hid (HFN.out.1 wr hWr.out)
     have HFr := hFr
     have HMr := hMr
     have HWr := hWr
     have HNE := Lib.hid (hWr.out.ne_map hMr.out)
     obtain ⟨nb, no, hpn, hnb, hna⟩ := Row.start HOK.out.1.2
     have HNA := Lib.hid (And.intro hna hnb)
     have hmn := HOK.out.1.2.1
     clear hr hv hck hE hWr hMr hFr hna hnb
     go_wp2_with fail
     refine HC5.out.mono ?_
     intro z w3 h3
     rcases h3 with ⟨hl3, hv3, hWx, hFx⟩ | ⟨hl3, hFx⟩
     rotate_left
     · have HEnd := Lib.hid (show GoEnd R N wb cb mb pb x s w0 w (Pn _) w3 from .no (by rw [HR3.out, hl3]) (HB1.out.trans (HFr.out.trans (hFx.imp (fun j e => by rcases e with e | e; exact .inl e; exact .inr (.inl e))))))
       clear hFx hl3
       unfold Pn at HEnd ⊢
       go_wp2_with fail
       exact ⟨rfl, HEnd.out⟩
     rename_i l n3 v3
     have hll := HFN.out.2 l n3 hl3
     have HR4 := Lib.hid (show R = .ok (setAll T y.names l) n3 from by rw [HR3.out, hl3])
     have HW3 := Lib.hid hWx
     have HM3 := Lib.hid (HMr.out.fw hFx (fun e => by rcases e with e | e; exact HNE.out.1 e; exact HN.out.2.1 e))
     have HF3 := Lib.hid (show Fw (fun k => k = wb ∨ k = cb ∨ k = mb) W1 w3 from HFr.out.trans (hFx.imp (fun j e => by rcases e with e | e; exact .inl e; exact .inr (.inl e))))
     have HLM := Lib.hid (show mb < wr.heap.size from HMr.out.lt)
     obtain ⟨rp, rc, rfl, hrow⟩ := ownBools hv3
     have HRow := Lib.hid hrow
     obtain ⟨np, hnp⟩ : ∃ q, q = st.pn := ⟨_, rfl⟩
     have HC6 := Lib.hid (fun (W : World) (hB : Below N w0 W) => show W.cell? ⟨b, o + 2, none⟩ = some (.slice np y.names.length st.cn) from by rw [hnp]; exact HC.out W hB 2 (.slice st.pn y.names.length st.cn) rfl)
     rw [← hnp] at hpn
     clear hv3 hWx hFx hl3 hrow hnp
     go_wp2_with fail
     go_loopw [62] (fun j wz => ∃ (q : Nat) (d r : List Bool) (ns : List (List UInt8)) (T' : List (List UInt8)), j = .int .i64 q ∧ d.length = q ∧ q + r.length = l.length ∧ ns.length = r.length ∧ Hid (l = d ++ r) ∧ Hid (Row (StrAt (zc w0)) 1 ns nb (no + q)) ∧ Hid (setAll T' ns r = setAll T y.names l) ∧ Hid (Ws wz N wb cb pb x s w0 n3) ∧ Hid (Mp wz mb (mem T')) ∧ Hid (Fw (fun k => k = mb) w3 wz)) (fun j _ => l.length - (intOf j).toNat)
     case atStart => exact ⟨0, [], l, y.names, T, rfl, rfl, by omega, by omega, Lib.hid rfl, Lib.hid (by rw [Nat.add_zero]; exact HNA.out.1), Lib.hid rfl, HW3, HM3, Lib.hid (Fw.refl _ _)⟩
     case round =>
       obtain ⟨q2, d, r, ns, T', rfl, hd, hkr, hns, hds, hnr, hE, hWz, hMz, hFz⟩ := hrel
       obtain ⟨wz, rfl⟩ : ∃ wz : World, wz = wr := ⟨_, rfl⟩
       cases r with
       | nil =>
         simp only [List.length_nil] at hkr hns
         have hge2 : ¬ q2 < l.length := by omega
         have hns0 : ns = [] := List.eq_nil_of_length_eq_zero hns
         subst hns0
         have HEnd := Lib.hid (show GoEnd R N wb cb mb pb x s w0 w (.returned (.tuple #[])) wz from .ok (T := T') (by rw [HR4.out, ← hE.out]; rfl) hWz.out hMz.out (HB1.out.trans (HF3.out.trans (hFz.out.imp (fun j e => .inr (.inr e))))))
         clear hds hnr hE hWz hMz hFz
         go_wp2_with fail
         go_end0
         exact HEnd.out
       | cons t r =>
         cases ns with
         | nil => simp at hns
         | cons sn ns =>
         simp only [List.length_cons] at hkr hns
         have hlt2 : q2 < l.length := by omega
         have hlt3 : q2 < y.names.length := by omega
         rcases HRow.out with h0 | ⟨rb, cur, hrp, hrM, hrb, hrc⟩
         · omega
         rcases hpn with h0 | rfl
         · omega
         obtain ⟨hs0, hnr'⟩ := hnr.out
         have hnbN : nb < N := by have := HNA.out.2; omega
         subst hrp
         have hrz := (hFz.out.block rb (lt_blk hrb) (by have := HLM.out; omega)).trans hrb
         have hlt' : l[q2]? = some t := by rw [hds.out, ← hd]; simp
         have b0 : wz.cell? ⟨rb, 0 + q2, none⟩ = some (.bool t) := by
           have h1 := hrc q2 t hlt'
           unfold World.cell? at h1 ⊢
           simp only [hrb, hrz] at h1 ⊢
           exact h1
         simp only [Nat.zero_add] at b0
         have hFW := Lib.hid (show Fw (fun k => k = wb ∨ k = cb ∨ k = mb) W1 wz from HF3.out.trans (hFz.out.imp (fun j e => .inr (.inr e))))
         have b1 := HBX.out wz hFW.out
         have b2 := HC6.out wz hWz.out.old
         have b3 := (hWz.out.old.cell (p := ⟨nb, no + q2, none⟩) hnbN).trans (zc_cell hs0).1
         have HS := Lib.hid (lvSet_any (mem T') sn t mb wz hMz.out)
         have HR5 := Lib.hid (And.intro hnr' (show l = (d ++ [t]) ++ r from by rw [hds.out]; simp))
         have HE5 := Lib.hid (show setAll (setT T' sn t) ns r = setAll T y.names l from hE.out)
         have HWz := hWz
         have HMz := hMz
         have HFz := hFz
         clear hnr hnr' hs0 hds hE hWz hMz hFz hrc hrb hrz hFW
         go_wp2_with fail
         refine HS.out.mono ?_
         rintro z w5 ⟨rfl, hM5, hB5⟩
         have HX := Lib.hid (And.intro (HWz.out.set HMz.out HN.out.2.1 HN.out.1 (Fw.of_but hB5)) (And.intro (show Mp w5 mb (mem (setT T' sn t)) from by rw [mem_set]; exact hM5) (HFz.out.trans (Fw.of_but hB5))))
         clear hM5 hB5 b0 b1 b2 b3
         go_wp2_with fail
         go_roundw
         case rel => exact ⟨q2 + 1, d ++ [t], r, ns, setT T' sn t, by go_num, by simp [hd], by omega, by omega, Lib.hid HR5.out.2, Lib.hid (by rw [show no + (q2 + 1) = no + q2 + 1 by omega]; exact HR5.out.1), HE5, Lib.hid HX.out.1, Lib.hid HX.out.2.1, Lib.hid HX.out.2.2⟩
         case measure => simp [intOf]; omega
   | cons e r =>
     cases vs with
     | nil => simp [Exs.len] at hvs
     | cons v vs =>
     obtain ⟨he, hr'⟩ := hr.out
     obtain ⟨hv0, hv'⟩ := hv.out
     simp only [Exs.len] at hk hvs
     simp only [List.length_cons] at hvs
     simp only [Exs.size] at hsz
     have hlt : q < y.args.len := by omega
     have hlt2 : q < g.params.length := by omega
     rcases hpa with h0 | rfl
     · omega
     rcases hpv with h0 | rfl
     · omega
     have habN : ab < N := by have := HAA.out.2; omega
     have hvbN : vb < N := by have := HVA.out.2; omega
     have hce : e.chk x fn deep = 0 ∧ r.chk x fn deep = 0 := by
       have h := hck.out
       rw [Exs.chk] at h
       by_cases h1 : e.chk x fn deep = 0
       · rw [seq_ok h1] at h; exact ⟨h1, h⟩
       · rw [seq_no h1] at h; exact absurd h h1
     have HL := Lib.hid (level_walk x s i fn e deep wb cb pb mb ab (ao + q * 4) N n T w0 wr hWr.out hi hce.1 he habN (by have := HA.out.2; omega) hMr.out HN.out.2.1)
     have HV := Lib.hid (fun (W : World) (hB : Below N w0 W) => show W.cell? ⟨vb, vo + q * 4 + 3, none⟩ = some (.bool v.secret) from (hB.cell (p := ⟨vb, vo + q * 4 + 3, none⟩) hvbN).trans (zc_cell hv0.2.2.2).1)
     have HR2 := Lib.hid (And.intro hr' (And.intro hv' hce.2))
     have HE := Lib.hid (show argsT x fn T y.args g.params = ((match e.lev x fn T with | none => false | some b => !b || v.secret) && argsT x fn T r vs) from hE.out.symm)
     have d0 := HBX.out wr hFr.out
     have d4 := HC4.out wr hWr.out.old
     have HMr := hMr
     have HFr := hFr
     clear hr hv hck hE hWr hMr hFr he hr' hv0 hv' hce
     go_wp2_with fail
     refine HL.out.mono ?_
     intro z w3 h3
     rcases h3 with ⟨hl3, hWx, hFx⟩ | ⟨hl3, hFx⟩
     rotate_left
     · rw [hl3] at HE
       have HEnd := Lib.hid (show GoEnd R N wb cb mb pb x s w0 w (Pn 10) w3 from .no (e := 10) (by rw [HR.out, HE.out]; rfl) (HB1.out.trans (HFr.out.trans (hFx.imp (fun j e => .inr (.inl e))))))
       clear hFx hl3
       unfold Pn at HEnd ⊢
       go_wp2_with fail
       exact ⟨rfl, HEnd.out⟩
     rename_i tb
     rw [hl3] at HE
     have HW3 := Lib.hid hWx
     have HM3 := Lib.hid (HMr.out.fw hFx HN.out.2.1)
     have HF3 := Lib.hid (HFr.out.trans (hFx.imp (fun j e => .inr (.inl e))))
     have d5 := HV.out w3 hWx.old
     clear hWx hFx hl3 d0 d4
     cases tb with
     | false =>
       have HE2 := Lib.hid (show argsT x fn T r vs = argsT x fn T y.args g.params from by rw [HE.out]; simp)
       go_wp2_with fail
       go_roundw
       case rel => exact ⟨q + 1, r, vs, by go_num, by omega, by omega, by omega, Lib.hid (by rw [show ao + (q + 1) * 4 = ao + q * 4 + 4 by omega]; exact HR2.out.1), Lib.hid (by rw [show vo + (q + 1) * 4 = vo + q * 4 + 4 by omega]; exact HR2.out.2.1), Lib.hid HR2.out.2.2, HE2, HW3, HM3, HF3⟩
       case measure => simp [intOf]; omega
     | true =>
       cases hsec : v.secret with
       | false =>
         rw [hsec] at d5 HE
         have HEnd := Lib.hid (show GoEnd R N wb cb mb pb x s w0 w (Pn 10) w3 from .no (e := 10) (by rw [HR.out, HE.out]; rfl) (HB1.out.trans HF3.out))
         unfold Pn at HEnd
         go_wp2_with fail
         refine (smust_no 10 _).mono ?_
         rintro z w4 ⟨rfl, rfl⟩
         unfold Pn
         go_wp2_with fail
         exact ⟨rfl, HEnd.out⟩
       | true =>
         rw [hsec] at d5 HE
         have HE2 := Lib.hid (show argsT x fn T r vs = argsT x fn T y.args g.params from by rw [HE.out]; simp)
         go_wp2_with fail
         refine (smust_yes 10 _).mono ?_
         rintro z w4 ⟨rfl, rfl⟩
         go_wp2_with fail
         go_roundw
         case rel => exact ⟨q + 1, r, vs, by go_num, by omega, by omega, by omega, Lib.hid (by rw [show ao + (q + 1) * 4 = ao + q * 4 + 4 by omega]; exact HR2.out.1), Lib.hid (by rw [show vo + (q + 1) * 4 = vo + q * 4 + 4 by omega]; exact HR2.out.2.1), Lib.hid HR2.out.2.2, HE2, HW3, HM3, HF3⟩
         case measure => simp [intOf]; omega
end Go.Proofs.YtihmibggonffdaaGreat
