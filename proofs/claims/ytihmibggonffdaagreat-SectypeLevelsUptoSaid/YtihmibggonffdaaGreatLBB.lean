/- LB5, LBP, LBB as one. -/
import Derived.Test.YtihmibggonffdaaGreatLBC
import Derived.Test.YtihmibggonffdaaGreatF1
import Derived.Test.YtihmibggonffdaaGreatLBA
/- The document enters a function. -/
namespace Go.Proofs.YtihmibggonffdaaGreat
open Go.RowKit

theorem grow_fw {W W' : World} {v : Value} (hG : W.grownBy W' v.ownBlock) : Fw (fun k => v.ownBlock = some k) W W' := by
 obtain ⟨a1, a2, a3, a4, a5⟩ := hG
 exact ⟨a1, a2, a3, a4, fun j hj hn => a5 j hj (by first | exact hn | exact fun e => hn e.symm)⟩
theorem own_ty {W : World} {B n k : Nat} {v : Value} {cs : List Value} (hO : W.ownsRow B 4 1 v n cs) (e : v.ownBlock = some k) : B ≤ k ∧ ∃ cur, W.heap[k]? = some (.cells cur 4 (0, 0)) := by
 rcases hO.2 with ⟨rfl, _⟩ | ⟨g, cap, cur, rfl, hb, hg, _⟩
 · cases e
 · cases e; exact ⟨hb, cur, hg⟩
theorem own_setg {w : World} {M n g j : Nat} {v u : Value} {cs : List Value} {c : Array Value} {t : TypeId} (h : w.ownsRow M 4 1 v n cs) (hr : w.heap[g]? = some (.cells c t (0, 0))) (ht : t ≠ 4) : (w.setCell ⟨g, j, none⟩ u).ownsRow M 4 1 v n cs :=
 own_fwb h (Fw.of_but ((But.refl g w).set j u)) (fun k e cur hc => by subst e; rw [hr] at hc; injection hc with hc; injection hc with _ hc _; exact ht hc)
theorem Cs.grown {W W' : World} {M g i er gn : Nat} {x : Prg} {s : PrgP} {v : Value} {L : List Bool} (h : Cs W M g x s i v L er gn) (hG : W.grownBy W' v.ownBlock) :
   W'.heap[g]? = some (.cells #[.slice s.p x.regs.length s.c, .slice s.q x.fns.length s.d, .int .i64 (i : Int), v, .int .i64 (er : Int), .int .i64 (gn : Int)] 55 (0, 0)) := by
 refine ((grow_fw hG).block g (lt_blk h.k) (fun e => ?_)).trans h.k
 obtain ⟨_, cur, hc⟩ := own_ty h.r e
 rw [h.k] at hc; injection hc with hc; exact chk_bool hc
theorem Cs.app {W W' : World} {M g i er gn : Nat} {x : Prg} {s : PrgP} {v v' : Value} {L : List Bool} {t : Bool} (h : Cs W M g x s i v L er gn) (hG : W.grownBy W' v.ownBlock) (hown : W'.ownsRow M 4 1 v' (L.length + 1) (boolCells L ++ [.bool t])) : Cs (W'.setCell ⟨g, 3, none⟩ v') M g x s i v' (L ++ [t]) er gn := by
 have hk := h.grown hG
 refine ⟨by rw [setc hk]; rfl, ?_⟩
 rw [List.length_append, List.length_singleton, boolCells_snoc]
 exact own_setg hown hk (by decide)
theorem grow_below {W W' : World} {v : Value} {B M n : Nat} {cs : List Value} (hG : W.grownBy W' v.ownBlock) (hO : W.ownsRow M 4 1 v n cs) (hB : B ≤ W.heap.size) (hM : B ≤ M) : Below B W W' :=
 (grow_fw hG).below hB (fun _k e => Nat.le_trans hM (own_ty hO e).1)
theorem own_slice {w : World} {M n : Nat} {v : Value} {cs : List Value} (h : w.ownsRow M 4 1 v n cs) : ∃ p c, v = .slice p n c := by
 rcases h.2 with ⟨rfl, h0⟩ | ⟨g, cap, cur, rfl, _⟩
 · rw [h0]; exact ⟨none, 0, rfl⟩
 · exact ⟨_, _, rfl⟩
def L0 (fn : Fnc) : List Bool := fn.params.map (·.secret) ++ fn.vars.map fun _ => false
set_option maxRecDepth 100000 in
set_option maxHeartbeats 12800000 in
theorem enter_any (x : Prg) (s : PrgP) (i : Nat) (fn : Fnc) (N : Nat) (w : World) (h : x.Ok w N s.p s.q) (hN : N ≤ w.heap.size) (hi : x.fns[i]? = some fn) (hbig : fn.params.length + fn.vars.length ≤ 4000000) :
   Calls Tryz.prog 12 #[x.v s, .int .i64 (i : Int)] w fun z w' => (∃ g v, z = .returned (.pointer (some ⟨g, 0, none⟩)) ∧ w.heap.size ≤ g ∧ Cs w' w.heap.size g x s i v (L0 fn) 0 0) ∧ Below w.heap.size w w' := by
 obtain ⟨p, q, c, d⟩ := s
 obtain ⟨ds, rs, hfe, hfl⟩ : ∃ ds rs, x.fns = ds ++ fn :: rs ∧ ds.length = i := by
   obtain ⟨h1, h2⟩ := List.getElem?_eq_some_iff.1 hi
   exact ⟨x.fns.take i, x.fns.drop (i + 1), by rw [← h2, List.getElem_cons_drop, List.take_append_drop], by rw [List.length_take]; omega⟩
 obtain ⟨bq, oq, hqe, hbq, hv⟩ := rowk h.2 hfe
 dsimp only at hqe
 subst hqe
 rw [hfl] at hv
 obtain ⟨⟨pp, pv, pr, pb, cp, cv, cr, cb⟩, e0, e1, e2, e3, e4, hok⟩ := Fnc.At.all hv
 have hilt : i < x.fns.length := (List.getElem?_eq_some_iff.1 hi).1
 obtain ⟨w3, hw3, k0, k1, k2, hB3, hz3⟩ := three w (.cells #[.slice p x.regs.length c, .slice (some ⟨bq, oq, none⟩) x.fns.length d] 25) (.cells #[.slice p x.regs.length c, .slice (some ⟨bq, oq, none⟩) x.fns.length d, .int .i64 (i : Int), .slice none 0 0, .int .i64 0, .int .i64 0] 55) (.cells #[.string (str fn.name), .slice pp fn.params.length cp, .slice pv fn.vars.length cv, .slice pr fn.rets.length cr, .slice pb fn.body.len cb] 48)
 obtain ⟨w2, hw2, j0, j1, hB2, hz2'⟩ := two_alloc w (.cells #[.slice p x.regs.length c, .slice (some ⟨bq, oq, none⟩) x.fns.length d] 25) (.cells #[.slice p x.regs.length c, .slice (some ⟨bq, oq, none⟩) x.fns.length d, .int .i64 (i : Int), .slice none 0 0, .int .i64 0, .int .i64 0] 55)
 have hbw : bq < w.heap.size := by omega
 have g0 := (hB2.cell (p := ⟨bq, oq + i * 5, none⟩) hbw).trans e0
 have g1 := (hB2.cell (p := ⟨bq, oq + i * 5 + 1, none⟩) hbw).trans e1
 have g2 := (hB2.cell (p := ⟨bq, oq + i * 5 + 2, none⟩) hbw).trans e2
 have g3 := (hB2.cell (p := ⟨bq, oq + i * 5 + 3, none⟩) hbw).trans e3
 have g4 := (hB2.cell (p := ⟨bq, oq + i * 5 + 4, none⟩) hbw).trans e4
 have d1 : w2.cell? ⟨w.heap.size, 1, none⟩ = some (.slice (some ⟨bq, oq, none⟩) x.fns.length d) := cell_blk j0 rfl
 have d0 : w2.cell? ⟨w.heap.size, 0, none⟩ = some (.slice p x.regs.length c) := cell_blk j0 rfl
 have hC0 : Cs w3 w.heap.size (w.heap.size + 1) x ⟨p, some ⟨bq, oq, none⟩, c, d⟩ i (.slice none 0 0) [] 0 0 := ⟨k1, ⟨rfl, .inl ⟨rfl, rfl⟩⟩⟩
 have HC0 := Lib.hid hC0
 have HF := Lib.hid (fun (W : World) (hW : W.heap[w.heap.size + 1 + 1]? = w3.heap[w.heap.size + 1 + 1]?) => show W.cell? ⟨w.heap.size + 1 + 1, 1, none⟩ = some (.slice pp fn.params.length cp) ∧ W.cell? ⟨w.heap.size + 1 + 1, 2, none⟩ = some (.slice pv fn.vars.length cv) from
   ⟨cell_blk (hW.trans k2) rfl, cell_blk (hW.trans k2) rfl⟩)
 have HF3 := Lib.hid (show w3.heap[w.heap.size + 1 + 1]? = some (.cells #[.string (str fn.name), .slice pp fn.params.length cp, .slice pv fn.vars.length cv, .slice pr fn.rets.length cr, .slice pb fn.body.len cb] 48 (0, 0)) from k2)
 have HB0 := Lib.hid hB3
 have HPr := Lib.hid (fun (W : World) (hW : Below w.heap.size w W) => show RowIn N (Vr.At W) 4 fn.params pp from hok.1.imp (Nat.le_refl N) (Vr.At.later (hW.mono hN)))
 have HNN := Lib.hid hN
 have HW2 := Lib.hid hw2
 have HW3 := Lib.hid (show w2.alloc (.cells #[.string (str fn.name), .slice pp fn.params.length cp, .slice pv fn.vars.length cv, .slice pr fn.rets.length cr, .slice pb fn.body.len cb] 48) = w3 by rw [← hw2]; exact hw3)
 have HZ2 := Lib.hid hz2'
 have hmp : fn.params.length ≤ 140737488355328 := hok.1.1
 have hmv : fn.vars.length ≤ 140737488355328 := hok.2.1.1
 have hmf : x.fns.length ≤ 140737488355328 := h.2.1
 have HBig := Lib.hid hbig
 clear h hN hfe hfl hbq hv e0 e1 e2 e3 e4 hok hw3 hw2 k0 k1 k2 hB3 hz3 j0 j1 hB2 hz2' hC0 hbig hi hbw
 unfold Prg.v
 dsimp only
 go_enter Tryz.func12, Tryz.ntmps12
 go_upto_region 2 with fail
 erw [HW2.out]
 go_upto_region 3 with fail
 rw [HZ2.out]
 erw [HW3.out]
 clear g0 g1 g2 g3 g4 d0 d1
 go_wp2_with fail
 go_loopw [7] (fun j wr => ∃ (v : Value) (dd r : List Vr), j = .int .i64 dd.length ∧ dd.length + r.length = fn.params.length ∧ Hid (fn.params = dd ++ r) ∧ Hid (Cs wr w.heap.size (w.heap.size + 1) x ⟨p, some ⟨bq, oq, none⟩, c, d⟩ i v (dd.map (·.secret)) 0 0) ∧ Hid (wr.heap[w.heap.size + 1 + 1]? = w3.heap[w.heap.size + 1 + 1]?) ∧ Hid (Below w.heap.size w wr)) (fun j _ => fn.params.length - (intOf j).toNat)
 case atStart => exact ⟨_, [], fn.params, rfl, by simp, Lib.hid rfl, HC0, Lib.hid rfl, HB0⟩
 case round =>
   obtain ⟨v, dd, r, rfl, hk, hE, hCr, hFr, hBr⟩ := hrel
   obtain ⟨f1, f2⟩ := HF.out wr hFr.out
   cases r with
   | nil =>
     simp only [List.length_nil] at hk
     have hge : ¬ dd.length < fn.params.length := by omega
     have HDe := Lib.hid (show dd = fn.params by have := hE.out; rw [List.append_nil] at this; exact this.symm)
     go_wp2_with fail
     clear f1 f2
     go_loopw [8] (fun j wx => ∃ (v : Value) (k : Nat), j = .int .i64 k ∧ k ≤ fn.vars.length ∧ Hid (Cs wx w.heap.size (w.heap.size + 1) x ⟨p, some ⟨bq, oq, none⟩, c, d⟩ i v (fn.params.map (·.secret) ++ List.replicate k false) 0 0) ∧ Hid (wx.heap[w.heap.size + 1 + 1]? = w3.heap[w.heap.size + 1 + 1]?) ∧ Hid (Below w.heap.size w wx)) (fun j _ => fn.vars.length - (intOf j).toNat)
     case atStart => exact ⟨v, 0, rfl, Nat.zero_le _, Lib.hid (by rw [List.replicate_zero, List.append_nil, ← HDe.out]; exact hCr.out), hFr, hBr⟩
     case round =>
       obtain ⟨v2, k2, rfl, hk2, hC2, hF2, hB2⟩ := hrel
       obtain ⟨f1, f2⟩ := HF.out wr hF2.out
       by_cases hlt : k2 < fn.vars.length
       rotate_left
       · have HEnd := Lib.hid (show Cs wr w.heap.size (w.heap.size + 1) x ⟨p, some ⟨bq, oq, none⟩, c, d⟩ i v2 (L0 fn) 0 0 by
           have e : L0 fn = fn.params.map (·.secret) ++ List.replicate k2 false := by
             unfold L0; congr 1; rw [List.map_const', show k2 = fn.vars.length by omega]
           rw [e]; exact hC2.out)
         go_wp2_with fail
         go_ret
         exact ⟨⟨_, v2, rfl, by omega, HEnd.out⟩, hB2.out⟩
       have c3 : wr.cell? ⟨w.heap.size + 1, 3, none⟩ = some v2 := cell_blk hC2.out.k rfl
       obtain ⟨W1, hW1, k1, hB1, hz1'⟩ := one_alloc wr (.cells #[.bool false] 4)
       have HC1 := Lib.hid (hC2.out.later hB1)
       have HSr := Lib.hid (show Src W1 1 (some ⟨wr.heap.size, 0, none⟩) 1 [.bool false] from ⟨rfl, .inr ⟨_, _, rfl, fun j u hu => by
         rcases j with _ | j
         · cases hu; exact cell_blk k1 rfl
         · simp at hu⟩⟩)
       have HB1 := Lib.hid (hB2.out.trans (hB1.mono hB2.out.size))
       have HF1 := Lib.hid (show W1.heap[w.heap.size + 1 + 1]? = w3.heap[w.heap.size + 1 + 1]? from (hB1.block _ (by have := lt_blk (hF2.out.trans HF3.out); omega)).trans hF2.out)
       have HLn := Lib.hid (show (fn.params.map (·.secret) ++ List.replicate k2 false).length = fn.params.length + k2 by simp)
       obtain ⟨LL, hLL⟩ : ∃ LL, LL = fn.params.map (·.secret) ++ List.replicate k2 false := ⟨_, rfl⟩
       rw [← hLL] at HC1 HLn
       have HLe := Lib.hid hLL
       clear hLL
       obtain ⟨i0, hi0, hz0, hz1, hz2⟩ := infoB1
       have hbb : fn.params.length + fn.vars.length ≤ 4000000 := HBig.out
       have hll := HLn.out
       clear k1 hB1 hz1'
       go_wp2_with (at_builtin; refine wpList_append_src rfl _ _ 28 rfl w.heap.size 4 i0 _ 1 1 Tryz.underlying28 hi0 hz0 hz1 hz2 rfl (by decide) _ LL.length (boolCells LL) rfl HC1.out.r _ _ _ [.bool false] rfl HSr.out (by intro u hu; simp at hu; subst hu; rfl) (by unfold maxLen; omega) (by omega) HB1.out.size ?_; intro va wa hown hgr; obtain ⟨pa, ca, hva⟩ := own_slice hown; rw [hll] at hva; subst hva; have z3 : wa.cell? ⟨w.heap.size + 1, 3, none⟩ = some v2 := cell_blk (HC1.out.grown hgr) rfl; have f3 : wa.frozen? ⟨w.heap.size + 1, 3, none⟩ = false := (by simp [World.frozen?, HC1.out.grown hgr]))
       have HCa := Lib.hid (HC1.out.app hgr hown)
       have HKa := Lib.hid (HC1.out.grown hgr)
       have HBa := Lib.hid (HB1.out.trans ((grow_below hgr HC1.out.r HB1.out.size (Nat.le_refl _))))
       have HFa := Lib.hid (show wa.heap[w.heap.size + 1 + 1]? = w3.heap[w.heap.size + 1 + 1]? from ((grow_fw hgr).block _ (lt_blk (HF1.out.trans HF3.out)) (fun e => by
         obtain ⟨_, cur, hc⟩ := own_ty HC1.out.r e
         rw [HF1.out, HF3.out] at hc; injection hc with hc; injection hc with _ hc _; exact absurd hc (by decide))).trans HF1.out)
       have HX := Lib.hid (show Cs (wa.setCell ⟨w.heap.size + 1, 3, none⟩ (.slice pa (fn.params.length + k2 + 1) ca)) w.heap.size (w.heap.size + 1) x ⟨p, some ⟨bq, oq, none⟩, c, d⟩ i (.slice pa (fn.params.length + k2 + 1) ca) (fn.params.map (·.secret) ++ List.replicate (k2 + 1) false) 0 0 ∧ (wa.setCell ⟨w.heap.size + 1, 3, none⟩ (.slice pa (fn.params.length + k2 + 1) ca)).heap[w.heap.size + 1 + 1]? = w3.heap[w.heap.size + 1 + 1]? ∧ Below w.heap.size w (wa.setCell ⟨w.heap.size + 1, 3, none⟩ (.slice pa (fn.params.length + k2 + 1) ca)) from
         ⟨by have e := HCa.out; rw [HLe.out, List.append_assoc, ← List.replicate_succ'] at e; exact e, (Below.heap_setCell _ ⟨w.heap.size + 1, 3, none⟩ _ _ (fun e => by have e : w.heap.size + 1 + 1 = w.heap.size + 1 := e; omega)).trans HFa.out, HBa.out.trans (((Fw.of_but ((But.refl (w.heap.size + 1) wa).set 3 _)).below HBa.out.size (fun k e => by subst e; omega)))⟩)
       clear hown hgr hi0 hz0 hz1 hz2 hll hbb
       go_roundw
       case rel => exact ⟨_, k2 + 1, by go_num, by omega, Lib.hid HX.out.1, Lib.hid HX.out.2.1, Lib.hid HX.out.2.2⟩
       case measure => simp [intOf]; omega
   | cons y r =>
     simp only [List.length_cons] at hk
     have hlt : dd.length < fn.params.length := by omega
     obtain ⟨bp, op, hpe, hbp, hvp⟩ := rowk (HPr.out wr hBr.out) hE.out
     subst hpe
     obtain ⟨nm, kd, sz, sc⟩ := y
     obtain ⟨_, _, _, v3⟩ := hvp
     have c3 : wr.cell? ⟨w.heap.size + 1, 3, none⟩ = some v := cell_blk hCr.out.k rfl
     have HD := Lib.hid (show Below wr.heap.size wr wr.drew from (Below.refl _ _).drew)
     have HSz := Lib.hid (show wr.drew.heap.size = wr.heap.size from rfl)
     go_upto_region 6 with fail
     refine bgk 15 (fun W => W.cell? ⟨w.heap.size + 1, 3, none⟩ = some v ∧ W.cell? ⟨w.heap.size + 1 + 1, 1, none⟩ = some (.slice (some ⟨bp, op, none⟩) fn.params.length cp) ∧ W.cell? ⟨bp, op + dd.length * 4 + 3, none⟩ = some (.bool sc)) (⟨c3, f1, v3⟩) (fun hHeld => ?_)
     clear c3 f1 f2 v3
     generalize wr.drew = wd at hHeld HD HSz ⊢
     have HCd := Lib.hid (hCr.out.later HD.out)
     obtain ⟨W1, hW1, k1, hB1, hz1'⟩ := one_alloc wd (.cells #[.bool sc] 4)
     have HC1 := Lib.hid (HCd.out.later hB1)
     have HSr := Lib.hid (show Src W1 1 (some ⟨wd.heap.size, 0, none⟩) 1 [.bool sc] from ⟨rfl, .inr ⟨_, _, rfl, fun j u hu => by
       rcases j with _ | j
       · cases hu; exact cell_blk k1 rfl
       · simp at hu⟩⟩)
     have HB1 := Lib.hid ((hBr.out.trans (HD.out.mono hBr.out.size)).trans (hB1.mono (by have := hBr.out.size; have := HSz.out; omega)))
     have HF1 := Lib.hid (show W1.heap[w.heap.size + 1 + 1]? = w3.heap[w.heap.size + 1 + 1]? from (hB1.block _ (by have := lt_blk (hFr.out.trans HF3.out); have := HSz.out; omega)).trans ((HD.out.block _ (lt_blk (hFr.out.trans HF3.out))).trans hFr.out))
     have HH1 := Lib.hid (show W1.cell? ⟨w.heap.size + 1, 3, none⟩ = some v ∧ W1.cell? ⟨w.heap.size + 1 + 1, 1, none⟩ = some (.slice (some ⟨bp, op, none⟩) fn.params.length cp) ∧ W1.cell? ⟨bp, op + dd.length * 4 + 3, none⟩ = some (.bool sc) from
       ⟨cell_blk HC1.out.k rfl, (hB1.cell (p := ⟨w.heap.size + 1 + 1, 1, none⟩) (World.block_lt_of_cell? _ _ hHeld.2.1)).trans hHeld.2.1, (hB1.cell (p := ⟨bp, op + dd.length * 4 + 3, none⟩) (World.block_lt_of_cell? _ _ hHeld.2.2)).trans hHeld.2.2⟩)
     obtain ⟨LL, hLL⟩ : ∃ LL : List Bool, LL = dd.map (·.secret) := ⟨_, rfl⟩
     rw [← hLL] at HC1
     have HLe := Lib.hid hLL
     have HLn := Lib.hid (show LL.length = dd.length by rw [hLL, List.length_map])
     obtain ⟨i0, hi0, hz0, hz1, hz2⟩ := infoB1
     have hbb : fn.params.length + fn.vars.length ≤ 4000000 := HBig.out
     have hll := HLn.out
     obtain ⟨va, wa, hap, hown, hgr⟩ := run_app (P := Tryz.prog) W1 w.heap.size 28 28 4 i0 _ 1 1 Tryz.underlying28 hi0 hz0 hz1 hz2 rfl (by decide) v LL.length (boolCells LL) HC1.out.r (some ⟨wd.heap.size, 0, none⟩) 1 1 [.bool sc] HSr.out (by intro u hu; simp at hu; subst hu; rfl) (by unfold maxLen; omega) (by omega) HB1.out.size
     obtain ⟨pa, ca, rfl⟩ := own_slice hown
     have HCa := Lib.hid (HC1.out.app hgr hown)
     have HKa := Lib.hid (HC1.out.grown hgr)
     have HBa := Lib.hid (HB1.out.trans ((grow_below hgr HC1.out.r HB1.out.size (Nat.le_refl _))))
     have HFa := Lib.hid (show wa.heap[w.heap.size + 1 + 1]? = w3.heap[w.heap.size + 1 + 1]? from ((grow_fw hgr).block _ (lt_blk (HF1.out.trans HF3.out)) (fun e => by
       obtain ⟨_, cur, hc⟩ := own_ty HC1.out.r e
       rw [HF1.out, HF3.out] at hc; injection hc with hc; injection hc with _ hc _; exact absurd hc (by decide))).trans HF1.out)
     have HGa := Lib.hid (show ∀ b o, (∀ cur, W1.heap[b]? ≠ some (.cells cur 4 (0, 0))) → b < W1.heap.size → wa.cell? ⟨b, o, none⟩ = W1.cell? ⟨b, o, none⟩ from fun b o hn hb => by
       have e := (grow_fw hgr).block b hb (fun e => by obtain ⟨_, cur, hc⟩ := own_ty HC1.out.r e; exact hn cur hc)
       simp [World.cell?, e])
     have HAp := Lib.hid hap
     have HW1 := Lib.hid hW1
     clear hi0 hz0 hz1 hz2 hown hgr hW1 k1 hB1 hz1' hLL hap hll hbb
     refine tz 0 ?_
     refine tz 1 ?_
     refine tz 2 ?_
     refine tz 3 ?_
     refine tl 4 ?_
     refine tz 5 ?_
     refine tl 6 ?_
     refine tz 7 ?_
     refine tz 8 ?_
     refine tz 9 ?_
     refine tl 10 ?_
     refine rdk 11 rfl (fun K hK => ?_)
     go_simp
     rw [HW1.out]
     refine hK.out _ _ ?_ (fun hHeldN => ?_)
     · exact HH1.out
     clear hK K hHeld
     have hHeld := hHeldN
     clear hHeldN
     try simp only [Act.put, List.setIfInBounds_toArray, List.set_cons_zero, List.set_cons_succ]
     have HHa := Lib.hid (show wa.cell? ⟨w.heap.size + 1, 3, none⟩ = some v ∧ wa.cell? ⟨w.heap.size + 1 + 1, 1, none⟩ = some (.slice (some ⟨bp, op, none⟩) fn.params.length cp) ∧ wa.cell? ⟨bp, op + dd.length * 4 + 3, none⟩ = some (.bool sc) from
       ⟨cell_blk HKa.out rfl, (HF.out wa HFa.out).1, (HPr.out wa HBa.out |> fun hh => by obtain ⟨b9, o9, h9, _, h99⟩ := rowk hh hE.out; cases h9; exact h99.2.2.2)⟩)
     refine rdk 12 rfl (fun K hK => ?_)
     refine Lib.wp_append_run _ _ _ _ _ rfl _ _ rfl rfl _ _ HAp.out ?_
     refine hK.out _ _ ?_ (fun hHeldN => ?_)
     · exact HHa.out
     clear hK K hHeld
     have hHeld := hHeldN
     clear hHeldN
     try simp only [Act.put, List.setIfInBounds_toArray, List.set_cons_zero, List.set_cons_succ]
     refine tz 13 ?_
     refine tz 14 ?_
     refine rdb 15 rfl (fun K hK => ?_)
     have z1 : wa.cell? ⟨w.heap.size + 1, 3, none⟩ = some v := cell_blk HKa.out rfl
     have z2 : wa.frozen? ⟨w.heap.size + 1, 3, none⟩ = false := by simp [World.frozen?, HKa.out]
     go_simp
     refine hK.out _ _ ?_
     clear hK K
     try simp only [Act.put, List.setIfInBounds_toArray, List.set_cons_zero, List.set_cons_succ]
     refine dnk ?_ (by kernel_rfl) _
     clear hHeld
     have HY := Lib.hid (show Cs (wa.setCell ⟨w.heap.size + 1, 3, none⟩ (.slice pa (LL.length + 1) ca)) w.heap.size (w.heap.size + 1) x ⟨p, some ⟨bq, oq, none⟩, c, d⟩ i (.slice pa (LL.length + 1) ca) ((dd ++ [(⟨nm, kd, sz, sc⟩ : Vr)]).map (·.secret)) 0 0 ∧ (wa.setCell ⟨w.heap.size + 1, 3, none⟩ (.slice pa (LL.length + 1) ca)).heap[w.heap.size + 1 + 1]? = w3.heap[w.heap.size + 1 + 1]? ∧ Below w.heap.size w (wa.setCell ⟨w.heap.size + 1, 3, none⟩ (.slice pa (LL.length + 1) ca)) from
       ⟨by have e := HCa.out; rw [HLe.out] at e; rw [List.map_append]; rw [HLe.out]; exact e, (Below.heap_setCell _ ⟨w.heap.size + 1, 3, none⟩ _ _ (fun e => by have e : w.heap.size + 1 + 1 = w.heap.size + 1 := e; omega)).trans HFa.out, HBa.out.trans (((Fw.of_but ((But.refl (w.heap.size + 1) wa).set 3 _)).below HBa.out.size (fun k e => by subst e; omega)))⟩)
     go_wp2_with fail
     go_roundw
     case rel => exact ⟨_, dd ++ [⟨nm, kd, sz, sc⟩], r, by rw [List.length_append]; go_num, by simp; omega, Lib.hid (by rw [hE.out]; simp), Lib.hid HY.out.1, Lib.hid HY.out.2.1, Lib.hid HY.out.2.2⟩
     case measure => simp [intOf]; omega
/- Which levels are handed in, and what Level tells of them. -/
open Go.RowKit

theorem fk_pos {x : Prg} {fn : Fnc} {nm : List UInt8} (h : findK x fn nm = 1) : ∃ v, (fn.params ++ fn.vars)[posN fn nm]? = some v ∧ v.name = nm ∧ v.kind = 1 := by
 unfold findK found at h
 cases hf : (fn.params ++ fn.vars).find? (named nm) with
 | none =>
   rw [hf] at h
   dsimp only at h
   split at h <;> simp_all
 | some v =>
   rw [hf] at h
   simp only [if_true, Bool.false_eq_true, if_false] at h
   obtain ⟨hv, d, r, e, hd⟩ := List.find?_eq_some_iff_append.1 hf
   have hp : posN fn nm = d.length := by
     unfold posN; rw [e]; exact find_at d v r (by simpa using hd) hv
   refine ⟨v, by rw [hp, e]; simp, by simpa [named] using hv, ?_⟩
   split at h
   · rename_i h1; simpa using h1
   · cases h
theorem pos_at {x : Prg} {fn : Fnc} {k : Nat} {v : Vr} (hu : newB nz (rnm x.regs ++ vnm (fn.params ++ fn.vars)) = true) (h : (fn.params ++ fn.vars)[k]? = some v) : posN fn v.name = k := by
 obtain ⟨d, r, e, hk⟩ : ∃ d r, fn.params ++ fn.vars = d ++ v :: r ∧ d.length = k := by
   obtain ⟨h1, h2⟩ := List.getElem?_eq_some_iff.1 h
   exact ⟨(fn.params ++ fn.vars).take k, (fn.params ++ fn.vars).drop (k + 1), by rw [← h2, List.getElem_cons_drop, List.take_append_drop], by rw [List.length_take]; omega⟩
 unfold posN
 rw [e] at hu ⊢
 rw [find_at d v r (names_one hu (by simp [named])) (by simp [named]), hk]
def Fed (x : Prg) (fn : Fnc) (ws : List Bool) (k : Nat) (F : List UInt8 → Option Bool) : Prop := ∀ nm, findK x fn nm = 1 → F nm = if posN fn nm < k then ws[posN fn nm]? else none
theorem fed_zero (x : Prg) (fn : Fnc) (ws : List Bool) : Fed x fn ws 0 (fun _ => none) := fun nm _ => by simp
theorem fed_word {x : Prg} {fn : Fnc} {ws : List Bool} {k : Nat} {F : List UInt8 → Option Bool} {v : Vr} {t : Bool} (hu : newB nz (rnm x.regs ++ vnm (fn.params ++ fn.vars)) = true) (hk : (fn.params ++ fn.vars)[k]? = some v) (hw : ws[k]? = some t) (hF : Fed x fn ws k F) : Fed x fn ws (k + 1) (putB F v.name t) := by
 intro nm h1
 have hp := pos_at hu hk
 unfold putB
 by_cases e : nm = v.name
 · rw [if_pos e, e, hp, if_pos (by omega), hw]
 · rw [if_neg e, hF nm h1]
   obtain ⟨u, hu1, hu2, _⟩ := fk_pos h1
   have hne : posN fn nm ≠ k := fun hh => e (by rw [hh, hk] at hu1; cases hu1; exact hu2.symm)
   by_cases hl : posN fn nm < k
   · rw [if_pos hl, if_pos (by omega)]
   · rw [if_neg hl, if_neg (by omega)]
theorem fed_other {x : Prg} {fn : Fnc} {ws : List Bool} {k : Nat} {F : List UInt8 → Option Bool} {v : Vr} (hk : (fn.params ++ fn.vars)[k]? = some v) (h1 : v.kind ≠ 1) (hF : Fed x fn ws k F) : Fed x fn ws (k + 1) F := by
 intro nm h2
 rw [hF nm h2]
 obtain ⟨u, hu1, hu2, hu3⟩ := fk_pos h2
 have hne : posN fn nm ≠ k := fun hh => h1 (by rw [hh, hk] at hu1; cases hu1; exact hu3)
 by_cases hl : posN fn nm < k
 · rw [if_pos hl, if_pos (by omega)]
 · rw [if_neg hl, if_neg (by omega)]
mutual
theorem Ex.any2_le {x : Prg} {fn : Fnc} {P Q : List UInt8 → Bool} (hPQ : ∀ nm, findK x fn nm = 1 → P nm = true → Q nm = true) : ∀ (e : Ex) (deep : Nat), e.chk x fn deep = 0 → e.any2 P = true → e.any2 Q = true
 | .mk op wd nm a, deep, h, hp => by
   obtain ⟨h2, _⟩ := chk_find h
   obtain ⟨_, _, h4⟩ := chk_shape h
   rw [Ex.any2, Bool.or_eq_true] at hp ⊢
   rcases hp with hp | hp
   · rw [Bool.and_eq_true, decide_eq_true_eq] at hp
     exact .inl (by rw [Bool.and_eq_true, decide_eq_true_eq]; exact ⟨hp.1, hPQ nm (h2 hp.1) hp.2⟩)
   · exact .inr (Exs.any2_le hPQ a (deep + 1) h4 hp)
theorem Exs.any2_le {x : Prg} {fn : Fnc} {P Q : List UInt8 → Bool} (hPQ : ∀ nm, findK x fn nm = 1 → P nm = true → Q nm = true) : ∀ (l : Exs) (deep : Nat), l.chk x fn deep = 0 → l.any2 P = true → l.any2 Q = true
 | .nil, _, _, hp => by rw [Exs.any2] at hp; cases hp
 | .cons e r, deep, h, hp => by
   obtain ⟨h1, h2⟩ := Exs.chk_cons h
   rw [Exs.any2, Bool.or_eq_true] at hp ⊢
   rcases hp with hp | hp
   · exact .inl (Ex.any2_le hPQ e deep h1 hp)
   · exact .inr (Exs.any2_le hPQ r deep h2 hp)
end
def lvL (fn : Fnc) (ws : List Bool) (k : Nat) : List Bool := ws.take k ++ (L0 fn).drop k
theorem L0_len (fn : Fnc) : (L0 fn).length = (fn.params ++ fn.vars).length := by simp [L0]
theorem lvL_len (fn : Fnc) (ws : List Bool) (k : Nat) (h1 : k ≤ ws.length) (h2 : k ≤ (fn.params ++ fn.vars).length) : (lvL fn ws k).length = (fn.params ++ fn.vars).length := by
 unfold lvL; rw [List.length_append, List.length_take, List.length_drop, L0_len]; omega
theorem lvL_set (fn : Fnc) (ws : List Bool) (k : Nat) (t : Bool) (h : ws[k]? = some t) (h2 : k < (fn.params ++ fn.vars).length) : (lvL fn ws k).set k t = lvL fn ws (k + 1) := by
 have hlt : k < ws.length := (List.getElem?_eq_some_iff.1 h).1
 have e0 : (ws.take k).length = k := by rw [List.length_take]; omega
 unfold lvL
 rw [List.set_append_right _ _ (by omega), e0, Nat.sub_self]
 obtain ⟨a, r, hd⟩ : ∃ a r, (L0 fn).drop k = a :: r := by
   cases hd : (L0 fn).drop k with
   | nil => have := congrArg List.length hd; rw [List.length_drop, L0_len] at this; simp only [List.length_nil] at this; omega
   | cons a r => exact ⟨a, r, rfl⟩
 have hr : (L0 fn).drop (k + 1) = r := by rw [← List.tail_drop, hd]; rfl
 rw [hd, hr, List.set_cons_zero, List.take_add_one, h]
 simp
theorem lvL_get (fn : Fnc) (ws : List Bool) (k j : Nat) (h : j < k) (hk : k ≤ ws.length) : (lvL fn ws k)[j]? = ws[j]? := by
 unfold lvL
 rw [List.getElem?_append_left (by rw [List.length_take]; omega), List.getElem?_take, if_pos h]
def ggL (fn : Fnc) (L : List Bool) (nm : List UInt8) : Bool := (L[posN fn nm]?).getD false
theorem told_L {x : Prg} {fn : Fnc} {L : List Bool} (hu : newB nz (rnm x.regs ++ vnm (fn.params ++ fn.vars)) = true) (hl : L.length = (fn.params ++ fn.vars).length) : Told x fn L (ggL fn L) := by
 intro nm j hk hj
 have hp := pos_of hu hj hk
 obtain ⟨v, hv, _⟩ := fk_pos hk
 have hlt := (List.getElem?_eq_some_iff.1 hv).1
 unfold ggL
 rw [← hp, List.getElem?_eq_getElem (by omega)]
 rfl
section
variable {x : Prg} {fn : Fnc} {e : Ex} {F : List UInt8 → Option Bool} {ws : List Bool} {k : Nat}
theorem lv_chk (h : e.chk x fn 1 ≠ 0) : lvR x fn e F = (false, e.chk x fn 1) := by unfold lvR; rw [if_pos h]
theorem fed_none (hF : Fed x fn ws k F) (hk : k = ws.length ∨ (k = (fn.params ++ fn.vars).length ∧ k ≤ ws.length)) (nm : List UInt8) (h : findK x fn nm = 1) : (F nm).isNone = decide (ws.length ≤ posN fn nm) := by
 obtain ⟨v, hv, _⟩ := fk_pos h
 have hlt := (List.getElem?_eq_some_iff.1 hv).1
 rw [hF nm h]
 by_cases hp : posN fn nm < k
 · rw [if_pos hp]
   have h2 : posN fn nm < ws.length := by omega
   rw [List.getElem?_eq_getElem h2]
   simp; omega
 · rw [if_neg hp]
   simp; omega
theorem lv_lack (h : e.chk x fn 1 = 0) (hF : Fed x fn ws k F) (hk : k = ws.length ∨ (k = (fn.params ++ fn.vars).length ∧ k ≤ ws.length)) (hl : e.any2 (fun s => decide (ws.length ≤ posN fn s)) = true) : lvR x fn e F = (false, 2) := by
 unfold lvR
 rw [if_neg (by rw [h]; simp), if_pos]
 exact Ex.any2_le (fun nm hn hq => by rw [fed_none hF hk nm hn]; exact hq) e 1 h hl
theorem lv_val (h : e.chk x fn 1 = 0) (hF : Fed x fn ws k F) (hk : k = ws.length ∨ (k = (fn.params ++ fn.vars).length ∧ k ≤ ws.length)) (hl : e.any2 (fun s => decide (ws.length ≤ posN fn s)) = false) :
   lvR x fn e F = if e.bd x fn (ggL fn (lvL fn ws k)) then (false, 10) else (e.sl x fn (ggL fn (lvL fn ws k)), 0) := by
 have h1 : ¬ e.any2 (fun s => (F s).isNone) = true := fun hh => by
   have := Ex.any2_le (Q := fun s => decide (ws.length ≤ posN fn s)) (fun nm hn hq => by rw [← fed_none hF hk nm hn]; exact hq) e 1 h hh
   rw [hl] at this; cases this
 have h2 : e.any2 (fun s => (F s).getD false != ggL fn (lvL fn ws k) s) = false := by
   cases hq : e.any2 (fun s => (F s).getD false != ggL fn (lvL fn ws k) s) with
   | false => rfl
   | true =>
     exfalso
     have := Ex.any2_le (Q := fun s => decide (ws.length ≤ posN fn s)) (fun nm hn hq => by
       by_cases hw : ws.length ≤ posN fn nm
       · exact decide_eq_true hw
       · exfalso
         obtain ⟨v, hv, _⟩ := fk_pos hn
         have hlt := (List.getElem?_eq_some_iff.1 hv).1
         have hpk : posN fn nm < k := by omega
         rw [hF nm hn, if_pos hpk] at hq
         unfold ggL at hq
         rw [lvL_get fn ws k _ hpk (by omega)] at hq
         simp at hq) e 1 h hq
     rw [hl] at this; cases this
 obtain ⟨e1, e2⟩ := Ex.sl_congr e h2
 unfold lvR
 rw [if_neg (by rw [h]; simp), if_neg h1, e1, e2]
end
/- Level of a program that may not be, or of no function. -/
open Go.RowKit

set_option maxRecDepth 100000 in
set_option maxHeartbeats 6400000 in
theorem level_no (x : Prg) (s : PrgP) (f : Int) (e : Ex) (pe : Option Addr) (ce mb N : Nat) (w : World) (h : x.Ok w N s.p s.q) (hN : N ≤ w.heap.size) (hc : x.regs.length ≤ s.c) (hd : x.fns.length ≤ s.d) (hm : mayR x ≠ 0) :
   Calls Tryz.prog 11 #[x.v s, .int .i64 f, e.val pe ce, .map (some mb)] w fun z w' => z = .returned (.tuple #[.bool false, .int .i64 (mayR x : Int)]) ∧ Below w.heap.size w w' := by
 obtain ⟨p, q, c, d⟩ := s
 obtain ⟨w2, hw2, k0, k1, hB2, hz2⟩ := two_alloc w (.cells #[.slice p x.regs.length c, .slice q x.fns.length d] 25) (.cells #[.int .i64 e.op, .int .u64 (e.word : Int), .string (str e.name), .slice pe e.args.len ce] 40)
 have HMy := Lib.hid (may_any x ⟨p, q, c, d⟩ N w2 (h.later (hB2.mono hN) (Nat.le_refl N)) (by omega) hc hd)
 have p0 : w2.cell? ⟨w.heap.size, 0, none⟩ = some (.slice p x.regs.length c) := cell_blk k0 rfl
 have p1 : w2.cell? ⟨w.heap.size, 1, none⟩ = some (.slice q x.fns.length d) := cell_blk k0 rfl
 have HB2 := Lib.hid hB2
 have HW2 := Lib.hid hw2
 have hne : ((mayR x : Int) != 0) = true := by simp; omega
 generalize mayR x = m at *
 unfold Prg.v at HMy ⊢
 unfold Ex.val
 dsimp only at HMy ⊢
 clear h hN hc hd hw2 k0 k1 hB2 hz2 hm
 go_enter Tryz.func11, Tryz.ntmps11
 go_wp2_with fail
 erw [HW2.out]
 refine HMy.out.mono ?_
 rintro z w3 ⟨rfl, hB3⟩
 have HY := Lib.hid (HB2.out.trans (hB3.mono HB2.out.size))
 clear hB3 HMy p0 p1
 go_wp2_with fail
 go_ret2
 exact ⟨rfl, HY.out⟩
set_option maxRecDepth 100000 in
set_option maxHeartbeats 6400000 in
theorem level_out (x : Prg) (s : PrgP) (f : Int) (e : Ex) (pe : Option Addr) (ce mb N : Nat) (w : World) (h : x.Ok w N s.p s.q) (hN : N ≤ w.heap.size) (hc : x.regs.length ≤ s.c) (hd : x.fns.length ≤ s.d) (hm : mayR x = 0) (hf : f < 0 ∨ (x.fns.length : Int) ≤ f) :
   Calls Tryz.prog 11 #[x.v s, .int .i64 f, e.val pe ce, .map (some mb)] w fun z w' => z = .returned (.tuple #[.bool false, .int .i64 2]) ∧ Below w.heap.size w w' := by
 obtain ⟨p, q, c, d⟩ := s
 obtain ⟨w2, hw2, k0, k1, hB2, hz2⟩ := two_alloc w (.cells #[.slice p x.regs.length c, .slice q x.fns.length d] 25) (.cells #[.int .i64 e.op, .int .u64 (e.word : Int), .string (str e.name), .slice pe e.args.len ce] 40)
 have HMy := Lib.hid (may_any x ⟨p, q, c, d⟩ N w2 (h.later (hB2.mono hN) (Nat.le_refl N)) (by omega) hc hd)
 have HP := Lib.hid (fun (W : World) (hW : Below w2.heap.size w2 W) => show W.cell? ⟨w.heap.size, 0, none⟩ = some (.slice p x.regs.length c) ∧ W.cell? ⟨w.heap.size, 1, none⟩ = some (.slice q x.fns.length d) from
   have a0 := (hW.block _ (lt_blk k0)).trans k0
   ⟨cell_blk a0 rfl, cell_blk a0 rfl⟩)
 obtain ⟨p0, p1⟩ := HP.out w2 (Below.refl _ _)
 have HB2 := Lib.hid hB2
 have HW2 := Lib.hid hw2
 rw [hm] at HMy
 unfold Prg.v at HMy ⊢
 unfold Ex.val
 dsimp only at HMy ⊢
 clear h hN hc hd hw2 k0 k1 hB2 hz2 hm
 go_enter Tryz.func11, Tryz.ntmps11
 go_wp2_with fail
 erw [HW2.out]
 refine HMy.out.mono ?_
 rintro z w3 ⟨rfl, hB3⟩
 have HY := Lib.hid (HB2.out.trans (hB3.mono HB2.out.size))
 clear HMy p0 p1
 obtain ⟨p0, p1⟩ := HP.out w3 hB3
 clear hB3
 by_cases h0 : f < 0
 · clear hf
   go_wp2_with fail
   go_ret2
   exact ⟨rfl, HY.out⟩
 · have h1 : (x.fns.length : Int) ≤ f := by omega
   clear hf
   go_wp2_with fail
   go_ret2
   exact ⟨rfl, HY.out⟩
end Go.Proofs.YtihmibggonffdaaGreat
