/- How many lines a statement has: the law's lines. -/
import Derived.Test.YtkjhofnkgcjcoaaDoorP34
import Derived.Test.YtkjhofnkgcjcoaaDoorP19
namespace Go.Proofs.YtkjhofnkgcjcoaaDoor
open Go.RowKit
attribute [local go_sem] Oper.semAt_some

theorem neq_nil1 (q : Option Addr) (w : World) : (binOp .eql 68 (.func (.func 73) #[] #[.pointer q]) .nilFunc).run Tryd.prog w = .ok (.bool false) w := by kernel_rfl
theorem neq_nil0 (w : World) : (binOp .eql 68 (.func (.func 47) #[] #[]) .nilFunc).run Tryd.prog w = .ok (.bool false) w := by kernel_rfl
/-- a block with the cells of a statement -/
theorem st_in {w : World} {x : St} {s : StP} {g N : Nat} (hg : w.heap[g]? = some (.cells (x.cells s) 35 (0, 0))) (h : x.Ok w N s) (hN : N ≤ w.heap.size) : (Sts.cons x .nil).In w w.heap.size (some ⟨g, 0, none⟩) :=
  ⟨by simp [Sts.len], .inr ⟨g, 0, rfl, blk_lt hg, St.At.mk' (fun j v hv => by rw [Nat.zero_add]; exact blk_cell hg hv) (h.later (Below.refl _ _) hN), trivial⟩⟩
/-- a world whose blocks below lo are left out -/
def low (lo : Nat) (w : World) : World := { w with heap := w.heap.mapIdx fun i o => if i < lo then .cells #[] 0 (0, 0) else o }
theorem low_size (lo : Nat) (w : World) : (low lo w).heap.size = w.heap.size := by simp [low]
theorem low_get {lo i : Nat} {w : World} (h : lo ≤ i) : (low lo w).heap[i]? = w.heap[i]? := by
  simp only [low, Array.getElem?_mapIdx]
  cases w.heap[i]? with
  | none => rfl
  | some x => simp; intro h2; omega
theorem low_get' {lo i : Nat} {w : World} (h : i < lo) (hi : i < w.heap.size) : (low lo w).heap[i]? = some (.cells #[] 0 (0, 0)) := by
  simp only [low, Array.getElem?_mapIdx]
  rw [Array.getElem?_eq_getElem hi]
  simp [h]
theorem low_le (lo : Nat) (w : World) : LeW (low lo w) w := fun b o v hv => by
  by_cases h : lo ≤ b
  · rwa [World.cell?_of_block (w := w) (low_get h)] at hv
  · by_cases hb : b < w.heap.size
    · have := low_get' (lo := lo) (w := w) (Nat.lt_of_not_le h) hb
      simp [World.cell?, this] at hv
    · have : (low lo w).heap[b]? = none := Array.getElem?_eq_none (by rw [low_size]; omega)
      simp [World.cell?, this] at hv
/-- the blocks from lo on are as they were -/
structure AgL (lo : Nat) (w A : World) : Prop where
  os : A.os = w.os
  tape : A.tape = w.tape
  output : A.output = w.output
  size : w.heap.size ≤ A.heap.size
  block : ∀ i, lo ≤ i → i < w.heap.size → A.heap[i]? = w.heap[i]?
theorem AgL.low {lo : Nat} {w A : World} (h : AgL lo w A) : Below (YtkjhofnkgcjcoaaDoor.low lo w).heap.size (YtkjhofnkgcjcoaaDoor.low lo w) (YtkjhofnkgcjcoaaDoor.low lo A) :=
  ⟨h.os, h.tape, h.output, by rw [low_size, low_size]; exact h.size, fun i hi => by
    rw [low_size] at hi
    by_cases hl : lo ≤ i
    · rw [low_get hl, low_get hl]; exact h.block i hl hi
    · rw [low_get' (by omega) hi, low_get' (by omega) (Nat.lt_of_lt_of_le hi h.size)]⟩
theorem AgL.refl (lo : Nat) (w : World) : AgL lo w w := ⟨rfl, rfl, rfl, Nat.le_refl _, fun _ _ _ => rfl⟩
theorem AgL.below {lo : Nat} {w A B : World} (h : AgL lo w A) (hB : Below w.heap.size A B) : AgL lo w B :=
  ⟨hB.os.trans h.os, hB.tape.trans h.tape, hB.output.trans h.output, Nat.le_trans h.size hB.size, fun i hl hi => (hB.block i hi).trans (h.block i hl hi)⟩
theorem AgL.put {lo kb : Nat} {w A : World} (h : AgL lo w A) (hk : kb < lo) (v : Value) : AgL lo w (A.setCell ⟨kb, 0, none⟩ v) :=
  ⟨h.os, h.tape, h.output, by simpa [World.setCell] using h.size, fun i hl hi => (Below.heap_setCell _ _ _ _ (by show i ≠ kb; omega)).trans (h.block i hl hi)⟩
theorem lines_yes2 (l : Sts) (h6 : l.wt ≤ 1000000) (ht : l.total ≤ 100000) (p : Option Addr) (c N : Nat) (w : World) (h : l.In w N p) (hN : N ≤ w.heap.size) (hm : l.can = true) :
    Calls Tryd.prog 25 #[.slice p l.len c] w fun e w' => (∃ bx q d, e = .returned (.func (.func 73) #[] #[.pointer (some ⟨bx, 0, none⟩)]) ∧ w'.heap[bx]? = some (.cells #[.slice q l.len d] 33 (0, 0)) ∧ l.In (low w.heap.size w') w'.heap.size q) ∧ Below w.heap.size w w' := by
  have HC := Lib.hid (mayBody_any l h6 p c N w hN h)
  rw [hm] at HC
  have HP := Lib.hid (fun (w1 : World) (hB : Below w.heap.size w w1) => cpS_all _ l (Nat.lt_succ_self _) ht p c N w1 (Nat.le_trans hN hB.size) (h.later (hB.mono hN) (Nat.le_refl _)))
  clear h hm
  go_enter Tryd.func25, Tryd.ntmps25
  go_wp2_with fail
  refine HC.out.mono ?_
  rintro e w1 ⟨rfl, hB⟩
  have HB := Lib.hid hB
  clear hB
  go_wp2_with fail
  refine (HP.out _ HB.out).mono ?_
  rintro e w2 ⟨⟨q, d, rfl, hf⟩, hB2⟩
  have HF := Lib.hid hf
  have HB2 := Lib.hid (HB.out.trans (hB2.mono HB.out.size))
  clear hf hB2
  go_wp2_with fail
  refine (stmtLines_any _ _ _ _).mono ?_
  rintro e w3 ⟨bx, rfl, hx, _, hB3⟩
  have HX := Lib.hid hx
  have HB3 := Lib.hid hB3
  clear hx hB3
  go_wp2_with fail
  go_ret
  have hs1 := HB.out.size
  have hs3 := HB3.out.size
  refine ⟨⟨bx, q, d, rfl, HX.out, (HF.out (low w.heap.size w3) ⟨by rw [low_size]; exact hs3, fun k hk1 hk2 => (low_get (by omega)).trans (HB3.out.block k hk2)⟩).up hs3⟩, HB2.out.trans (HB3.out.mono HB2.out.size)⟩
set_option maxRecDepth 100000 in
set_option maxHeartbeats 6400000 in
theorem lines_main (gf : FuncId) (heg : ∀ args w, (callFunc gf args).run Tryd.prog w = .ok (.enter gf args) w) (Ls : List (Nat × List UInt8)) (x : St) (s : StP) (n : Nat) (w : World) (hG : Glob w) (h : x.Ok w w.heap.size s) (hlen : Ls.length ≤ 1000000)
    (hLn : ∀ w1 p, Below w.heap.size w w1 → (Sts.cons x .nil).In w1 w1.heap.size p → Calls Tryd.prog 25 #[.slice p 1 1] w1 fun e w' => (∃ lb, e = .returned (.func (.func gf) #[] lb) ∧ (∀ W : World, (binOp .eql 68 (.func (.func gf) #[] lb) .nilFunc).run Tryd.prog W = .ok (.bool false) W) ∧ ∀ n W, Below w'.heap.size w' W → SeqOwn (fun A => AgL w1.heap.size w' A ∧ Glob A) Fence.wide n Tryd.prog gf lb encL Ls W) ∧ Below w1.heap.size w1 w') :
    Calls Tryd.prog 10 #[x.val s, .int .i64 (n : Int)] w fun e w' => e = .returned (.bool (decide (Ls.length = n))) ∧ Below w.heap.size w w' := by
  obtain ⟨W1, hW1, k1, hB1, hs1⟩ := one_new w (.cells (x.cells s) 35 (0, 0))
  obtain ⟨W2, hW2, k2, hB2, hs2⟩ := one_new W1 (.cells #[.int .i64 0] 3 (0, 0))
  obtain ⟨W3, hW3, k3, hB3, hs3⟩ := one_new W2 (.cells (x.cells s) 35 (0, 0))
  have hB13 := hB1.trans ((hB2.trans (hB3.mono (by omega))).mono (by omega))
  have e2 : W2.heap.size = w.heap.size + 1 + 1 := by rw [hs2, hs1]
  have HL := hLn W3 (some ⟨W2.heap.size, 0, none⟩) hB13 (st_in k3 (h.later hB13 (Nat.le_refl _)) (by omega))
  rw [e2] at HL
  replace HL := Lib.hid HL
  have kk3 := (hB3.block _ (blk_lt k2)).trans k2
  rw [hs1] at kk3
  have HK := Lib.hid (show W3.heap[w.heap.size + 1]? = some (.cells #[.int .i64 0] 3 (0, 0)) ∧ Below w.heap.size w W3 ∧ w.heap.size + 1 < W3.heap.size ∧ w.heap.size ≤ w.heap.size + 1 from ⟨kk3, hB13, by omega, by omega⟩)
  have HW := Lib.hid (And.intro hW1 (And.intro hW2 hW3))
  have HGl := Lib.hid (fun (A : World) (hb : Below w.heap.size w A) => hG.later hb)
  clear hLn h k1 k2 k3 hB1 hB2 hB3 hB13 kk3 hW1 hW2 hW3 hs1 hs2 hs3 hG e2
  unfold St.val
  unfold St.cells at HW ⊢
  refine (callsIn_wide (n := 4)).1 ?_
  refine callsIn_of_wp_marks Tryd.func10 rfl trivial ?_ rfl
  simp only [Tryd.ntmps10, List.size_toArray, List.length_cons, List.length_nil, Nat.reduceAdd, Nat.reduceSub, Array.replicate_succ, Array.replicate_zero, List.push_toArray, List.append_toArray, List.nil_append, List.cons_append]
  gi_wp2_with fail
  rw [HW.out.1, HW.out.2.1, HW.out.2.2]
  clear HW
  refine ⟨trivial, ?_⟩
  refine (callsIn_wide.2 HL.out).mono ?_
  rintro e w4 ⟨⟨lb, rfl, hne, hseq⟩, hB4⟩
  have HSeq := Lib.hid hseq
  have neq := hne
  have k4 := (hB4.block _ HK.out.2.2.1).trans HK.out.1
  have hz4 := hB4.size
  have HI := Lib.hid (show Below w.heap.size w w4 ∧ AgL W3.heap.size w4 w4 ∧ w4.heap[w.heap.size + 1]? = some (.cells #[.int .i64 ((0 : Nat) : Int)] 3 (0, 0)) from ⟨HK.out.2.1.trans (hB4.mono HK.out.2.1.size), AgL.refl _ _, k4⟩)
  have HZ := Lib.hid (show w.heap.size ≤ w.heap.size + 1 ∧ w.heap.size + 1 < W3.heap.size ∧ W3.heap.size ≤ w4.heap.size from ⟨HK.out.2.2.2, HK.out.2.2.1, hz4⟩)
  clear hne hseq hB4 k4 hz4 HL HK
  generalize W3.heap.size = lo at *
  gi_wp2_with fail
  clear neq
  refine range_own (F := Fence.wide) rfl (by omega) (gf := gf) (lb := lb) rfl trivial heg
    (HSeq.out (4 - 1) w4 (Below.refl _ _)) (Below.refl _ w4) (fun _ => rfl)
    (fun k W => Below w.heap.size w W ∧ AgL lo w4 W ∧ W.heap[w.heap.size + 1]? = some (.cells #[.int .i64 (k : Int)] 3 (0, 0)))
    (fun _ _ _ => False) (fun k A h => ⟨h.2.1, HGl.out A h.1⟩)
    (fun k A B h hAB => ⟨h.1.trans (hAB.bel.mono (by have := HZ.out; omega)), h.2.1.below hAB.bel, (hAB.bel.block _ (by have := HZ.out; omega)).trans h.2.2⟩)
    (fun _ _ _ _ h _ => h) HI.out (fun _ _ _ => True) (fun _ _ _ _ _ _ => trivial) ?_ ?_ ?_ ?_ ?_
  rotate_left
  · intro l' k y W K hx hi hW hK
    simp only [encL]
    simp only [List.zip_toArray, List.zip_cons_cons, List.zip_nil_left]
    gi_wp2_with fail
    obtain ⟨bb, _⟩ : ∃ bb : Nat, bb = 0 := ⟨_, rfl⟩
    exact hK bb _ (Below.refl _ _) trivial
  · intro l' k y bb W hx hi hA hW
    have hkl : k < Ls.length := (List.getElem?_eq_some_iff.1 hx).1
    obtain ⟨hb, ha, ko⟩ := hi
    have c5 := cell_of_one ko
    have f5 := free_of_one ko
    have hwr : IntKind.i64.wrap ((k : Int) + 1) = ((k + 1 : Nat) : Int) := by simp [IntKind.wrap, IntKind.bits, IntKind.signed]; omega
    have HF := Lib.hid (show Up w4.heap.size W (W.setCell ⟨w.heap.size + 1, 0, none⟩ (.int .i64 ((k + 1 : Nat) : Int))) ∧ Below w.heap.size w (W.setCell ⟨w.heap.size + 1, 0, none⟩ (.int .i64 ((k + 1 : Nat) : Int))) ∧ AgL lo w4 (W.setCell ⟨w.heap.size + 1, 0, none⟩ (.int .i64 ((k + 1 : Nat) : Int))) ∧ (W.setCell ⟨w.heap.size + 1, 0, none⟩ (.int .i64 ((k + 1 : Nat) : Int))).heap[w.heap.size + 1]? = some (.cells #[.int .i64 ((k + 1 : Nat) : Int)] 3 (0, 0)) from
      ⟨(Up.refl _ _).setCell (by have := HZ.out; show w.heap.size + 1 < _; omega) _, hb.setCell (p := ⟨w.heap.size + 1, 0, none⟩) HZ.out.1 _, ha.put HZ.out.2.1 _, one_setCell ko⟩)
    clear hb ha ko hx hA
    gi_wp2_with fail
    exact ⟨HF.out.1, HF.out.2.1, HF.out.2.2.1, HF.out.2.2.2⟩
  · rintro D W hD ⟨hb, ha, ko⟩ hDh
    have c5 := cell_of_one ko
    have hbZ : Below w.heap.size w (W.putObj D (.deferred none)) := hb.trans ⟨rfl, rfl, rfl, by simp, fun _ hk => World.putObj_heap_other (by have := HI.out.1.size; omega)⟩
    have HZZ := Lib.hid (And.intro hDh hbZ)
    have HEq := Lib.hid (show (((Ls.length : Nat) : Int) == (n : Int)) = decide (Ls.length = n) by rw [Bool.eq_iff_iff]; simp; omega)
    clear hb ha ko hDh hbZ
    gi_wp2_with fail
    refine ⟨by simp, .inl ⟨_, _, rfl, run_takeDeferred HZZ.out.1, ?_⟩⟩
    refine ⟨.bool (((Ls.length : Nat) : Int) == (n : Int)), ?_, by rw [HEq.out], HZZ.out.2⟩
    simp [results, Tryd.results10, go_sem]
  · intro D c k W hD hk h
    exact h.elim
theorem can_may' {l : Sts} (h : l.can = true) : l.may = true := by unfold Sts.can at h; simp only [Bool.and_eq_true, decide_eq_true_eq] at h; exact h.2
theorem lines_any (x : St) (s : StP) (n : Nat) (w : World) (hG : Glob w) (h : x.Ok w w.heap.size s) (h6 : (Sts.cons x .nil).wt ≤ 1000000) (ht : (Sts.cons x .nil).total ≤ 100000) (hl : (Sts.cons x .nil).can = true → ((Sts.cons x .nil).lines 0).length ≤ 1000000 ∧ ∀ y ∈ (Sts.cons x .nil).lines 0, y.2.length ≤ 1000000) :
    Calls Tryd.prog 10 #[x.val s, .int .i64 (n : Int)] w fun e w' => e = .returned (.bool (decide ((if (Sts.cons x .nil).can then ((Sts.cons x .nil).lines 0).length else 0) = n))) ∧ Below w.heap.size w w' := by
  cases hc : (Sts.cons x .nil).can with
  | false =>
    refine lines_main 47 (enters_of Tryd.func47 (by kernel_rfl) rfl) [] x s n w hG h (by simp) (fun w1 p hB hin => ?_)
    refine (lines_no _ h6 p 1 _ w1 hin (Nat.le_refl _) hc).mono ?_
    rintro e w' ⟨rfl, hB'⟩
    exact ⟨⟨#[], rfl, neq_nil0, fun n W _ => lines0_own n _ W⟩, hB'⟩
  | true =>
    have hm : (Sts.cons x .nil).may = true := can_may' hc
    have hd : (Sts.cons x .nil).deep ≤ 64 := by unfold Sts.can at hc; simp only [Bool.and_eq_true, decide_eq_true_eq] at hc; exact hc.1
    obtain ⟨hl1, hl2⟩ := hl hc
    refine lines_main 73 (enters_of Tryd.func73 (by kernel_rfl) rfl) ((Sts.cons x .nil).lines 0) x s n w hG h hl1 (fun w1 p hB hin => ?_)
    refine (lines_yes2 _ h6 ht p 1 _ w1 hin (Nat.le_refl _) hc).mono ?_
    rintro e w' ⟨⟨bx, q, d, rfl, hx, hin'⟩, hB'⟩
    refine ⟨⟨#[.pointer (some ⟨bx, 0, none⟩)], rfl, neq_nil1 _, fun n W hW => ?_⟩, hB'⟩
    refine (stmtLines1_gen (low w1.heap.size) (low_le _) (low_size _) _ q d bx n (low w1.heap.size w') W hm (by omega) hl2 (by rw [low_size]; exact hin') ((hW.block _ (lt_of_block hx)).trans hx)).mono fun A hA => ⟨hA.1.low, hA.2⟩
end Go.Proofs.YtkjhofnkgcjcoaaDoor
