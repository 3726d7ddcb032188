/- A program's lines, as an iterator hands them on. -/
import Derived.Test.YtkjhofnkgcjcoaaDoorP38
import Derived.Test.YtkjhofnkgcjcoaaDoorP15
namespace Go.Proofs.YtkjhofnkgcjcoaaDoor
open Go.RowKit
attribute [local go_sem] Oper.semAt_some

theorem Prg.lines_eq (rg : List Rgn) (fs : List Fnc) : (Prg.mk rg fs).lines = rg.map (fun r => (0, r.line)) ++ fs.flatMap Fnc.lines := rfl
set_option maxRecDepth 100000 in
set_option maxHeartbeats 6400000 in
theorem programLines1_all (x : Prg) (p q : Option Addr) (c d bp n : Nat) (w0 wx : World) (hm : x.may = true) (hfit : x.fit) (hps : ∀ f ∈ x.fns, f.params.length ≤ 1000000) (hlen : ∀ y ∈ x.lines, y.2.length ≤ 1000000) (hok : x.Ok w0 w0.heap.size p q) (hG0 : Glob w0) :
    SeqOwn (fun A => Below w0.heap.size w0 A ∧ A.heap[bp]? = some (.cells #[.slice p x.regs.length c, .slice q x.fns.length d] 43 (0, 0))) Fence.wide n Tryd.prog 39 #[.pointer (some ⟨bp, 0, none⟩)] encL x.lines wx := by
  intro l J Jx W hW hJ hJx hG hY h0
  refine callsIn_wide.2 ?_
  obtain ⟨M, hM⟩ : ∃ M, M = n - 1 := ⟨_, rfl⟩
  obtain ⟨L, hL⟩ : ∃ L, L = x.lines := ⟨_, rfl⟩
  have E : FnEnv l M W.heap.size w0 L (fun k A => J k A ∧ W.heap.size ≤ A.heap.size) Jx :=
    { gl := hG0
      mv := fun k A B h hAB => ⟨hJ k A B h.1 hAB, Nat.le_trans h.2 hAB.bel.size⟩
      mx := hJx
      bel := fun k A h => (hG k A h.1).1
      hn := fun k A h => h.2
      yl := fun k y W1 hx hj => by
        obtain ⟨fn, tmps, assign, body, hy, hR⟩ := jj_of (hY k y W1 (by rw [← hL]; exact hx) hj.1)
        refine ⟨fn, tmps, assign, body, hy, (by rw [hM]; exact hR.mono (by
          rintro e w ⟨v, rfl, hjj, hU⟩
          refine ⟨v, rfl, ?_, hU⟩
          rcases hjj with ⟨rfl, h⟩ | ⟨rfl, h⟩
          · exact .inl ⟨rfl, h, Nat.le_trans hj.2 hU.size⟩
          · exact .inr ⟨rfl, h⟩))⟩ }
  have HE := Lib.hid E
  clear hM
  have HG := Lib.hid (fun k A (h : J k A) => (hG k A h).2)
  have HJ0 : Hid (J 0 W ∧ W.heap.size ≤ W.heap.size) := Lib.hid ⟨h0, Nat.le_refl _⟩
  obtain ⟨rg, fs⟩ := x
  simp only [] at HG
  rw [Prg.lines_eq] at hL hlen
  rw [Prg.lines_eq, ← hL]
  unfold Prg.may at hm
  simp only [Bool.and_eq_true] at hm
  have HMr := Lib.hid (List.all_eq_true.1 hm.1)
  have HMf := Lib.hid (List.all_eq_true.1 hm.2)
  have HFr := Lib.hid hfit.1
  have HFf := Lib.hid hfit.2
  have HPs := Lib.hid hps
  have S1 := Lib.hid hok.1
  have S2 := Lib.hid hok.2
  have hr63 : rg.length ≤ 140737488355328 := hok.1.1
  have hf63 : fs.length ≤ 140737488355328 := hok.2.1
  have HLn := Lib.hid hlen
  have HSg : Hid (Seg L 0 (rg.map (fun r => (0, r.line)) ++ fs.flatMap Fnc.lines)) := Lib.hid (by rw [← hL]; exact Seg.all _)
  have HLL := Lib.hid (show L.length = rg.length + (fs.flatMap Fnc.lines).length by rw [hL, List.length_append, List.length_map])
  have hGc := HG.out 0 W h0
  clear hJ hJx hG hY h0 hW E hL hlen hm hfit hps hok
  show Calls Tryd.prog 39 #[.func (.yield l) #[] #[], .pointer (some ⟨bp, 0, none⟩)] W _
  have c0 : W.cell? ⟨bp, 0, none⟩ = some (.slice p rg.length c) := cell_block hGc rfl
  go_enter Tryd.func39, Tryd.ntmps39
  go_wp2_with fail
  clear c0 hGc
  go_loopw [9] (fun i wr => ∃ (k : Nat) (r : List Rgn), i = .int .i64 k ∧ k + r.length = rg.length ∧ Hid (∀ v ∈ r, v ∈ rg) ∧ Hid (∀ b o, p = some ⟨b, o, none⟩ → Row (Rgn.At w0) 4 rg b o → Row (Rgn.At w0) 4 r b (o + k * 4)) ∧ Hid (Seg L k (r.map (fun r => (0, r.line)) ++ fs.flatMap Fnc.lines)) ∧ Hid (J k wr ∧ W.heap.size ≤ wr.heap.size)) (fun i _ => rg.length - (intOf i).toNat)
  case atStart => exact ⟨0, rg, rfl, by omega, Lib.hid fun v h => h, Lib.hid fun b o _ h => by rw [Nat.zero_mul]; exact h, HSg, HJ0⟩
  case round =>
    obtain ⟨k, r, rfl, hk, hmem, hat, hS, hj⟩ := hrel
    cases r with
    | cons v r =>
      simp only [List.length_cons] at hk
      have hlt : k < rg.length := by omega
      obtain ⟨bv, ov, rfl, hbv, hA⟩ : ∃ b o, p = some ⟨b, o, none⟩ ∧ b < w0.heap.size ∧ Row (Rgn.At w0) 4 rg b o := by
        rcases S1.out.2 with h0 | h0
        · omega
        · exact h0
      obtain ⟨hx, hr⟩ := hat.out bv ov rfl hA
      have HR := Lib.hid hr
      have hBw := HE.out.bel _ _ hj.out
      obtain ⟨g0, g1, g2, g3⟩ := Rgn.At.later hBw v bv _ hbv hx
      have hv := hmem.out v (by simp)
      have hsg := hS.out
      rw [List.map_cons, List.cons_append] at hsg
      obtain ⟨hvs, hdv⟩ : ∃ k, str v.line = k := ⟨_, rfl⟩
      have HVL := Lib.hid (fun (w1 : World) (hB : Below w0.heap.size w0 w1) => regionLine_any v (HMr.out v hv) (HFr.out v hv) w1 (HE.out.gl.later hB) (HLn.out (0, v.line) (List.mem_append_left _ (List.mem_map.2 ⟨v, hv, rfl⟩))))
      rw [hdv] at HVL
      have hylv : encL (0, v.line) = #[.int .i64 0, .string hvs] := by rw [← hdv]; rfl
      have HLv := Lib.hid hsg.head
      have HsgT := Lib.hid hsg.tail
      have hbvw : bv < wr.heap.size := Nat.lt_of_lt_of_le hbv hBw.size
      have hk1 : k + 1 ≤ L.length := by have := hsg.len; rw [List.length_cons] at this; omega
      clear hdv hx hr hA hsg hS hat
      go_upto_region 3 with fail
      obtain ⟨wA, hwA⟩ : ∃ wA, wr.alloc (.cells #[.string (str v.name), .int .i64 v.addr, .int .i64 v.size, .bool v.secret] 81) = wA := ⟨_, rfl⟩
      have hBA : Below wr.heap.size wr wA := by rw [← hwA]; exact (Below.refl _ _).alloc (Nat.le_refl _) _
      have k6 : wA.heap[wr.heap.size]? = some (.cells #[.string (str v.name), .int .i64 v.addr, .int .i64 v.size, .bool v.secret] 81 (0, 0)) := by rw [← hwA]; exact heap_alloc_new wr _
      have v0 : wA.cell? ⟨wr.heap.size, 0, none⟩ = some (.string (str v.name)) := cell_block k6 rfl
      have v1 : wA.cell? ⟨wr.heap.size, 1, none⟩ = some (.int .i64 v.addr) := cell_block k6 rfl
      have v2 : wA.cell? ⟨wr.heap.size, 2, none⟩ = some (.int .i64 v.size) := cell_block k6 rfl
      have v3 : wA.cell? ⟨wr.heap.size, 3, none⟩ = some (.bool v.secret) := cell_block k6 rfl
      rw [hwA]
      have HJA := Lib.hid (HE.out.fwd hj.out hBA)
      clear hwA k6 hBA g0 g1 g2 g3 hj
      refine (wpIn_wide (n := M + 1)).1 ?_
      gi_wp2_with fail
      refine ⟨trivial, ?_⟩
      refine (callsIn_wide.2 (HVL.out wA (HE.out.bel _ _ HJA.out))).mono ?_
      rintro z w2 ⟨rfl, hB2⟩
      obtain ⟨fn, tmps, assign, body, hy, hR⟩ := HE.out.yl k _ w2 HLv.out (HE.out.fwd HJA.out hB2)
      rw [hylv] at hy
      clear v0 v1 v2 v3 hB2 HVL
      gi_wp2_with fail
      refine hR.mono ?_
      rintro z w3 ⟨v, rfl, hj, hU⟩
      clear hU hy hR
      rcases hj with ⟨rfl, hj⟩ | ⟨rfl, hj⟩
      · have HJ3 := Lib.hid hj
        clear hj
        gi_wp2_with fail
        go_wp2_with fail
        go_roundw
        case rel => exact ⟨k + 1, r, by go_num, by omega, Lib.hid fun x hx => hmem.out x (List.mem_cons_of_mem _ hx), Lib.hid fun b' o' e' _ => by cases e'; rw [show ov + (k + 1) * 4 = ov + k * 4 + 4 by omega]; exact HR.out, HsgT, HJ3⟩
        case measure => simp [intOf]; omega
      · have HX := Lib.hid hj
        clear hj
        gi_wp2_with fail
        go_wp2_with fail
        refine bodyPost_ret (results_none rfl _ _ _) rfl ?_
        exact ⟨⟨_, rfl⟩, .inr ⟨k + 1, hk1, HX.out⟩⟩
    | nil =>
      simp only [List.length_nil, Nat.add_zero] at hk
      subst hk
      have hge : ¬ rg.length < rg.length := by omega
      have hsg := hS.out
      rw [List.map_nil, List.nil_append] at hsg
      have HSg2 := Lib.hid hsg
      have hGc := HG.out _ _ hj.out.1
      have c1 : wr.cell? ⟨bp, 1, none⟩ = some (.slice q fs.length d) := cell_block hGc rfl
      clear hsg hGc hS hat
      go_wp2_with fail
      clear c1
      go_loopw [22] (fun i w2 => ∃ (k e : Nat) (r : List Fnc), i = .int .i64 k ∧ k + r.length = fs.length ∧ Hid (∀ v ∈ r, v ∈ fs) ∧ Hid (∀ b o, q = some ⟨b, o, none⟩ → Row (Fnc.At w0 w0.heap.size) 5 fs b o → Row (Fnc.At w0 w0.heap.size) 5 r b (o + k * 5)) ∧ Hid (Seg L e (r.flatMap Fnc.lines) ∧ e + (r.flatMap Fnc.lines).length = L.length) ∧ Hid (J e w2 ∧ W.heap.size ≤ w2.heap.size)) (fun i _ => fs.length - (intOf i).toNat)
      case atStart => exact ⟨0, rg.length, fs, rfl, by omega, Lib.hid fun v h => h, Lib.hid fun b o _ h => by rw [Nat.zero_mul]; exact h, Lib.hid ⟨HSg2.out, by rw [HLL.out]⟩, hj⟩
      case round =>
        obtain ⟨k2, e, r, rfl, hk2, hmem2, hat2, hS2, hj2⟩ := hrel
        cases r with
        | nil =>
          simp only [List.length_nil, Nat.add_zero] at hk2
          have hge2 : ¬ k2 < fs.length := by omega
          have he : e = L.length := by have := hS2.out.2; simpa using this
          go_wp2_with fail
          go_end0
          subst he
          exact ⟨⟨_, rfl⟩, .inl hj2.out.1⟩
        | cons f r =>
          simp only [List.length_cons] at hk2
          have hlt2 : k2 < fs.length := by omega
          obtain ⟨bf, of, rfl, hbf, hA⟩ : ∃ b o, q = some ⟨b, o, none⟩ ∧ b < w0.heap.size ∧ Row (Fnc.At w0 w0.heap.size) 5 fs b o := by
            rcases S2.out.2 with h0 | h0
            · omega
            · exact h0
          obtain ⟨hx, hr⟩ := hat2.out bf of rfl hA
          have HR := Lib.hid hr
          have hfm := hmem2.out f (by simp)
          obtain ⟨hsg, htt⟩ := hS2.out
          rw [List.flatMap_cons] at hsg htt
          have HF := Lib.hid (showFunc_any HE.out f bf (of + k2 * 5) e hbf hx (HMf.out f hfm) (HFf.out f hfm) (HPs.out f hfm) (fun y hy => HLn.out y (List.mem_append_right _ (List.mem_flatMap.2 ⟨f, hfm, hy⟩))) hsg.left wr hj2.out)
          have HsgT := Lib.hid (show Seg L (e + f.lines.length) (r.flatMap Fnc.lines) ∧ e + f.lines.length + (r.flatMap Fnc.lines).length = L.length from ⟨hsg.right, by rw [List.length_append] at htt; omega⟩)
          have hGc := HG.out _ _ hj2.out.1
          have c1 : wr.cell? ⟨bp, 1, none⟩ = some (.slice (some ⟨bf, of, none⟩) fs.length d) := cell_block hGc rfl
          clear hx hr hA hsg htt hS2 hGc hat2
          go_wp2_with fail
          refine HF.out.mono ?_
          rintro z w3 ⟨v, rfl, hs⟩
          have HS := Lib.hid hs
          clear hs c1
          rcases HS.out with ⟨rfl, h⟩ | ⟨rfl, h⟩
          · have HJ3 := Lib.hid h
            clear h
            go_wp2_with fail
            go_roundw
            case rel => exact ⟨k2 + 1, e + f.lines.length, r, by go_num, by omega, Lib.hid fun x hx => hmem2.out x (List.mem_cons_of_mem _ hx), Lib.hid fun b' o' e' _ => by cases e'; rw [show of + (k2 + 1) * 5 = of + k2 * 5 + 5 by omega]; exact HR.out, HsgT, HJ3⟩
            case measure => simp [intOf]; omega
          · have HX := Lib.hid h
            clear h
            go_wp2_with fail
            refine bodyPost_ret (results_none rfl _ _ _) rfl ?_
            exact ⟨⟨_, rfl⟩, .inr HX.out⟩
end Go.Proofs.YtkjhofnkgcjcoaaDoor
