/- The lines of a function f without anything, shown one by one. -/
import Derived.Test.YtkjhofnkgcjcoaaDoorP13
namespace Go.Proofs.YtkjhofnkgcjcoaaDoor
open Go.RowKit
attribute [local go_sem] Oper.semAt_some

theorem YieldAt.wide {M M' : Nat} {P : Program} {l : Nat} {args : Array Value} {W : World} {R : Ending → World → Prop} (h : YieldAt Fence.wide M P l args W R) : YieldAt Fence.wide M' P l args W R := by
  obtain ⟨fn, tmps, assign, body, hy, hR⟩ := h
  exact ⟨fn, tmps, assign, body, hy, hR.1, fun c cs _ => hR.2 c cs (room_wide _)⟩
/-- the two lines -/
def lf : List (Nat × List UInt8) := [(0, [102, 110, 32, 102, 40, 41, 32, 123]), (0, [125])]

theorem buf_fn (c : Array Value) (fr : Nat × Nat) : ¬ isBuf (.cells c 94 fr) := by intro h; rcases h with h | h <;> exact absurd h (by decide)
theorem buf_bool (c : Array Value) (fr : Nat × Nat) : ¬ isBuf (.cells c 4 fr) := by intro h; rcases h with h | h <;> exact absurd h (by decide)
theorem buf_stmts (c : Array Value) (fr : Nat × Nat) : ¬ isBuf (.cells c 33 fr) := by intro h; rcases h with h | h <;> exact absurd h (by decide)
theorem enc_l0 : encL (0, [102, 110, 32, 102, 40, 41, 32, 123]) = #[.int .i64 0, .string ⟨#[102, 110, 32, 102, 40, 41, 32, 123]⟩] := rfl
theorem enc_l1 : encL (0, [125]) = #[.int .i64 0, .string ⟨#[125]⟩] := rfl
theorem lf_0 : lf[0]? = some (0, [102, 110, 32, 102, 40, 41, 32, 123]) := rfl
theorem lf_1 : lf[1]? = some (0, [125]) := rfl

/-- what a line's showing leaves -/
def JJ (J Jx : Nat → World → Prop) (v : Bool) (k : Nat) (W : World) : Prop := (v = true ∧ J k W) ∨ (v = false ∧ Jx k W)
theorem jj_of {J Jx : Nat → World → Prop} {k N : Nat} {W1 : World} {F : Fence} {M l : Nat} {P : Program} {args : Array Value} (h : YieldAt F M P l args W1 fun e W' => ((e = .returned (.bool true) ∧ J k W') ∨ (e = .returned (.bool false) ∧ Jx k W')) ∧ Up N W1 W') :
    YieldAt F M P l args W1 fun e W' => ∃ v, e = .returned (.bool v) ∧ JJ J Jx v k W' ∧ Up N W1 W' := by
  obtain ⟨fn, tmps, assign, body, hy, hR⟩ := h
  refine ⟨fn, tmps, assign, body, hy, hR.mono ?_⟩
  rintro e w ⟨(⟨rfl, h⟩ | ⟨rfl, h⟩), hU⟩
  · exact ⟨_, rfl, .inl ⟨rfl, h⟩, hU⟩
  · exact ⟨_, rfl, .inr ⟨rfl, h⟩, hU⟩

/-- what the first line's showing leaves -/
def Post1 (J Jx : Nat → World → Prop) (b l n3 N : Nat) (w1 : World) : Exit → Act → World → Prop
  | .normal, a, W => ∃ v w2, a = { tmps := #[.pointer (some ⟨b, 0, none⟩), .func (.yield l) #[] #[], undef, .pointer (some ⟨n3, 0, none⟩), .pointer (some ⟨n3 + 1, 0, none⟩), undef, undef, undef, undef, .func (.yield l) #[] #[], .pointer (some ⟨b, 0, none⟩), .string ⟨#[102, 110, 32, 102, 40, 41, 32, 123]⟩, .bool v, .bool (!v), undef, undef, undef, undef, undef, undef, undef, undef, undef, undef, undef, undef, undef, undef, undef, undef, undef, undef, undef, undef, undef, undef, undef, undef, undef, undef, undef, undef, undef, undef], defers := [] } ∧ Below w1.heap.size w1 w2 ∧ JJ J Jx v 1 W ∧ Up N w2 W
  | _, _, _ => False

set_option maxRecDepth 100000 in
set_option maxHeartbeats 3200000 in
theorem showFunc_f (b l : Nat) (J Jx : Nat → World → Prop) (N M : Nat) (w : World) (hN : N ≤ w.heap.size) (hJ : ∀ k A B, J k A → Rn N A B → J k B) (hJx : ∀ k A B, Jx k A → Rn N A B → Jx k B) (hJF : ∀ k A, J k A → FnAt A b)
    (hY : ∀ k x W1, lf[k]? = some x → J k W1 → YieldAt Fence.wide M Tryd.prog l (encL x) W1 fun e W' => ((e = .returned (.bool true) ∧ J (k + 1) W') ∨ (e = .returned (.bool false) ∧ Jx (k + 1) W')) ∧ Up N W1 W') (h0 : J 0 w) :
    Calls Tryd.prog 41 #[.pointer (some ⟨b, 0, none⟩), .func (.yield l) #[] #[]] w fun e w' => (e = .returned (.bool true) ∧ J 2 w') ∨ (e = .returned (.bool false) ∧ ∃ k, k ≤ 2 ∧ Jx k w') := by
  have HJ := Lib.hid hJ
  have HJx := Lib.hid hJx
  have HJF := Lib.hid hJF
  have HY := Lib.hid (fun k x W1 hx hj => jj_of (hY k x W1 hx hj))
  have HJ0 := Lib.hid h0
  clear hJ hJx hJF hY h0
  refine (callsIn_wide (n := M + 1)).1 ?_
  refine callsIn_of_wp_marks Tryd.func41 rfl trivial ?_ rfl
  simp only [Tryd.ntmps41, List.size_toArray, List.length_cons, List.length_nil, Nat.reduceAdd, Nat.reduceSub, Array.replicate_succ, Array.replicate_zero, List.push_toArray, List.append_toArray, List.nil_append, List.cons_append]
  gi_wp2_with fail
  obtain ⟨w1, hw1⟩ : ∃ w1, (w.alloc (.cells #[.func (.yield l) #[] #[]] 94)).alloc (.cells #[.bool false] 4) = w1 := ⟨_, rfl⟩
  have HB1 := Lib.hid (show Below w.heap.size w w1 by rw [← hw1]; exact ((Below.refl _ w).alloc (Nat.le_refl _) _).alloc (by simp) _)
  have k3 : w1.heap[w.heap.size]? = some (.cells #[.func (.yield l) #[] #[]] 94 (0, 0)) := by
    rw [← hw1, Below.heap_alloc _ _ _ (by simp)]; exact heap_alloc_new w _
  have k4 : w1.heap[w.heap.size + 1]? = some (.cells #[.bool false] 4 (0, 0)) := by
    rw [← hw1]; have := heap_alloc_new (w.alloc (.cells #[.func (.yield l) #[] #[]] 94)) (.cells #[.bool false] 4); simpa using this
  rw [hw1]
  have HN1 := Lib.hid (Nat.le_trans hN HB1.out.size)
  generalize hn3 : w.heap.size = n3 at *
  have c3 := cell_of_one k3
  have HK3 := Lib.hid k3
  have HK4 := Lib.hid k4
  have HJ1 := Lib.hid (HJ.out 0 _ _ HJ0.out (Rn.of_below (hn3.symm ▸ HB1.out) (hn3.symm ▸ hN)))
  have hf := Lib.hid (fun (W : World) (h : FnAt W b) => funcLine_f b W h)
  clear hw1 k3 k4
  have HJD := Lib.hid (HJ.out 0 w1 w1.drew HJ1.out ⟨(Below.refl _ w1).drew, fun _ _ h _ => h⟩)
  have HFD := Lib.hid (show FnAt w1.drew b from HJF.out 0 w1 HJ1.out)
  gi_wp2_with fail
  refine wpIn_mono (Q := Post1 J Jx b l n3 N w1.drew) ?_ ?_
  · gi_region_with (first
    | (refine ⟨trivial, ?_⟩; gi_at_call 64; refine (callsIn_wide.2 (hf.out w1.drew HFD.out)).mono ?_; rintro e w2 ⟨rfl, hB2⟩; have c3 := (hB2.cell (p := ⟨n3, 0, none⟩) (lt_of_block HK3.out)).trans c3; obtain ⟨fn, tmps, assign, body, hy, hR⟩ := HY.out 0 _ w2 lf_0 (HJ.out 0 w1.drew _ HJD.out (Rn.of_below hB2 (show N ≤ w1.drew.heap.size from HN1.out))); rw [enc_l0] at hy)
    | (refine hR.mono ?_; rintro e w3 ⟨v, rfl, hj, hU⟩))
    all_goals exact ⟨v, w2, rfl, hB2, hj, hU⟩
  intro e a w3 hP
  cases e <;> try exact hP.elim
  obtain ⟨v, w2, rfl, hB2, hj, hU⟩ := hP
  · skip
    have HK3' := Lib.hid (hU.same n3 _ ((hB2.block n3 (lt_of_block HK3.out)).trans HK3.out) hN (buf_fn _ _))
    have HK4' := Lib.hid (hU.same (n3 + 1) _ ((hB2.block (n3 + 1) (lt_of_block HK4.out)).trans HK4.out) (by omega) (buf_bool _ _))
    have HNw := Lib.hid (Nat.le_trans HN1.out (Nat.le_trans (show w1.heap.size ≤ w2.heap.size from hB2.size) hU.size))
    have HV := Lib.hid hj
    clear hj hU hB2 c3 HK3 HK4 HJ0 HJ1 HJD HFD HB1 HN1
    have c4 := cell_of_one HK4'.out
    have f4 := free_of_one HK4'.out
    rcases HV.out with ⟨rfl, hj⟩ | ⟨rfl, hj⟩
    · obtain ⟨c0, c1, c2, c3, c4⟩ := (HJF.out _ _ hj).cells
      gi_wp2_with fail
      gi_loopw [19] (fun i wr => i = .int .i64 0 ∧ wr = w3) (fun _ _ => 0)
      case atStart => exact ⟨rfl, rfl⟩
      case round =>
        obtain ⟨rfl, rfl⟩ := hrel
        gi_wp2_with fail
        refine ⟨trivial, ?_⟩
        refine (callsIn_wide.2 (stmtLines0 _)).mono ?_
        rintro e w4 ⟨bx, rfl, hx, hbx, hB4⟩
        gi_wp2_with fail
        have hz4 : n3 + 1 < wr.heap.size := lt_of_block HK4'.out
        have hzz := hB4.size
        have HI := Lib.hid (show J 1 w4 ∧ w4.heap[n3]? = some (.cells #[.func (.yield l) #[] #[]] 94 (0, 0)) ∧ w4.heap[n3 + 1]? = some (.cells #[.bool false] 4 (0, 0)) from
          ⟨HJ.out _ _ _ hj (Rn.of_below hB4 HNw.out), (hB4.block n3 (by omega)).trans HK3'.out, (hB4.block (n3 + 1) hz4).trans HK4'.out⟩)
        clear c0 c1 c2 c3 c4 f4 hj HV HK3' HK4' hB4 HJF hf
        refine range_own (F := Fence.wide) rfl (by omega) (gf := 73) (lb := #[.pointer (some ⟨bx, 0, none⟩)]) rfl trivial (enters_of Tryd.func73 (by kernel_rfl) rfl)
          (stmtLines1_own bx (M + 1 - 1) (fun _ => True) w4 hx) (Below.refl _ w4) (fun _ => rfl)
          (fun _ W => J 1 W ∧ W.heap[n3]? = some (.cells #[.func (.yield l) #[] #[]] 94 (0, 0)) ∧ W.heap[n3 + 1]? = some (.cells #[.bool false] 4 (0, 0)))
          (fun _ _ _ => False) (fun _ _ _ => trivial)
          (fun k A B h hAB => ⟨HJ.out _ _ _ h.1 (hAB.mono (by have := HNw.out; omega)), (hAB.bel.block n3 (by omega)).trans h.2.1, (hAB.bel.block (n3 + 1) (by omega)).trans h.2.2⟩)
          (fun _ _ _ _ h _ => h) HI.out (fun _ _ _ => True) (fun _ _ _ _ _ _ => trivial) (fun _ _ => ⟨#[], []⟩) ?_ ?_ ?_ ?_
        · intro l k x W K hx
          simp at hx
        · intro l k x b W hx
          simp at hx
        · rintro D W hD ⟨hj, hk3, hk4⟩ hDh
          have c3 := cell_of_one hk3
          have c4 := cell_of_one hk4
          have f4 := free_of_one hk4
          obtain ⟨fn, tmps, assign, body, hy, hR⟩ := HY.out 1 _ W lf_1 hj
          rw [enc_l1] at hy
          have hlt3 := lt_of_block hk3
          have hlt4 := lt_of_block hk4
          have hltD := lt_of_block hDh
          gi_wp2_with fail
          refine hR.mono ?_
          rintro e w5 ⟨v, rfl, hj2, hU⟩
          have k4 := hU.same (n3 + 1) _ hk4 (by omega) (buf_bool _ _)
          have kD := hU.same D _ hDh (by omega) (buf_def _)
          have d4 := cell_of_one k4
          have e4 := free_of_one k4
          have HH := Lib.hid (And.intro hj2 (And.intro k4 kD))
          clear hj2 hU k4 kD c3 c4 f4 hk3 hk4 hDh hy hR hj
          gi_wp2_with fail
          obtain ⟨hj2, k4, kD⟩ := HH.out
          have hr2 := one_setCell (u := .bool v) k4
          have hs2 : Rn N w5 (w5.setCell ⟨n3 + 1, 0, none⟩ (.bool v)) := (Rn.refl _ _).setCell (p := ⟨n3 + 1, 0, none⟩) k4 (buf_bool _ _) (by show N ≤ n3 + 1; omega) _
          have hK' : (w5.setCell ⟨n3 + 1, 0, none⟩ (.bool v)).heap[D]? = some (.deferred (some [])) := (Below.heap_setCell w5 _ _ D (by show D ≠ n3 + 1; omega)).trans kD
          have hc2 : ((w5.setCell ⟨n3 + 1, 0, none⟩ (.bool v)).putObj D (.deferred none)).cell? ⟨n3 + 1, 0, none⟩ = some (.bool v) := (World.cell?_of_block (World.putObj_heap_other (by show n3 + 1 ≠ D; omega))).trans (cell_of_one hr2)
          refine ⟨by simp, .inl ⟨_, _, rfl, run_takeDeferred hK', ?_⟩⟩
          refine ⟨.bool v, by simp [results, Tryd.results41, go_sem, hc2], ?_⟩
          have hs3 := hs2.trans (rn_put (o' := .deferred (some [])) (.deferred none) (by omega) hK' (buf_def _))
          rcases hj2 with ⟨rfl, h⟩ | ⟨rfl, h⟩
          · exact .inl ⟨rfl, HJ.out _ _ _ h hs3⟩
          · exact .inr ⟨rfl, 2, by omega, HJx.out _ _ _ h hs3⟩
        · intro D c k W hD hk h
          exact h.elim
    · gi_wp2_with fail
      have cc : (w3.setCell ⟨n3 + 1, 0, none⟩ (.bool false)).cell? ⟨n3 + 1, 0, none⟩ = some (.bool false) := cell_of_one (one_setCell HK4'.out)
      refine ⟨.bool false, by simp [results, Tryd.results41, go_sem, cc], ?_⟩
      exact .inr ⟨rfl, 1, by omega, HJx.out _ _ _ hj ((Rn.refl _ _).setCell (p := ⟨n3 + 1, 0, none⟩) HK4'.out (buf_bool _ _) (by show N ≤ n3 + 1; omega) _)⟩
end Go.Proofs.YtkjhofnkgcjcoaaDoor
