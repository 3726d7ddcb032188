/- The text of a program with a function f alone. -/
import Derived.Test.YtkjhofnkgcjcoaaDoorP15
import Derived.RangeFuncCalls
import Derived.Test.YtkjhofnkgcjcoaaDoorP07
namespace Go.Proofs.YtkjhofnkgcjcoaaDoor
open Go.RowKit
attribute [local go_sem] Oper.semAt_some

/-- the text behind k lines -/
def txt : Nat → List UInt8
  | 0 => []
  | 1 => [102, 110, 32, 102, 40, 41, 32, 123, 10]
  | _ => [102, 110, 32, 102, 40, 41, 32, 123, 10, 125, 10]
theorem lf_step {k : Nat} {x : Nat × List UInt8} (h : lf[k]? = some x) : ∃ s, x = (0, s) ∧ txt (k + 1) = txt k ++ (s ++ [10]) ∧ (txt k).length + s.length + 1 ≤ 100 := by
  rcases k with _ | _ | k
  · simp [lf] at h; subst h; exact ⟨_, rfl, rfl, by decide⟩
  · simp [lf] at h; subst h; exact ⟨_, rfl, rfl, by decide⟩
  · simp [lf] at h
theorem cells_app (a b : List UInt8) : Lib.byteCells (a ++ b) = Lib.byteCells a ++ Lib.byteCells b := by simp [Lib.byteCells]
theorem str_cells (s : List UInt8) : Lib.strCells (str s) = Lib.byteCells s := by simp [Lib.strCells, Lib.byteCells, str]
theorem cells_len (a : List UInt8) : (Lib.byteCells a).length = a.length := by simp [Lib.byteCells]
theorem cells_one : Lib.byteCells [10] = [.int .u8 10] := rfl

/-- what stays while Text goes through the lines -/
structure TI (w0 : World) (bp b nb : Nat) (k : Nat) (W : World) : Prop where
  pr : PrAt W bp b
  bd : Lib.IsBuilder 66 5 nb nb (Lib.byteCells (txt k)) W
  r0 : W.heap[w0.heap.size + 1]? = some (.cells #[.string ⟨#[]⟩] 9 (0, 0))
  r1 : W.heap[w0.heap.size + 2]? = some (.cells #[.int .i64 0] 22 (0, 0))
  bw : Below w0.heap.size w0 W

set_option maxRecDepth 100000 in
set_option maxHeartbeats 3200000 in
theorem text_f (b : Nat) (w : World) (h : FnAt w b) : Calls Tryd.prog 8 #[.agg #[.slice none 0 0, .slice (some ⟨b, 0, none⟩) 1 1]] w fun e w' => e = .returned (.tuple #[.string ⟨(txt 2).toArray⟩, .int .i64 0]) ∧ Below w.heap.size w w' := by
  have hbz := lt_of_block h
  have HF := Lib.hid h
  clear h
  refine (callsIn_wide (n := 4)).1 ?_
  refine callsIn_of_wp_marks Tryd.func8 rfl trivial ?_ rfl
  simp only [Tryd.ntmps8, List.size_toArray, List.length_cons, List.length_nil, Nat.reduceAdd, Nat.reduceSub, Array.replicate_succ, Array.replicate_zero, List.push_toArray, List.append_toArray, List.nil_append, List.cons_append]
  gi_wp2_with fail
  obtain ⟨w1, hw1⟩ : ∃ w1, ((w.alloc (.cells #[.slice none 0 0, .slice (some ⟨b, 0, none⟩) 1 1] 43)).alloc (.cells #[.string ⟨#[]⟩] 9)).alloc (.cells #[.int .i64 0] 22) = w1 := ⟨_, rfl⟩
  have hB1 : Below w.heap.size w w1 := by rw [← hw1]; exact (((Below.refl _ w).alloc (Nat.le_refl _) _).alloc (by simp) _).alloc (by simp; omega) _
  have k0 : w1.heap[w.heap.size]? = some (.cells #[.slice none 0 0, .slice (some ⟨b, 0, none⟩) 1 1] 43 (0, 0)) := by
    rw [← hw1, Below.heap_alloc _ _ _ (by simp; omega), Below.heap_alloc _ _ _ (by simp)]; exact heap_alloc_new w _
  have k1 : w1.heap[w.heap.size + 1]? = some (.cells #[.string ⟨#[]⟩] 9 (0, 0)) := by
    rw [← hw1, Below.heap_alloc _ _ _ (by simp)]; have := heap_alloc_new (w.alloc (.cells #[.slice none 0 0, .slice (some ⟨b, 0, none⟩) 1 1] 43)) (.cells #[.string ⟨#[]⟩] 9); simpa using this
  have k2 : w1.heap[w.heap.size + 2]? = some (.cells #[.int .i64 0] 22 (0, 0)) := by
    rw [← hw1]; have := heap_alloc_new ((w.alloc (.cells #[.slice none 0 0, .slice (some ⟨b, 0, none⟩) 1 1] 43)).alloc (.cells #[.string ⟨#[]⟩] 9)) (.cells #[.int .i64 0] 22); simpa using this
  rw [hw1]
  have HF1 := HF.out.later hbz hB1
  have l2 := lt_of_block k2
  clear hw1
  refine ⟨trivial, ?_⟩
  refine (callsIn_wide.2 (may_f b w1 HF1)).mono ?_
  rintro e w2 ⟨rfl, hB2⟩
  have hBw2 := hB1.trans (hB2.mono (Nat.le_trans (Nat.le_add_right _ 2) (Nat.le_of_lt l2)))
  obtain ⟨w3, hw3⟩ : ∃ w3, w2.alloc (.cells #[.pointer none, .slice none 0 0] 66) = w3 := ⟨_, rfl⟩
  have hB3 : Below w2.heap.size w2 w3 := by rw [← hw3]; exact (Below.refl _ w2).alloc (Nat.le_refl _) _
  have kb : w3.heap[w2.heap.size]? = some (.cells #[.pointer none, .slice none 0 0] 66 (0, 0)) := by rw [← hw3]; exact heap_alloc_new w2 _
  have z2 := hB2.size
  have z3 := hB3.size
  have m0 := (hB3.block _ (by omega)).trans ((hB2.block _ (lt_of_block k0)).trans k0)
  have m1 := (hB3.block _ (by omega)).trans ((hB2.block _ (lt_of_block k1)).trans k1)
  have m2 := (hB3.block _ (by omega)).trans ((hB2.block _ (lt_of_block k2)).trans k2)
  have hBw3 := hBw2.trans (hB3.mono (by omega))
  have hb3 : Lib.IsBuilder 66 5 w2.heap.size w2.heap.size (Lib.byteCells (txt 0)) w3 := .inl ⟨Nat.le_refl _, _, kb, World.ownsRow_nil _ _ _ _, by simp [Value.ownBlock]⟩
  have p0 : w2.cell? ⟨w.heap.size, 0, none⟩ = some (.slice none 0 0) := by simp [World.cell?, (hB2.block _ (lt_of_block k0)).trans k0]
  have p1 : w2.cell? ⟨w.heap.size, 1, none⟩ = some (.slice (some ⟨b, 0, none⟩) 1 1) := by simp [World.cell?, (hB2.block _ (lt_of_block k0)).trans k0]
  have q0 : w3.cell? ⟨w.heap.size, 0, none⟩ = some (.slice none 0 0) := by simp [World.cell?, m0]
  have q1 : w3.cell? ⟨w.heap.size, 1, none⟩ = some (.slice (some ⟨b, 0, none⟩) 1 1) := by simp [World.cell?, m0]
  gi_wp2_with fail
  refine ⟨trivial, ?_⟩
  refine (callsIn_wide.2 (programLines_any _ _ w3)).mono ?_
  rintro e w4 ⟨bp, rfl, hbp, hbz4, hB4⟩
  have z4 := hB4.size
  have lbp := lt_of_block hbp
  have HI : Hid (TI w bp b w2.heap.size 0 w4) := Lib.hid
    { pr := ⟨HF.out.later hbz (hBw3.trans (hB4.mono (by omega))), hbp⟩
      bd := builder_rn hb3 (Rn.of_below hB4 (Nat.le_refl _))
      r0 := (hB4.block _ (by omega)).trans m1
      r1 := (hB4.block _ (by omega)).trans m2
      bw := hBw3.trans (hB4.mono (by omega)) }
  have hz : w.heap.size + 2 < w2.heap.size ∧ w2.heap.size < w4.heap.size ∧ bp < w4.heap.size ∧ b < w.heap.size := by
    have := lt_of_block kb
    exact ⟨by omega, by omega, lbp, hbz⟩
  clear k0 k1 k2 l2 z2 z3 z4 m0 m1 m2 p0 p1 q0 q1 kb hw3 hb3 hB1 hB2 hB3 hB4 hBw2 hBw3 HF1 hbp hbz4 lbp HF
  generalize w2.heap.size = nb at *
  gi_wp2_with fail
  refine range_own (F := Fence.wide) rfl (by omega) (gf := 39) (lb := #[.pointer (some ⟨bp, 0, none⟩)]) rfl trivial (enters_of Tryd.func39 (by kernel_rfl) rfl)
    (programLines1_own bp b (4 - 1) w4) (Below.refl _ w4) (fun _ => rfl)
    (fun k W => TI w bp b nb k W) (fun _ _ _ => False) (fun k A h => h.pr)
    (fun k A B h hAB => ⟨⟨(hAB.bel.block b (by omega)).trans h.pr.1, (hAB.bel.block bp (by omega)).trans h.pr.2⟩, builder_rn h.bd hAB, (hAB.bel.block _ (by omega)).trans h.r0, (hAB.bel.block _ (by omega)).trans h.r1, h.bw.trans (hAB.bel.mono (by omega))⟩)
    (fun _ _ _ _ h _ => h) HI.out (fun _ _ _ => True) (fun _ _ _ _ _ _ => trivial)
    (fun x _ => ⟨#[.agg #[.slice none 0 0, .slice (some ⟨b, 0, none⟩) 1 1], .pointer (some ⟨w.heap.size, 0, none⟩), .pointer (some ⟨w.heap.size + 1, 0, none⟩), .pointer (some ⟨w.heap.size + 1 + 1, 0, none⟩), .pointer (some ⟨nb, 0, none⟩), .int .i64 0, .string (str x.2), .agg #[.slice none 0 0, .slice (some ⟨b, 0, none⟩) 1 1], .bool true, .bool false, .agg #[.slice none 0 0, .slice (some ⟨b, 0, none⟩) 1 1], .func (.func 39) #[] #[.pointer (some ⟨bp, 0, none⟩)], .int .i64 0, .string (str x.2), undef, undef, undef, undef, undef, undef, undef, undef, undef], []⟩) ?_ ?_ ?_ ?_
  · intro l k x W K hx hi hW hK
    obtain ⟨ln, rfl, _, _⟩ := lf_step hx
    simp only [encL]
    simp only [List.zip_toArray, List.zip_cons_cons, List.zip_nil_left]
    gi_wp2_with fail
    exact hK 0 _ (Below.refl _ _) trivial
  · intro l k x bb W hx hi hA hW
    obtain ⟨ln, rfl, ht, hle⟩ := lf_step hx
    have hnW : nb ≤ W.heap.size := by omega
    have hln := size_len (str ln)
    rw [str_data] at hln
    have hcl := cells_len (txt k)
    gi_wp2_with fail
    refine ⟨trivial, ?_⟩
    refine (CallsIn.inRound l (callsIn_wide.2 (repeat0 _ W))).mono ?_
    rintro e wr ⟨rfl, rfl⟩
    gi_wp2_with fail
    refine ⟨trivial, ?_⟩
    refine (CallsIn.inRound l (callsIn_wide.2 (writeString_any nb nb (Lib.byteCells (txt k)) (str []) W hi.bd (by rw [hcl]; show (txt k).length + 0 ≤ _; omega) hnW))).mono ?_
    rintro e w5 ⟨rfl, hb5, hB5, hk5⟩
    have z5 := hB5.size
    rw [str_cells, ← cells_app] at hb5
    gi_wp2_with fail
    refine ⟨trivial, ?_⟩
    refine (CallsIn.inRound l (callsIn_wide.2 (writeString_any nb nb _ (str ln) w5 (.inr hb5) (by rw [cells_len, hln]; simp; omega) (by omega)))).mono ?_
    rintro e w6 ⟨rfl, hb6, hB6, hk6⟩
    have z6 := hB6.size
    rw [str_cells, ← cells_app] at hb6
    gi_wp2_with fail
    refine ⟨trivial, ?_⟩
    refine (CallsIn.inRound l (callsIn_wide.2 (writeByte_any nb nb _ 10 w6 (.inr hb6) (by rw [cells_len]; simp; omega) (by omega)))).mono ?_
    rintro e w7 ⟨rfl, hb7, hB7, hk7⟩
    have z7 := hB7.size
    rw [← cells_one, ← cells_app] at hb7
    have ht7 : txt k ++ [] ++ ln ++ [10] = txt (k + 1) := by rw [ht]; simp
    rw [ht7] at hb7
    have hle7 : (txt (k + 1)).length ≤ 100 := by rw [ht]; simp; omega
    have HT := Lib.hid (show Up w4.heap.size W w7 ∧ TI w bp b nb (k + 1) w7 from
      ⟨(hk5.trans (hk6.trans hk7)).up _, by
        have hB : Below nb W w7 := hB5.trans (hB6.trans hB7)
        have hk := hk5.trans (hk6.trans hk7)
        exact ⟨⟨(hB.block b (by omega)).trans hi.pr.1, hk.same _ _ hi.pr.2 (by intro h; rcases h with h | h <;> exact absurd h (by decide))⟩, .inr hb7, (hB.block _ (by omega)).trans hi.r0, (hB.block _ (by omega)).trans hi.r1, hi.bw.trans (hB.mono (by omega))⟩⟩)
    have hLen := Tryd.Builder_Len nb nb _ w7 (.inr hb7)
    rw [cells_len] at hLen
    clear hb5 hb6 hb7 hB5 hB6 hB7 hk5 hk6 hk7 ht ht7 hln hcl
    gi_wp2_with fail
    refine ⟨trivial, ?_⟩
    refine (CallsIn.inRound l (callsIn_wide.2 hLen)).mono ?_
    rintro e wr ⟨rfl, rfl⟩
    have hgt : decide ((65536 : Int) < ((txt (k + 1)).length : Int)) = false := by simp; omega
    gi_wp2_with fail
    exact HT.out
  · rintro D W hD hi hDh
    replace hi : TI w bp b nb 2 W := hi
    have lW := lt_of_block hDh
    gi_wp2_with fail
    refine ⟨trivial, ?_⟩
    refine (callsIn_wide.2 (string_any nb nb (txt 2) W hi.bd (by decide))).mono ?_
    rintro e w5 ⟨rfl, hB5, hK5⟩
    have kD := hK5.same _ _ hDh (buf_def _)
    have k1 := (hB5.block _ (by omega)).trans hi.r0
    have k2 := (hB5.block _ (by omega)).trans hi.r1
    have c1 := cell_of_one k1
    have c2 := cell_of_one k2
    have f1 := free_of_one k1
    have f2 := free_of_one k2
    have hbw := hi.bw.trans (hB5.mono (by omega))
    gi_wp2_with fail
    obtain ⟨X, hX⟩ : ∃ X, w5.setCell ⟨w.heap.size + 1, 0, none⟩ (.string ⟨(txt 2).toArray⟩) = X := ⟨_, rfl⟩
    have x1 : X.heap[w.heap.size + 1]? = some (.cells #[.string ⟨(txt 2).toArray⟩] 9 (0, 0)) := by rw [← hX]; exact one_setCell k1
    have x2 : X.heap[w.heap.size + 2]? = some (.cells #[.int .i64 0] 22 (0, 0)) := by rw [← hX]; exact (Below.heap_setCell w5 _ _ _ (by show w.heap.size + 2 ≠ w.heap.size + 1; omega)).trans k2
    have xD : X.heap[D]? = some (.deferred (some [])) := by rw [← hX]; exact (Below.heap_setCell w5 _ _ _ (by show D ≠ w.heap.size + 1; omega)).trans kD
    have hbX : Below w.heap.size w X := by rw [← hX]; exact hbw.setCell (p := ⟨w.heap.size + 1, 0, none⟩) (by show w.heap.size ≤ w.heap.size + 1; omega) _
    obtain ⟨Y, hY⟩ : ∃ Y, X.setCell ⟨w.heap.size + 1 + 1, 0, none⟩ (.int .i64 0) = Y := ⟨_, rfl⟩
    have y1 : Y.heap[w.heap.size + 1]? = some (.cells #[.string ⟨(txt 2).toArray⟩] 9 (0, 0)) := by rw [← hY]; exact (Below.heap_setCell X _ _ _ (by show w.heap.size + 1 ≠ w.heap.size + 1 + 1; omega)).trans x1
    have y2 : Y.heap[w.heap.size + 1 + 1]? = some (.cells #[.int .i64 0] 22 (0, 0)) := by rw [← hY]; exact one_setCell x2
    have yD : Y.heap[D]? = some (.deferred (some [])) := by rw [← hY]; exact (Below.heap_setCell X _ _ _ (by show D ≠ w.heap.size + 1 + 1; omega)).trans xD
    have hbY : Below w.heap.size w Y := by rw [← hY]; exact hbX.setCell (p := ⟨w.heap.size + 1 + 1, 0, none⟩) (by show w.heap.size ≤ w.heap.size + 1 + 1; omega) _
    rw [hX, hY]
    have d1 : (Y.putObj D (.deferred none)).cell? ⟨w.heap.size + 1, 0, none⟩ = some (.string ⟨(txt 2).toArray⟩) := (World.cell?_of_block (World.putObj_heap_other (by show w.heap.size + 1 ≠ D; omega))).trans (cell_of_one y1)
    have d2 : (Y.putObj D (.deferred none)).cell? ⟨w.heap.size + 1 + 1, 0, none⟩ = some (.int .i64 0) := (World.cell?_of_block (World.putObj_heap_other (by show w.heap.size + 1 + 1 ≠ D; omega))).trans (cell_of_one y2)
    have hbZ : Below w.heap.size w (Y.putObj D (.deferred none)) := hbY.trans ⟨rfl, rfl, rfl, by simp, fun _ hk => World.putObj_heap_other (by omega)⟩
    refine ⟨by simp, .inl ⟨_, _, rfl, run_takeDeferred yD, ?_⟩⟩
    refine ⟨.tuple #[.string ⟨(txt 2).toArray⟩, .int .i64 0], ?_, rfl, hbZ⟩
    simp [results, Tryd.results8, go_sem, d1, d2]
  · intro D c k W hD hk h
    exact h.elim
end Go.Proofs.YtkjhofnkgcjcoaaDoor
/- The law's small functions. -/
namespace Go.Proofs.YtkjhofnkgcjcoaaDoor
open Go.RowKit

theorem num_any (v : Value) (w : World) : Calls Tryd.prog 9 #[v] w fun e w' => e = .returned v ∧ w = w' := by
  go_enter Tryd.func9, Tryd.ntmps9
  go_wp2_with fail
  go_ret
  exact ⟨rfl, rfl⟩

theorem v_any (s : ByteArray) (w : World) : Calls Tryd.prog 6 #[.string s] w fun e w' => e = .returned (.agg #[.int .i64 2, .int .u64 0, .string s, .slice none 0 0]) ∧ Below w.heap.size w w' := by
  go_enter Tryd.func6, Tryd.ntmps6
  go_wp2_with fail
  have h0 : (w.alloc (.cells #[.int .i64 2, .int .u64 0, .string s, .slice none 0 0] 29)).cell? ⟨w.heap.size, 0, none⟩ = some (#[.int .i64 2, .int .u64 0, .string s, .slice none 0 0][0]) := by simp [go_sem]
  have h1 : (w.alloc (.cells #[.int .i64 2, .int .u64 0, .string s, .slice none 0 0] 29)).cell? ⟨w.heap.size, 1, none⟩ = some (#[.int .i64 2, .int .u64 0, .string s, .slice none 0 0][1]) := by simp [go_sem]
  have h2 : (w.alloc (.cells #[.int .i64 2, .int .u64 0, .string s, .slice none 0 0] 29)).cell? ⟨w.heap.size, 2, none⟩ = some (#[.int .i64 2, .int .u64 0, .string s, .slice none 0 0][2]) := by simp [go_sem]
  have h3 : (w.alloc (.cells #[.int .i64 2, .int .u64 0, .string s, .slice none 0 0] 29)).cell? ⟨w.heap.size, 3, none⟩ = some (#[.int .i64 2, .int .u64 0, .string s, .slice none 0 0][3]) := by simp [go_sem]
  refine bodyPost_ret (v := .agg #[.int .i64 2, .int .u64 0, .string s, .slice none 0 0]) (by simp [results, Tryd.results6, go_sem]) rfl ?_
  exact ⟨rfl, (Below.refl _ _).alloc (Nat.le_refl _) _⟩

theorem c_any (n : Int) (w : World) : Calls Tryd.prog 7 #[.int .u64 n] w fun e w' => e = .returned (.agg #[.int .i64 1, .int .u64 n, .string ⟨#[]⟩, .slice none 0 0]) ∧ Below w.heap.size w w' := by
  go_enter Tryd.func7, Tryd.ntmps7
  go_wp2_with fail
  have h0 : (w.alloc (.cells #[.int .i64 1, .int .u64 n, .string ⟨#[]⟩, .slice none 0 0] 29)).cell? ⟨w.heap.size, 0, none⟩ = some (#[.int .i64 1, .int .u64 n, .string ⟨#[]⟩, .slice none 0 0][0]) := by simp [go_sem]
  have h1 : (w.alloc (.cells #[.int .i64 1, .int .u64 n, .string ⟨#[]⟩, .slice none 0 0] 29)).cell? ⟨w.heap.size, 1, none⟩ = some (#[.int .i64 1, .int .u64 n, .string ⟨#[]⟩, .slice none 0 0][1]) := by simp [go_sem]
  have h2 : (w.alloc (.cells #[.int .i64 1, .int .u64 n, .string ⟨#[]⟩, .slice none 0 0] 29)).cell? ⟨w.heap.size, 2, none⟩ = some (#[.int .i64 1, .int .u64 n, .string ⟨#[]⟩, .slice none 0 0][2]) := by simp [go_sem]
  have h3 : (w.alloc (.cells #[.int .i64 1, .int .u64 n, .string ⟨#[]⟩, .slice none 0 0] 29)).cell? ⟨w.heap.size, 3, none⟩ = some (#[.int .i64 1, .int .u64 n, .string ⟨#[]⟩, .slice none 0 0][3]) := by simp [go_sem]
  refine bodyPost_ret (v := .agg #[.int .i64 1, .int .u64 n, .string ⟨#[]⟩, .slice none 0 0]) (by simp [results, Tryd.results7, go_sem]) rfl ?_
  exact ⟨rfl, (Below.refl _ _).alloc (Nat.le_refl _) _⟩

theorem op_any (o : Int) (p : Option Addr) (n c : Nat) (w : World) : Calls Tryd.prog 18 #[.int .i64 o, .slice p n c] w fun e w' => e = .returned (.agg #[.int .i64 o, .int .u64 0, .string ⟨#[]⟩, .slice p n c]) ∧ Below w.heap.size w w' := by
  go_enter Tryd.func18, Tryd.ntmps18
  go_wp2_with fail
  have h0 : (w.alloc (.cells #[.int .i64 o, .int .u64 0, .string ⟨#[]⟩, .slice p n c] 29)).cell? ⟨w.heap.size, 0, none⟩ = some (#[.int .i64 o, .int .u64 0, .string ⟨#[]⟩, .slice p n c][0]) := by simp [go_sem]
  have h1 : (w.alloc (.cells #[.int .i64 o, .int .u64 0, .string ⟨#[]⟩, .slice p n c] 29)).cell? ⟨w.heap.size, 1, none⟩ = some (#[.int .i64 o, .int .u64 0, .string ⟨#[]⟩, .slice p n c][1]) := by simp [go_sem]
  have h2 : (w.alloc (.cells #[.int .i64 o, .int .u64 0, .string ⟨#[]⟩, .slice p n c] 29)).cell? ⟨w.heap.size, 2, none⟩ = some (#[.int .i64 o, .int .u64 0, .string ⟨#[]⟩, .slice p n c][2]) := by simp [go_sem]
  have h3 : (w.alloc (.cells #[.int .i64 o, .int .u64 0, .string ⟨#[]⟩, .slice p n c] 29)).cell? ⟨w.heap.size, 3, none⟩ = some (#[.int .i64 o, .int .u64 0, .string ⟨#[]⟩, .slice p n c][3]) := by simp [go_sem]
  refine bodyPost_ret (v := .agg #[.int .i64 o, .int .u64 0, .string ⟨#[]⟩, .slice p n c]) (by simp [results, Tryd.results18, go_sem]) rfl ?_
  exact ⟨rfl, (Below.refl _ _).alloc (Nat.le_refl _) _⟩


set_option maxHeartbeats 1600000 in
theorem tells_any (x : Ex) (p : Option Addr) (c N : Nat) (s : List UInt8) (w : World) (hx6 : x.size ≤ 1000000) (h : x.Ok w N p) (hN : N ≤ w.heap.size) (hG : Glob w) (hl : x.may = true → x.text.length ≤ 1000000000) (hR : exprR x = s) (hE : exprE x = 0) :
    Calls Tryd.prog 32 #[x.val p c, .string (str s)] w fun e w' => e = .returned (.bool true) ∧ Below w.heap.size w w' := by
  have hB0 : Below w.heap.size w (w.alloc (.cells #[.int .i64 x.op, .int .u64 (x.word : Int), .string (str x.name), .slice p x.args.len c] 29)) := (Below.refl _ _).alloc (Nat.le_refl _) _
  have HX := Lib.hid (expr_any x p c N (w.alloc (.cells #[.int .i64 x.op, .int .u64 (x.word : Int), .string (str x.name), .slice p x.args.len c] 29)) hx6 (h.later (hB0.mono hN) (Nat.le_refl _)) (by simp; omega) (hG.later hB0) hl)
  rw [hR, hE] at HX
  have HB0 := Lib.hid hB0
  unfold Ex.val at HX ⊢
  clear hR hE hl hG h hB0
  go_enter Tryd.func32, Tryd.ntmps32
  go_wp2_with fail
  refine HX.out.mono ?_
  rintro e w2 ⟨rfl, hB2⟩
  have HB2 := Lib.hid (HB0.out.trans (hB2.mono (by simp)))
  clear hB2
  go_wp2_with fail
  refine (num_any _ _).mono ?_
  rintro e w' ⟨rfl, rfl⟩
  go_wp2_with fail
  go_ret
  exact ⟨rfl, HB2.out⟩
end Go.Proofs.YtkjhofnkgcjcoaaDoor
