/- The face of the parser. -/
import Derived.Test.YtchbnkepmeelkaaGreatDoorWZ
import Derived.Test.YtchbnkepmeelkaaGreatDoorWY
namespace Go.Proofs.YtchbnkepmeelkaaGreatDoor
open Go.RowKit

set_option maxRecDepth 100000 in
set_option maxHeartbeats 3200000 in
theorem face_ex (s : ByteArray) (w : World) (hs : s.size ≤ 281474976710656) (hG : Lx.Glob w) :
    Calls Tryz.prog 15 #[.string s] w fun z w' => ∃ q c, z = .returned (.tuple #[(resE (readP onlyExprP s.data.toList)).val q c, .agg (faultR (readP onlyExprP s.data.toList))]) ∧ Fresh w.heap.size w'.heap.size w' (fun W N => (resE (readP onlyExprP s.data.toList)).Ok W N q) ∧ Below w.heap.size w w' := by
  obtain ⟨W0, hW0⟩ : ∃ W0, (w.alloc (.cells #[.int .i64 0, .int .u64 0, .string ⟨#[]⟩, .slice none 0 0] 39)).alloc (.cells #[.int .i64 0, .int .i64 0, .int .i64 0] 29) = W0 := ⟨_, rfl⟩
  have hB0 : Below w.heap.size w W0 := by rw [← hW0]; exact ((Below.refl _ w).alloc (Nat.le_refl _) _).alloc (by simp) _
  have HZ0 := Lib.hid (show W0.heap.size = w.heap.size + 2 by rw [← hW0]; simp)
  have Kf := Lib.hid (show W0.heap[w.heap.size + 1]? = some (.cells #[.int .i64 0, .int .i64 0, .int .i64 0] 29 (0, 0)) by
    rw [← hW0]; have := heap_alloc_new (w.alloc (.cells #[.int .i64 0, .int .u64 0, .string ⟨#[]⟩, .slice none 0 0] 39)) (.cells #[.int .i64 0, .int .i64 0, .int .i64 0] 29); simpa using this)
  have Kr := Lib.hid (show W0.heap[w.heap.size]? = some (.cells #[.int .i64 0, .int .u64 0, .string ⟨#[]⟩, .slice none 0 0] 39 (0, 0)) by rw [← hW0, Below.heap_alloc _ _ _ (by simp)]; exact heap_alloc_new w _)
  have CR := Lib.hid (read_ex s W0 hs (glob_below hG hB0))
  have HB0 := Lib.hid hB0
  have HW0 := Lib.hid hW0
  generalize readP onlyExprP s.data.toList = G at *
  generalize resE G = x at *
  obtain ⟨a, b, e, hf⟩ := fault_form G
  rw [hf] at CR ⊢
  clear hB0 hW0 hs hG hf
  unfold Ex.val at CR ⊢
  go_enter Tryz.func15, Tryz.ntmps15
  go_wp2_with fail
  rw [HW0.out]
  refine CR.out.mono ?_
  rintro z w1 ⟨q, c, rfl, hfr, hB1⟩
  have hr := (hB1.block _ (Array.getElem?_eq_some_iff.1 Kr.out).1).trans Kr.out
  have hf := (hB1.block _ (Array.getElem?_eq_some_iff.1 Kf.out).1).trans Kf.out
  have HB := Lib.hid (HB0.out.trans (hB1.mono HB0.out.size))
  have HF := Lib.hid hfr
  have HZ1 := Lib.hid hB1.size
  have z0 := cell_blk hr (j := 0) rfl
  have z1 := cell_blk hr (j := 1) rfl
  have z2 := cell_blk hr (j := 2) rfl
  have z3 := cell_blk hr (j := 3) rfl
  have u0 := cell_blk hf (j := 0) rfl
  have u1 := cell_blk hf (j := 1) rfl
  have u2 := cell_blk hf (j := 2) rfl
  have g1 : ∀ j, w1.frozen? ⟨w.heap.size, j, none⟩ = false := fun j => by simp [World.frozen?, hr]
  have f0 := g1 0
  have f1 := g1 1
  have f2 := g1 2
  have f3 := g1 3
  have g2 : ∀ j, w1.frozen? ⟨w.heap.size + 1, j, none⟩ = false := fun j => by simp [World.frozen?, hf]
  have v0 := g2 0
  have v1 := g2 1
  have v2 := g2 2
  have KEY : ∀ F, F = ((((((w1.setCell ⟨w.heap.size, 0, none⟩ (.int .i64 x.op)).setCell ⟨w.heap.size, 1, none⟩ (.int .u64 (x.word : Int))).setCell ⟨w.heap.size, 2, none⟩ (.string (str x.name))).setCell ⟨w.heap.size, 3, none⟩ (.slice q x.args.len c)).setCell ⟨w.heap.size + 1, 0, none⟩ (.int .i64 a)).setCell ⟨w.heap.size + 1, 1, none⟩ (.int .i64 b)).setCell ⟨w.heap.size + 1, 2, none⟩ (.int .i64 e) →
      F.heap[w.heap.size]? = some (.cells #[.int .i64 x.op, .int .u64 (x.word : Int), .string (str x.name), .slice q x.args.len c] 39 (0, 0)) ∧ F.heap[w.heap.size + 1]? = some (.cells #[.int .i64 a, .int .i64 b, .int .i64 e] 29 (0, 0)) ∧ Below w.heap.size w F ∧ Fresh w.heap.size F.heap.size F (fun W N => x.Ok W N q) := by
    intro F hF
    obtain ⟨V, hV⟩ : ∃ V, (((w1.setCell ⟨w.heap.size, 0, none⟩ (.int .i64 x.op)).setCell ⟨w.heap.size, 1, none⟩ (.int .u64 (x.word : Int))).setCell ⟨w.heap.size, 2, none⟩ (.string (str x.name))).setCell ⟨w.heap.size, 3, none⟩ (.slice q x.args.len c) = V := ⟨_, rfl⟩
    rw [hV] at hF
    have a1 : V.heap[w.heap.size]? = some (.cells #[.int .i64 x.op, .int .u64 (x.word : Int), .string (str x.name), .slice q x.args.len c] 39 (0, 0)) := by rw [← hV]; exact set4 hr _ _ _ _
    have a2 : V.heap[w.heap.size + 1]? = some (.cells #[.int .i64 0, .int .i64 0, .int .i64 0] 29 (0, 0)) := by rw [← hV, Below.heap_setCell _ _ _ _ (show w.heap.size + 1 ≠ w.heap.size by omega), Below.heap_setCell _ _ _ _ (show w.heap.size + 1 ≠ w.heap.size by omega), Below.heap_setCell _ _ _ _ (show w.heap.size + 1 ≠ w.heap.size by omega), Below.heap_setCell _ _ _ _ (show w.heap.size + 1 ≠ w.heap.size by omega)]; exact hf
    have a3 : V.heap.size = w1.heap.size := by rw [← hV]; simp [World.setCell]
    have a4 : Below w.heap.size w V := by rw [← hV]; exact ((((HB.out.setCell (p := ⟨w.heap.size, 0, none⟩) (Nat.le_refl _) _).setCell (p := ⟨w.heap.size, 1, none⟩) (Nat.le_refl _) _).setCell (p := ⟨w.heap.size, 2, none⟩) (Nat.le_refl _) _).setCell (p := ⟨w.heap.size, 3, none⟩) (Nat.le_refl _) _)
    have h0 := HZ0.out
    have h1 := HZ1.out
    have b3 : F.heap.size = w1.heap.size := by rw [hF]; simp [World.setCell]; exact a3
    refine ⟨?_, ?_, ?_, ?_⟩
    · rw [hF, Below.heap_setCell _ _ _ _ (show w.heap.size ≠ w.heap.size + 1 by omega), Below.heap_setCell _ _ _ _ (show w.heap.size ≠ w.heap.size + 1 by omega), Below.heap_setCell _ _ _ _ (show w.heap.size ≠ w.heap.size + 1 by omega)]; exact a1
    · rw [hF]; exact set3 a2 _ _ _
    · rw [hF]; exact (((a4.setCell (p := ⟨w.heap.size + 1, 0, none⟩) (Nat.le_succ _) _).setCell (p := ⟨w.heap.size + 1, 1, none⟩) (Nat.le_succ _) _).setCell (p := ⟨w.heap.size + 1, 2, none⟩) (Nat.le_succ _) _)
    · rw [b3]; have a6 := HF.out.to ((((((((Agr.refl (A := W0.heap.size) (B := w1.heap.size) (w := w1) (Nat.le_refl _)).set (p := ⟨w.heap.size, 0, none⟩) (show w.heap.size < W0.heap.size by omega) (.int .i64 x.op)).set (p := ⟨w.heap.size, 1, none⟩) (show w.heap.size < W0.heap.size by omega) (.int .u64 (x.word : Int))).set (p := ⟨w.heap.size, 2, none⟩) (show w.heap.size < W0.heap.size by omega) (.string (str x.name))).set (p := ⟨w.heap.size, 3, none⟩) (show w.heap.size < W0.heap.size by omega) (.slice q x.args.len c)).set (p := ⟨w.heap.size + 1, 0, none⟩) (show w.heap.size + 1 < W0.heap.size by omega) (.int .i64 a)).set (p := ⟨w.heap.size + 1, 1, none⟩) (show w.heap.size + 1 < W0.heap.size by omega) (.int .i64 b)).set (p := ⟨w.heap.size + 1, 2, none⟩) (show w.heap.size + 1 < W0.heap.size by omega) (.int .i64 e)); rw [hV, ← hF] at a6; exact a6.fin HB0.out.size (Nat.le_refl _) (fun W h => h)
  have HKEY := Lib.hid KEY
  clear hB1 hfr hf g2 KEY hr g1
  go_wp2_with fail
  obtain ⟨F, hF⟩ : ∃ F, F = ((((((w1.setCell ⟨w.heap.size, 0, none⟩ (.int .i64 x.op)).setCell ⟨w.heap.size, 1, none⟩ (.int .u64 (x.word : Int))).setCell ⟨w.heap.size, 2, none⟩ (.string (str x.name))).setCell ⟨w.heap.size, 3, none⟩ (.slice q x.args.len c)).setCell ⟨w.heap.size + 1, 0, none⟩ (.int .i64 a)).setCell ⟨w.heap.size + 1, 1, none⟩ (.int .i64 b)).setCell ⟨w.heap.size + 1, 2, none⟩ (.int .i64 e) := ⟨_, rfl⟩
  obtain ⟨k1, k2, k4, k5⟩ := HKEY.out F hF
  rw [← hF]
  clear hF HKEY
  have y0 := cell_blk k1 (j := 0) rfl
  have y1 := cell_blk k1 (j := 1) rfl
  have y2 := cell_blk k1 (j := 2) rfl
  have y3 := cell_blk k1 (j := 3) rfl
  have e0 := cell_blk k2 (j := 0) rfl
  have e1 := cell_blk k2 (j := 1) rfl
  have e2 := cell_blk k2 (j := 2) rfl
  refine bodyPost_ret (v := .tuple #[.agg #[.int .i64 x.op, .int .u64 (x.word : Int), .string (str x.name), .slice q x.args.len c], .agg #[.int .i64 a, .int .i64 b, .int .i64 e]]) ?_ rfl ⟨q, c, rfl, k5, k4⟩
  simp [results, Tryz.results15, go_sem, y0, y1, y2, y3, e0, e1, e2]
set_option maxRecDepth 100000 in
set_option maxHeartbeats 3200000 in
theorem face_sts (s : ByteArray) (w : World) (hs : s.size ≤ 281474976710656) (hG : Lx.Glob w) :
    Calls Tryz.prog 18 #[.string s] w fun z w' => ∃ q c, z = .returned (.tuple #[.slice q (resS (readP onlyStmtsP s.data.toList)).len c, .agg (faultR (readP onlyStmtsP s.data.toList))]) ∧ Fresh w.heap.size w'.heap.size w' (fun W N => (resS (readP onlyStmtsP s.data.toList)).In W N q) ∧ Below w.heap.size w w' := by
  obtain ⟨W0, hW0⟩ : ∃ W0, w.alloc (.cells #[.int .i64 0, .int .i64 0, .int .i64 0] 29) = W0 := ⟨_, rfl⟩
  have hB0 : Below w.heap.size w W0 := by rw [← hW0]; exact (Below.refl _ w).alloc (Nat.le_refl _) _
  have HZ0 := Lib.hid (show W0.heap.size = w.heap.size + 1 by rw [← hW0]; simp)
  have Kf := Lib.hid (show W0.heap[w.heap.size]? = some (.cells #[.int .i64 0, .int .i64 0, .int .i64 0] 29 (0, 0)) by rw [← hW0]; exact heap_alloc_new w _)
  have CR := Lib.hid (read_sts s W0 hs (glob_below hG hB0))
  have HB0 := Lib.hid hB0
  have HW0 := Lib.hid hW0
  generalize readP onlyStmtsP s.data.toList = G at *
  generalize resS G = x at *
  obtain ⟨a, b, e, hf⟩ := fault_form G
  rw [hf] at CR ⊢
  clear hB0 hW0 hs hG hf
  go_enter Tryz.func18, Tryz.ntmps18
  go_wp2_with fail
  rw [HW0.out]
  refine CR.out.mono ?_
  rintro z w1 ⟨q, c, rfl, hfr, hB1⟩
  have hf := (hB1.block _ (Array.getElem?_eq_some_iff.1 Kf.out).1).trans Kf.out
  have HB := Lib.hid (HB0.out.trans (hB1.mono HB0.out.size))
  have HF := Lib.hid hfr
  have HZ1 := Lib.hid hB1.size
  have u0 := cell_blk hf (j := 0) rfl
  have u1 := cell_blk hf (j := 1) rfl
  have u2 := cell_blk hf (j := 2) rfl
  have g2 : ∀ j, w1.frozen? ⟨w.heap.size, j, none⟩ = false := fun j => by simp [World.frozen?, hf]
  have v0 := g2 0
  have v1 := g2 1
  have v2 := g2 2
  have KEY : ∀ F, F = ((w1.setCell ⟨w.heap.size, 0, none⟩ (.int .i64 a)).setCell ⟨w.heap.size, 1, none⟩ (.int .i64 b)).setCell ⟨w.heap.size, 2, none⟩ (.int .i64 e) →
      F.heap[w.heap.size]? = some (.cells #[.int .i64 a, .int .i64 b, .int .i64 e] 29 (0, 0)) ∧ Below w.heap.size w F ∧ Fresh w.heap.size F.heap.size F (fun W N => x.In W N q) := by
    intro F hF
    obtain ⟨V, hV⟩ : ∃ V, w1 = V := ⟨_, rfl⟩
    rw [hV] at hF
    have a2 : V.heap[w.heap.size]? = some (.cells #[.int .i64 0, .int .i64 0, .int .i64 0] 29 (0, 0)) := by rw [← hV]; exact hf
    have a3 : V.heap.size = w1.heap.size := by rw [← hV]
    have a4 : Below w.heap.size w V := by rw [← hV]; exact HB.out
    have h0 := HZ0.out
    have h1 := HZ1.out
    have b3 : F.heap.size = w1.heap.size := by rw [hF]; simp [World.setCell]; exact a3
    refine ⟨?_, ?_, ?_⟩
    · rw [hF]; exact set3 a2 _ _ _
    · rw [hF]; exact (((a4.setCell (p := ⟨w.heap.size, 0, none⟩) (Nat.le_refl _) _).setCell (p := ⟨w.heap.size, 1, none⟩) (Nat.le_refl _) _).setCell (p := ⟨w.heap.size, 2, none⟩) (Nat.le_refl _) _)
    · rw [b3]; have a6 := HF.out.to ((((Agr.refl (A := W0.heap.size) (B := w1.heap.size) (w := w1) (Nat.le_refl _)).set (p := ⟨w.heap.size, 0, none⟩) (show w.heap.size < W0.heap.size by omega) (.int .i64 a)).set (p := ⟨w.heap.size, 1, none⟩) (show w.heap.size < W0.heap.size by omega) (.int .i64 b)).set (p := ⟨w.heap.size, 2, none⟩) (show w.heap.size < W0.heap.size by omega) (.int .i64 e)); subst hV; rw [← hF] at a6; exact a6.fin HB0.out.size (Nat.le_refl _) (fun W h => h)
  have HKEY := Lib.hid KEY
  clear hB1 hfr hf g2 KEY
  go_wp2_with fail
  obtain ⟨F, hF⟩ : ∃ F, F = ((w1.setCell ⟨w.heap.size, 0, none⟩ (.int .i64 a)).setCell ⟨w.heap.size, 1, none⟩ (.int .i64 b)).setCell ⟨w.heap.size, 2, none⟩ (.int .i64 e) := ⟨_, rfl⟩
  obtain ⟨k2, k4, k5⟩ := HKEY.out F hF
  rw [← hF]
  clear hF HKEY
  have e0 := cell_blk k2 (j := 0) rfl
  have e1 := cell_blk k2 (j := 1) rfl
  have e2 := cell_blk k2 (j := 2) rfl
  refine bodyPost_ret (v := .tuple #[.slice q x.len c, .agg #[.int .i64 a, .int .i64 b, .int .i64 e]]) ?_ rfl ⟨q, c, rfl, k5, k4⟩
  simp [results, Tryz.results18, go_sem, e0, e1, e2]
set_option maxRecDepth 100000 in
set_option maxHeartbeats 3200000 in
theorem face_prg (s : ByteArray) (w : World) (hs : s.size ≤ 281474976710656) (hG : Lx.Glob w) :
    Calls Tryz.prog 11 #[.string s] w fun z w' => ∃ q q' c c', z = .returned (.tuple #[(resP (readP programP s.data.toList)).val q q' c c', .agg (faultR (readP programP s.data.toList))]) ∧ Fresh w.heap.size w'.heap.size w' (fun W N => (resP (readP programP s.data.toList)).Ok W N q q') ∧ Below w.heap.size w w' := by
  obtain ⟨W0, hW0⟩ : ∃ W0, (w.alloc (.cells #[.slice none 0 0, .slice none 0 0] 26)).alloc (.cells #[.int .i64 0, .int .i64 0, .int .i64 0] 29) = W0 := ⟨_, rfl⟩
  have hB0 : Below w.heap.size w W0 := by rw [← hW0]; exact ((Below.refl _ w).alloc (Nat.le_refl _) _).alloc (by simp) _
  have HZ0 := Lib.hid (show W0.heap.size = w.heap.size + 2 by rw [← hW0]; simp)
  have Kf := Lib.hid (show W0.heap[w.heap.size + 1]? = some (.cells #[.int .i64 0, .int .i64 0, .int .i64 0] 29 (0, 0)) by
    rw [← hW0]; have := heap_alloc_new (w.alloc (.cells #[.slice none 0 0, .slice none 0 0] 26)) (.cells #[.int .i64 0, .int .i64 0, .int .i64 0] 29); simpa using this)
  have Kr := Lib.hid (show W0.heap[w.heap.size]? = some (.cells #[.slice none 0 0, .slice none 0 0] 26 (0, 0)) by rw [← hW0, Below.heap_alloc _ _ _ (by simp)]; exact heap_alloc_new w _)
  have CR := Lib.hid (read_prg s W0 hs (glob_below hG hB0))
  have HB0 := Lib.hid hB0
  have HW0 := Lib.hid hW0
  generalize readP programP s.data.toList = G at *
  generalize resP G = x at *
  obtain ⟨a, b, e, hf⟩ := fault_form G
  rw [hf] at CR ⊢
  clear hB0 hW0 hs hG hf
  unfold Prg.val at CR ⊢
  go_enter Tryz.func11, Tryz.ntmps11
  go_wp2_with fail
  rw [HW0.out]
  refine CR.out.mono ?_
  rintro z w1 ⟨q, q', c, c', rfl, hfr, hB1⟩
  have hr := (hB1.block _ (Array.getElem?_eq_some_iff.1 Kr.out).1).trans Kr.out
  have hf := (hB1.block _ (Array.getElem?_eq_some_iff.1 Kf.out).1).trans Kf.out
  have HB := Lib.hid (HB0.out.trans (hB1.mono HB0.out.size))
  have HF := Lib.hid hfr
  have HZ1 := Lib.hid hB1.size
  have z0 := cell_blk hr (j := 0) rfl
  have z1 := cell_blk hr (j := 1) rfl
  have u0 := cell_blk hf (j := 0) rfl
  have u1 := cell_blk hf (j := 1) rfl
  have u2 := cell_blk hf (j := 2) rfl
  have g1 : ∀ j, w1.frozen? ⟨w.heap.size, j, none⟩ = false := fun j => by simp [World.frozen?, hr]
  have f0 := g1 0
  have f1 := g1 1
  have g2 : ∀ j, w1.frozen? ⟨w.heap.size + 1, j, none⟩ = false := fun j => by simp [World.frozen?, hf]
  have v0 := g2 0
  have v1 := g2 1
  have v2 := g2 2
  have KEY : ∀ F, F = ((((w1.setCell ⟨w.heap.size, 0, none⟩ (.slice q x.regs.length c)).setCell ⟨w.heap.size, 1, none⟩ (.slice q' x.fns.length c')).setCell ⟨w.heap.size + 1, 0, none⟩ (.int .i64 a)).setCell ⟨w.heap.size + 1, 1, none⟩ (.int .i64 b)).setCell ⟨w.heap.size + 1, 2, none⟩ (.int .i64 e) →
      F.heap[w.heap.size]? = some (.cells #[.slice q x.regs.length c, .slice q' x.fns.length c'] 26 (0, 0)) ∧ F.heap[w.heap.size + 1]? = some (.cells #[.int .i64 a, .int .i64 b, .int .i64 e] 29 (0, 0)) ∧ Below w.heap.size w F ∧ Fresh w.heap.size F.heap.size F (fun W N => x.Ok W N q q') := by
    intro F hF
    obtain ⟨V, hV⟩ : ∃ V, (w1.setCell ⟨w.heap.size, 0, none⟩ (.slice q x.regs.length c)).setCell ⟨w.heap.size, 1, none⟩ (.slice q' x.fns.length c') = V := ⟨_, rfl⟩
    rw [hV] at hF
    have a1 : V.heap[w.heap.size]? = some (.cells #[.slice q x.regs.length c, .slice q' x.fns.length c'] 26 (0, 0)) := by rw [← hV]; exact set2 hr _ _
    have a2 : V.heap[w.heap.size + 1]? = some (.cells #[.int .i64 0, .int .i64 0, .int .i64 0] 29 (0, 0)) := by rw [← hV, Below.heap_setCell _ _ _ _ (show w.heap.size + 1 ≠ w.heap.size by omega), Below.heap_setCell _ _ _ _ (show w.heap.size + 1 ≠ w.heap.size by omega)]; exact hf
    have a3 : V.heap.size = w1.heap.size := by rw [← hV]; simp [World.setCell]
    have a4 : Below w.heap.size w V := by rw [← hV]; exact ((HB.out.setCell (p := ⟨w.heap.size, 0, none⟩) (Nat.le_refl _) _).setCell (p := ⟨w.heap.size, 1, none⟩) (Nat.le_refl _) _)
    have h0 := HZ0.out
    have h1 := HZ1.out
    have b3 : F.heap.size = w1.heap.size := by rw [hF]; simp [World.setCell]; exact a3
    refine ⟨?_, ?_, ?_, ?_⟩
    · rw [hF, Below.heap_setCell _ _ _ _ (show w.heap.size ≠ w.heap.size + 1 by omega), Below.heap_setCell _ _ _ _ (show w.heap.size ≠ w.heap.size + 1 by omega), Below.heap_setCell _ _ _ _ (show w.heap.size ≠ w.heap.size + 1 by omega)]; exact a1
    · rw [hF]; exact set3 a2 _ _ _
    · rw [hF]; exact (((a4.setCell (p := ⟨w.heap.size + 1, 0, none⟩) (Nat.le_succ _) _).setCell (p := ⟨w.heap.size + 1, 1, none⟩) (Nat.le_succ _) _).setCell (p := ⟨w.heap.size + 1, 2, none⟩) (Nat.le_succ _) _)
    · rw [b3]; have a6 := HF.out.to ((((((Agr.refl (A := W0.heap.size) (B := w1.heap.size) (w := w1) (Nat.le_refl _)).set (p := ⟨w.heap.size, 0, none⟩) (show w.heap.size < W0.heap.size by omega) (.slice q x.regs.length c)).set (p := ⟨w.heap.size, 1, none⟩) (show w.heap.size < W0.heap.size by omega) (.slice q' x.fns.length c')).set (p := ⟨w.heap.size + 1, 0, none⟩) (show w.heap.size + 1 < W0.heap.size by omega) (.int .i64 a)).set (p := ⟨w.heap.size + 1, 1, none⟩) (show w.heap.size + 1 < W0.heap.size by omega) (.int .i64 b)).set (p := ⟨w.heap.size + 1, 2, none⟩) (show w.heap.size + 1 < W0.heap.size by omega) (.int .i64 e)); rw [hV, ← hF] at a6; exact a6.fin HB0.out.size (Nat.le_refl _) (fun W h => h)
  have HKEY := Lib.hid KEY
  clear hB1 hfr hf g2 KEY hr g1
  go_wp2_with fail
  obtain ⟨F, hF⟩ : ∃ F, F = ((((w1.setCell ⟨w.heap.size, 0, none⟩ (.slice q x.regs.length c)).setCell ⟨w.heap.size, 1, none⟩ (.slice q' x.fns.length c')).setCell ⟨w.heap.size + 1, 0, none⟩ (.int .i64 a)).setCell ⟨w.heap.size + 1, 1, none⟩ (.int .i64 b)).setCell ⟨w.heap.size + 1, 2, none⟩ (.int .i64 e) := ⟨_, rfl⟩
  obtain ⟨k1, k2, k4, k5⟩ := HKEY.out F hF
  rw [← hF]
  clear hF HKEY
  have y0 := cell_blk k1 (j := 0) rfl
  have y1 := cell_blk k1 (j := 1) rfl
  have e0 := cell_blk k2 (j := 0) rfl
  have e1 := cell_blk k2 (j := 1) rfl
  have e2 := cell_blk k2 (j := 2) rfl
  refine bodyPost_ret (v := .tuple #[.agg #[.slice q x.regs.length c, .slice q' x.fns.length c'], .agg #[.int .i64 a, .int .i64 b, .int .i64 e]]) ?_ rfl ⟨q, q', c, c', rfl, k5, k4⟩
  simp [results, Tryz.results11, go_sem, y0, y1, e0, e1, e2]
end Go.Proofs.YtchbnkepmeelkaaGreatDoor
