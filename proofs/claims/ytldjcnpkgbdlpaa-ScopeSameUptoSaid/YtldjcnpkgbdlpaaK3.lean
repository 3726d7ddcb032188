/- May, whole. -/
import Derived.Test.YtldjcnpkgbdlpaaK2
namespace Go.Proofs.Ytldjcnpkgbdlpaa
open Go.RowKit

theorem sum_le : ∀ (l : List Fnc) (i : Nat) (f : Fnc), l[i]? = some f → f.body.sc 1 ≤ sumSc l
  | [], i, f, h => by simp at h
  | g :: l, 0, f, h => by simp at h; subst h; rw [sumSc]; omega
  | g :: l, i + 1, f, h => by have := sum_le l i f (by simpa using h); rw [sumSc]; omega
set_option maxRecDepth 100000 in
set_option maxHeartbeats 6400000 in
theorem placeIn_any (x : Prg) (s : PrgP) (i : Nat) (fn : Fnc) (pb N : Nat) (w : World) (hP : PB w N x pb s.p s.q s.c s.d) (hN : N ≤ w.heap.size) (hi : x.fns[i]? = some fn) (hT : x.total ≤ 65536) :
    Calls Try.prog 33 #[.pointer (some ⟨pb, 0, none⟩), .int .i64 (i : Int)] w fun z w' => ∃ m, z = .returned (Plc.v ⟨pb, i, m, [], none, 0, 1⟩) ∧ Cm w' m (adds nz (fn.body.fors 1)) ∧ Below w.heap.size w w' := by
  have hmm := @run_makeMap Try.prog
  have hil : i < x.fns.length := (List.getElem?_eq_some_iff.1 hi).1
  obtain ⟨W0, hW0, k0, k1, k2, hB0, hz0⟩ := three w (.cells #[.pointer none, .int .i64 0, .map none, .slice none 0 0, .int .i64 0] 75) (.map #[] 0) (.cells #[.map (some (w.heap.size + 1))] 73)
  obtain ⟨b', o', hq, hb', ha'⟩ := Row.start hP.ok.2
  obtain ⟨q4, c4, e4, hok4⟩ := Fnc.At.bodyC (Row.get ha' hi)
  have hbw : b' < w.heap.size := by omega
  have hqs : s.q = some ⟨b', o', none⟩ := by
    rcases hq with h0 | h0
    · omega
    · exact h0
  have hCm : Cm W0 (w.heap.size + 1) nz := ⟨#[], 0, [], k1, trivial, fun _ => rfl⟩
  have hNm : Nm W0 (w.heap.size + 1 + 1) (w.heap.size + 1) nz := ⟨k2, hCm, by omega⟩
  have HEa := Lib.hid (eachC_to _ fn.body (Nat.lt_succ_self _) 1 (by omega) q4 c4 N W0 (w.heap.size + 1 + 1) (w.heap.size + 1) 0 nz (hok4.later (hB0.mono hN) (Nat.le_refl N)) (by omega) (by omega) hNm (fun _ => Nat.le_refl _) (by have := sum_le x.fns i fn hi; unfold Prg.total at hT; omega))
  rw [show ((1 : Nat) : Int) = 1 from rfl] at HEa
  unfold seeC at HEa
  have p1 : W0.cell? ⟨pb, 1, none⟩ = some (.slice s.q x.fns.length s.d) := cell_blk ((hB0.block _ (lt_blk hP.cs)).trans hP.cs) rfl
  rw [hqs] at p1
  have b4 := (hB0.cell (p := ⟨b', o' + i * 5 + 4, none⟩) hbw).trans e4
  have hii : (i : Int) < (x.fns.length : Int) := by omega
  have hmf := hP.ok.2.1
  have HW0 := Lib.hid hW0
  have HB0 := Lib.hid (show Below w.heap.size w W0 ∧ w.heap.size < W0.heap.size from ⟨hB0, by omega⟩)
  have HK := Lib.hid k0
  unfold Plc.v
  clear hW0 k0 k1 k2 hB0 hz0 hP hi hT hCm hNm hq hb' ha' e4 hok4 hqs hbw
  go_enter Try.func33, Try.ntmps33
  go_upto_region 2 with fail
  rw [HW0.out]
  clear HW0
  go_wp2_with fail
  refine HEa.out.mono ?_
  rintro z w1 ⟨rfl, hM, hB1, _⟩
  have hz := (hB1.block _ HB0.out.2 (by omega)).trans HK.out
  have g0 : w1.cell? ⟨w.heap.size + 1 + 1, 0, none⟩ = some (.map (some (w.heap.size + 1))) := cell_blk hM.1 rfl
  have z0 : w1.cell? ⟨w.heap.size, 0, none⟩ = some (.pointer none) := cell_blk hz rfl
  have z1 : w1.cell? ⟨w.heap.size, 1, none⟩ = some (.int .i64 0) := cell_blk hz rfl
  have z2 : w1.cell? ⟨w.heap.size, 2, none⟩ = some (.map none) := cell_blk hz rfl
  have z3 : w1.cell? ⟨w.heap.size, 3, none⟩ = some (.slice none 0 0) := cell_blk hz rfl
  have z4 : w1.cell? ⟨w.heap.size, 4, none⟩ = some (.int .i64 0) := cell_blk hz rfl
  have hfz : ∀ j, w1.frozen? ⟨w.heap.size, j, none⟩ = false := fun j => by simp [World.frozen?, hz]
  have f0 := hfz 0
  have f1 := hfz 1
  have f2 := hfz 2
  have f3 := hfz 3
  have f4 := hfz 4
  have hFin : ∀ F, F = ((((w1.setCell ⟨w.heap.size, 0, none⟩ (.pointer (some ⟨pb, 0, none⟩))).setCell ⟨w.heap.size, 1, none⟩ (.int .i64 (i : Int))).setCell ⟨w.heap.size, 2, none⟩ (.map (some (w.heap.size + 1)))).setCell ⟨w.heap.size, 3, none⟩ (.slice none 0 0)).setCell ⟨w.heap.size, 4, none⟩ (.int .i64 1) →
      F.heap[w.heap.size]? = some (.cells #[.pointer (some ⟨pb, 0, none⟩), .int .i64 (i : Int), .map (some (w.heap.size + 1)), .slice none 0 0, .int .i64 1] 75 (0, 0)) ∧ Cm F (w.heap.size + 1) (adds nz (fn.body.fors 1)) ∧ Below w.heap.size w F := by
    intro F hF
    have s1 : (w1.setCell ⟨w.heap.size, 0, none⟩ (.pointer (some ⟨pb, 0, none⟩))).heap[w.heap.size]? = some (.cells #[.pointer (some ⟨pb, 0, none⟩), .int .i64 0, .map none, .slice none 0 0, .int .i64 0] 75 (0, 0)) := by rw [setCell_eq_setRow _ _ 0 _ _ (0, 0) _ hz]; exact setRow_heap _ _ _ _ _ (0, 0) hz
    have s2 : ((w1.setCell ⟨w.heap.size, 0, none⟩ (.pointer (some ⟨pb, 0, none⟩))).setCell ⟨w.heap.size, 1, none⟩ (.int .i64 (i : Int))).heap[w.heap.size]? = some (.cells #[.pointer (some ⟨pb, 0, none⟩), .int .i64 (i : Int), .map none, .slice none 0 0, .int .i64 0] 75 (0, 0)) := by rw [setCell_eq_setRow _ _ 1 _ _ (0, 0) _ s1]; exact setRow_heap _ _ _ _ _ (0, 0) s1
    have s3 : (((w1.setCell ⟨w.heap.size, 0, none⟩ (.pointer (some ⟨pb, 0, none⟩))).setCell ⟨w.heap.size, 1, none⟩ (.int .i64 (i : Int))).setCell ⟨w.heap.size, 2, none⟩ (.map (some (w.heap.size + 1)))).heap[w.heap.size]? = some (.cells #[.pointer (some ⟨pb, 0, none⟩), .int .i64 (i : Int), .map (some (w.heap.size + 1)), .slice none 0 0, .int .i64 0] 75 (0, 0)) := by rw [setCell_eq_setRow _ _ 2 _ _ (0, 0) _ s2]; exact setRow_heap _ _ _ _ _ (0, 0) s2
    have s4 : ((((w1.setCell ⟨w.heap.size, 0, none⟩ (.pointer (some ⟨pb, 0, none⟩))).setCell ⟨w.heap.size, 1, none⟩ (.int .i64 (i : Int))).setCell ⟨w.heap.size, 2, none⟩ (.map (some (w.heap.size + 1)))).setCell ⟨w.heap.size, 3, none⟩ (.slice none 0 0)).heap[w.heap.size]? = some (.cells #[.pointer (some ⟨pb, 0, none⟩), .int .i64 (i : Int), .map (some (w.heap.size + 1)), .slice none 0 0, .int .i64 0] 75 (0, 0)) := by rw [setCell_eq_setRow _ _ 3 _ _ (0, 0) _ s3]; exact setRow_heap _ _ _ _ _ (0, 0) s3
    have s5 : F.heap[w.heap.size]? = some (.cells #[.pointer (some ⟨pb, 0, none⟩), .int .i64 (i : Int), .map (some (w.heap.size + 1)), .slice none 0 0, .int .i64 1] 75 (0, 0)) := by rw [hF, setCell_eq_setRow _ _ 4 _ _ (0, 0) _ s4]; exact setRow_heap _ _ _ _ _ (0, 0) s4
    refine ⟨s5, hM.2.1.of_block ?_, ?_⟩
    · rw [hF]
      have hne : w.heap.size + 1 ≠ w.heap.size := by omega
      rw [Below.heap_setCell _ _ _ _ hne, Below.heap_setCell _ _ _ _ hne, Below.heap_setCell _ _ _ _ hne, Below.heap_setCell _ _ _ _ hne, Below.heap_setCell _ _ _ _ hne]
    · rw [hF]
      have hb := But.below HB0.out.1 hB1 (Nat.le_succ _) (Nat.le_of_lt HB0.out.2)
      exact ((((hb.setCell (p := ⟨w.heap.size, 0, none⟩) (Nat.le_refl _) _).setCell (p := ⟨w.heap.size, 1, none⟩) (Nat.le_refl _) _).setCell (p := ⟨w.heap.size, 2, none⟩) (Nat.le_refl _) _).setCell (p := ⟨w.heap.size, 3, none⟩) (Nat.le_refl _) _).setCell (p := ⟨w.heap.size, 4, none⟩) (Nat.le_refl _) _
  have HFin := Lib.hid hFin
  clear hM hB1 hz hfz hFin
  go_wp2_with fail
  obtain ⟨F, hF⟩ : ∃ F, F = ((((w1.setCell ⟨w.heap.size, 0, none⟩ (.pointer (some ⟨pb, 0, none⟩))).setCell ⟨w.heap.size, 1, none⟩ (.int .i64 (i : Int))).setCell ⟨w.heap.size, 2, none⟩ (.map (some (w.heap.size + 1)))).setCell ⟨w.heap.size, 3, none⟩ (.slice none 0 0)).setCell ⟨w.heap.size, 4, none⟩ (.int .i64 1) := ⟨_, rfl⟩
  obtain ⟨r1, r2, r3⟩ := HFin.out F hF
  rw [← hF]
  clear hF HFin
  have y0 := cell_blk r1 (j := 0) rfl
  have y1 := cell_blk r1 (j := 1) rfl
  have y2 := cell_blk r1 (j := 2) rfl
  have y3 := cell_blk r1 (j := 3) rfl
  have y4 := cell_blk r1 (j := 4) rfl
  refine bodyPost_ret (v := .agg #[.pointer (some ⟨pb, 0, none⟩), .int .i64 (i : Int), .map (some (w.heap.size + 1)), .slice none 0 0, .int .i64 1]) ?_ rfl ⟨w.heap.size + 1, rfl, r2, r3⟩
  simp [results, Try.results33, go_sem, y0, y1, y2, y3, y4]

end Go.Proofs.Ytldjcnpkgbdlpaa
