/- May, whole. -/
import Derived.Test.YtldjcnpkgbdlpaaK4
namespace Go.Proofs.Ytldjcnpkgbdlpaa
open Go.RowKit

set_option maxHeartbeats 3200000 in
theorem caughtMay_any (m pb : Nat) (w : World) (h : ∀ W, Below w.heap.size w W → Calls Try.prog 28 #[.pointer (some ⟨pb, 0, none⟩)] W (Chk m W)) :
    Calls Try.prog 27 #[.func (.func 28) #[] #[.pointer (some ⟨pb, 0, none⟩)]] w fun z w' => z = .returned (.int .i64 (m : Int)) ∧ Below w.heap.size w w' := by
  have hmf : ∀ (fn : Fn) (first cap : Array Value) (w : World), (Instr.makeFunc fn first cap).run Try.prog w = .ok (.func fn first cap) w := fun _ _ _ _ => rfl
  obtain ⟨W0, hW0, k0, hB0, hz0⟩ := one_alloc w (.cells #[.int .i64 0] 39)
  have HCl := Lib.hid (h W0 hB0)
  have HB0 := Lib.hid (show Below w.heap.size w W0 ∧ w.heap.size < W0.heap.size from ⟨hB0, by omega⟩)
  have HK := Lib.hid k0
  have HW0 := Lib.hid hW0
  clear hW0 k0 hB0 hz0 h
  go_enter_defers Try.func27, Try.ntmps27
  go_wp2_with fail
  rw [HW0.out]
  refine HCl.out.mono ?_
  intro z w1 hc
  rcases hc with ⟨r1, hB1⟩ | ⟨r1, hB1⟩
  · have k1 := (hB1.block _ HB0.out.2).trans HK.out
    have HBB := Lib.hid (HB0.out.1.trans (hB1.mono (Nat.le_of_lt HB0.out.2)))
    have HK1 := Lib.hid k1
    have c0 : w1.cell? ⟨w.heap.size, 0, none⟩ = some (.int .i64 0) := cell_blk k1 rfl
    have f0 : w1.frozen? ⟨w.heap.size, 0, none⟩ = false := by simp [World.frozen?, k1]
    have hF := heap_setCell_one k1 (.int .i64 0)
    have H2 := Lib.hid (HBB.out.setCell (p := ⟨w.heap.size, 0, none⟩) (Nat.le_refl _) (.int .i64 0))
    have HF := Lib.hid hF
    have HR := Lib.hid r1
    clear k1 hF hB1 r1
    go_wp2_with fail
    refine leaves_cons (f := 45) (args := #[.pointer (some ⟨w.heap.size, 0, none⟩)]) (by simp) (by simp [go_sem]) ?_
    refine (idle_any _ _).mono ?_
    rintro e u w9 ⟨rfl, rfl, rfl⟩
    have y0 := cell_blk HF.out (j := 0) rfl
    refine ⟨.int .i64 0, ?_, by rw [HR.out]; rfl, H2.out⟩
    simp [results, Try.results27, go_sem, y0]
  · have k1 := (hB1.block _ HB0.out.2).trans HK.out
    have HBB := Lib.hid (HB0.out.1.trans (hB1.mono (Nat.le_of_lt HB0.out.2)))
    have HK1 := Lib.hid k1
    clear k1 hB1 r1
    unfold Pn
    go_wp2_with fail
    refine leaves_cons (f := 45) (args := #[.pointer (some ⟨w.heap.size, 0, none⟩)]) (by simp) (by simp [go_sem]) ?_
    refine (caught1_any w.heap.size (m : Int) [] w1 HK1.out).mono ?_
    rintro e u w9 ⟨rfl, rfl, rfl⟩
    have hF := heap_setCell_one HK1.out (.int .i64 (m : Int))
    have y0 := cell_blk hF (j := 0) rfl
    have H2 := HBB.out.setCell (p := ⟨w.heap.size, 0, none⟩) (Nat.le_refl _) (.int .i64 (m : Int))
    show Leaves _ _ _ _ [] (settle _) _
    refine ⟨.int .i64 (m : Int), ?_, rfl, H2⟩
    simp [results, Try.results27, go_sem, y0]

set_option maxHeartbeats 1600000 in
theorem may_any (x : Prg) (s : PrgP) (N : Nat) (w : World) (h : x.Ok w N s.p s.q) (hN : N ≤ w.heap.size) (hc : x.regs.length ≤ s.c) (hd : x.fns.length ≤ s.d) :
    Calls Try.prog 11 #[x.v s] w fun z w' => z = .returned (.int .i64 (mayR x : Int)) ∧ Below w.heap.size w w' := by
  obtain ⟨W0, hW0, k0, hB0, hz0⟩ := one_alloc w (.cells #[.slice s.p x.regs.length s.c, .slice s.q x.fns.length s.d] 25)
  have HCl := Lib.hid (caughtMay_any (mayR x) w.heap.size W0 fun W hW => may1_any x s w.heap.size N W ⟨(hW.block _ (lt_blk k0)).trans k0, h.later ((hB0.trans (hW.mono (by omega))).mono hN) (Nat.le_refl N)⟩ (by have := hW.size; omega) hc hd)
  have HB0 := Lib.hid (show Below w.heap.size w W0 ∧ w.heap.size ≤ W0.heap.size from ⟨hB0, by omega⟩)
  have HW0 := Lib.hid hW0
  unfold Prg.v
  clear hW0 k0 hB0 hz0 h
  go_enter Try.func11, Try.ntmps11
  go_wp2_with fail
  rw [HW0.out]
  refine HCl.out.mono ?_
  rintro z w1 ⟨rfl, h3⟩
  have HB := Lib.hid (HB0.out.1.trans (h3.mono HB0.out.2))
  clear h3
  go_wp2_with fail
  go_ret
  exact ⟨rfl, HB.out⟩
end Go.Proofs.Ytldjcnpkgbdlpaa
