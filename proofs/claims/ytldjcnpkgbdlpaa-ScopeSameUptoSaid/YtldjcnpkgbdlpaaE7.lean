/- Size, whole. -/
import Derived.Test.YtldjcnpkgbdlpaaE6
namespace Go.Proofs.Ytldjcnpkgbdlpaa
open Go.RowKit

def cap (t : Nat) : Nat := if t ≤ 65536 then t else 65537
theorem Cnt.cap {g t : Nat} {w w' : World} {z : Ending} (h : Cnt g 0 t w z w') : (z = .returned (.tuple #[]) ∨ z = Pn 13) ∧ Ct w' g (cap t) ∧ But g w w' := by
  rcases h with ⟨h1, h2, h3⟩ | ⟨h1, h2, h3⟩
  · rw [Nat.zero_add] at h1 h2
    exact ⟨.inl rfl, by rw [Proofs.Ytldjcnpkgbdlpaa.cap, if_pos h1]; exact h2, h3⟩
  · rw [Nat.zero_add] at h1
    exact ⟨.inr rfl, by rw [Proofs.Ytldjcnpkgbdlpaa.cap, if_neg (by omega)]; exact h2, h3⟩
set_option maxHeartbeats 3200000 in
theorem caughtSize_any (t pb g : Nat) (w : World) (hg : g < w.heap.size) (h : ∀ W, Below w.heap.size w W → Calls Try.prog 60 #[.pointer (some ⟨g, 0, none⟩), .pointer (some ⟨pb, 0, none⟩)] W (Cnt g 0 t W)) :
    Calls Try.prog 27 #[.func (.func 60) #[] #[.pointer (some ⟨g, 0, none⟩), .pointer (some ⟨pb, 0, none⟩)]] w fun z w' => (∃ r, z = .returned (.int .i64 r)) ∧ Ct w' g (cap t) ∧ But g w w' := by
  have hmf : ∀ (fn : Fn) (first cap : Array Value) (w : World), (Instr.makeFunc fn first cap).run Try.prog w = .ok (.func fn first cap) w := fun _ _ _ _ => rfl
  obtain ⟨W0, hW0, k0, hB0, hz0⟩ := one_alloc w (.cells #[.int .i64 0] 39)
  have HCl := Lib.hid (h W0 hB0)
  have HB0 := Lib.hid (But.of_below (g := g) hB0)
  have HK := Lib.hid k0
  have HW0 := Lib.hid hW0
  have hne : w.heap.size ≠ g := by omega
  clear hW0 k0 hB0 hz0 h
  go_enter_defers Try.func27, Try.ntmps27
  go_wp2_with fail
  rw [HW0.out]
  refine HCl.out.mono ?_
  intro z w1 hc
  obtain ⟨hz, h2, h3⟩ := hc.cap
  have k1 := (h3.block _ (lt_blk HK.out) hne).trans HK.out
  have H1 := Lib.hid (And.intro h2 (HB0.out.trans h3))
  have HK1 := Lib.hid k1
  clear hc h2 h3
  rcases hz with rfl | rfl
  · have c0 : w1.cell? ⟨w.heap.size, 0, none⟩ = some (.int .i64 0) := cell_blk k1 rfl
    have f0 : w1.frozen? ⟨w.heap.size, 0, none⟩ = false := by simp [World.frozen?, k1]
    have hF := heap_setCell_one k1 (.int .i64 0)
    have H2 := Lib.hid (show Ct (w1.setCell ⟨w.heap.size, 0, none⟩ (.int .i64 0)) g (cap t) ∧ But g w (w1.setCell ⟨w.heap.size, 0, none⟩ (.int .i64 0)) from ⟨(Below.heap_setCell w1 _ _ _ (Ne.symm hne)).trans H1.out.1, ⟨H1.out.2.os, H1.out.2.tape, H1.out.2.output, by simpa [World.setCell] using H1.out.2.size, fun k hk hn => (Below.heap_setCell w1 _ _ _ (Nat.ne_of_lt hk)).trans (H1.out.2.block k hk hn)⟩⟩)
    have HF := Lib.hid hF
    clear k1 hF
    go_wp2_with fail
    refine leaves_cons (f := 45) (args := #[.pointer (some ⟨w.heap.size, 0, none⟩)]) (by simp) (by simp [go_sem]) ?_
    refine (idle_any _ _).mono ?_
    rintro e u w9 ⟨rfl, rfl, rfl⟩
    have y0 := cell_blk HF.out (j := 0) rfl
    refine ⟨.int .i64 0, ?_, ⟨0, rfl⟩, H2.out⟩
    simp [results, Try.results27, go_sem, y0]
  · unfold Pn
    go_wp2_with fail
    refine leaves_cons (f := 45) (args := #[.pointer (some ⟨w.heap.size, 0, none⟩)]) (by simp) (by simp [go_sem]) ?_
    refine (caught1_any w.heap.size 13 [] w1 HK1.out).mono ?_
    rintro e u w9 ⟨rfl, rfl, rfl⟩
    have hF := heap_setCell_one HK1.out (.int .i64 13)
    have y0 := cell_blk hF (j := 0) rfl
    have H2 : Ct (w1.setCell ⟨w.heap.size, 0, none⟩ (.int .i64 13)) g (cap t) ∧ But g w (w1.setCell ⟨w.heap.size, 0, none⟩ (.int .i64 13)) := ⟨(Below.heap_setCell w1 _ _ _ (Ne.symm hne)).trans H1.out.1, ⟨H1.out.2.os, H1.out.2.tape, H1.out.2.output, by simpa [World.setCell] using H1.out.2.size, fun k hk hn => (Below.heap_setCell w1 _ _ _ (Nat.ne_of_lt hk)).trans (H1.out.2.block k hk hn)⟩⟩
    show Leaves _ _ _ _ [] (settle _) _
    refine ⟨.int .i64 13, ?_, ⟨13, rfl⟩, H2⟩
    simp [results, Try.results27, go_sem, y0]

theorem two_alloc (w : World) (o0 o1 : Obj) : ∃ W, (w.alloc o0).alloc o1 = W ∧ W.heap[w.heap.size]? = some o0 ∧ W.heap[w.heap.size + 1]? = some o1 ∧ Below w.heap.size w W ∧ W.heap.size = w.heap.size + 2 := by
  refine ⟨_, rfl, ?_, ?_, ((Below.refl _ w).alloc (Nat.le_refl _) _).alloc (by simp) _, by simp⟩
  · rw [Below.heap_alloc _ _ _ (by simp)]; exact heap_alloc_new w o0
  · have := heap_alloc_new (w.alloc o0) o1; simpa using this
/-- a program as a value: its place -/
structure PrgP where
  (p q : Option Addr) (c d : Nat)
def Prg.v (x : Prg) (s : PrgP) : Value := .agg #[.slice s.p x.regs.length s.c, .slice s.q x.fns.length s.d]
set_option maxHeartbeats 1600000 in
theorem size_any (x : Prg) (s : PrgP) (N : Nat) (w : World) (h : x.Ok w N s.p s.q) (hN : N ≤ w.heap.size) :
    Calls Try.prog 48 #[x.v s] w fun z w' => z = .returned (.int .i64 (cap x.total : Nat)) ∧ Below w.heap.size w w' := by
  obtain ⟨W0, hW0, k0, k1, hB0, hz0⟩ := two_alloc w (.cells #[.slice s.p x.regs.length s.c, .slice s.q x.fns.length s.d] 25) (.cells #[.int .i64 0] 3)
  have HCl := Lib.hid (caughtSize_any x.total w.heap.size (w.heap.size + 1) W0 (by omega) fun W hW => size1_any x s.p s.q s.c s.d N w.heap.size (w.heap.size + 1) W ⟨(hW.block _ (lt_blk k0)).trans k0, h.later ((hB0.trans (hW.mono (by omega))).mono hN) (Nat.le_refl N)⟩ (by have := hW.size; omega) (by omega) ((hW.block _ (lt_blk k1)).trans k1) (by omega))
  have HB0 := Lib.hid (show Below w.heap.size w W0 ∧ w.heap.size ≤ W0.heap.size from ⟨hB0, by omega⟩)
  have HW0 := Lib.hid hW0
  unfold Prg.v
  clear hW0 k0 k1 hB0 hz0 h
  go_enter Try.func48, Try.ntmps48
  go_wp2_with fail
  rw [HW0.out]
  refine HCl.out.mono ?_
  rintro z w1 ⟨⟨r, rfl⟩, h2, h3⟩
  have c0 : w1.cell? ⟨w.heap.size + 1, 0, none⟩ = some (.int .i64 (cap x.total : Nat)) := cell_blk h2 rfl
  have HB := Lib.hid (But.below HB0.out.1 h3 (by omega) HB0.out.2)
  clear h2 h3
  go_wp2_with fail
  go_ret
  exact ⟨rfl, HB.out⟩
end Go.Proofs.Ytldjcnpkgbdlpaa
