/- Closures, caught. -/
import Derived.Test.YtdigkdfkaikagaaL6
namespace Go.Proofs.Ytdigkdfkaikagaa
open Go.RowKit

set_option maxHeartbeats 1600000 in
/-- rewrite's closure, caught -/
theorem caught_rewrite (cs : Array Value) (w : World) (y : Option Int) (R : World → Prop)
    (hdo : Calls Try.prog 36 cs (w.alloc (.cells #[.int .i64 0] 28)) fun e w1 => Caught y e ∧ (w1.cell? ⟨w.heap.size, 0, none⟩ = some (.int .i64 0) ∧ w1.frozen? ⟨w.heap.size, 0, none⟩ = false) ∧ R w1) :
    Calls Try.prog 35 #[.func (Fn.func 36) #[] cs] w fun e w' => e = .returned (.int .i64 (y.getD 0)) ∧
      ∃ w1, R w1 ∧ w1.cell? ⟨w.heap.size, 0, none⟩ = some (.int .i64 0) ∧ w' = w1.setCell ⟨w.heap.size, 0, none⟩ (.int .i64 (y.getD 0)) := by
  have hmf : ∀ (fn : Fn) (first cap : Array Value) (w : World), (Instr.makeFunc fn first cap).run Try.prog w = .ok (.func fn first cap) w := fun _ _ _ _ => rfl
  have HD := Lib.hid hdo
  clear hdo
  cases y with
  | none =>
    go_enter_defers Try.func35, Try.ntmps35
    go_wp2_with (go_at_call 36; refine HD.out.mono ?_; rintro e w1 ⟨rfl, ⟨hc, hz⟩, hR⟩)
    refine leaves_cons (f := 62) (args := #[.pointer (some ⟨w.heap.size, 0, none⟩)]) (by simp) (by simp [go_sem]) ?_
    refine (caught_idle ⟨w.heap.size, 0, none⟩ _).mono ?_
    rintro e u' w'' ⟨rfl, rfl, rfl⟩
    have hc' := World.cell?_setCell_same w1 ⟨w.heap.size, 0, none⟩ (.int .i64 0) hc
    simp [Leaves, settle, results, Try.results35, go_sem, hc']
    exact ⟨w1, hR, hc, rfl⟩
  | some y =>
    go_enter_defers Try.func35, Try.ntmps35
    go_wp2_with (go_at_call 36; refine HD.out.mono ?_; rintro e w1 ⟨rfl, ⟨hc, hz⟩, hR⟩)
    refine leaves_cons (f := 62) (args := #[.pointer (some ⟨w.heap.size, 0, none⟩)]) (by simp) (by simp [go_sem]) ?_
    refine (caught_panicking ⟨w.heap.size, 0, none⟩ 0 y [] _ hc hz).mono ?_
    rintro e u' w'' ⟨rfl, rfl, rfl⟩
    have hc' := World.cell?_setCell_same w1 ⟨w.heap.size, 0, none⟩ (.int .i64 y) hc
    simp [Leaves, settle, results, Try.results35, go_sem, hc']
    exact ⟨w1, hR, hc, rfl⟩
set_option maxHeartbeats 1600000 in
/-- count's closure, caught -/
theorem caught_count (cs : Array Value) (w : World) (y : Option Int) (R : World → Prop)
    (hdo : Calls Try.prog 66 cs (w.alloc (.cells #[.int .i64 0] 28)) fun e w1 => Caught y e ∧ (w1.cell? ⟨w.heap.size, 0, none⟩ = some (.int .i64 0) ∧ w1.frozen? ⟨w.heap.size, 0, none⟩ = false) ∧ R w1) :
    Calls Try.prog 35 #[.func (Fn.func 66) #[] cs] w fun e w' => e = .returned (.int .i64 (y.getD 0)) ∧
      ∃ w1, R w1 ∧ w1.cell? ⟨w.heap.size, 0, none⟩ = some (.int .i64 0) ∧ w' = w1.setCell ⟨w.heap.size, 0, none⟩ (.int .i64 (y.getD 0)) := by
  have hmf : ∀ (fn : Fn) (first cap : Array Value) (w : World), (Instr.makeFunc fn first cap).run Try.prog w = .ok (.func fn first cap) w := fun _ _ _ _ => rfl
  have HD := Lib.hid hdo
  clear hdo
  cases y with
  | none =>
    go_enter_defers Try.func35, Try.ntmps35
    go_wp2_with (go_at_call 66; refine HD.out.mono ?_; rintro e w1 ⟨rfl, ⟨hc, hz⟩, hR⟩)
    refine leaves_cons (f := 62) (args := #[.pointer (some ⟨w.heap.size, 0, none⟩)]) (by simp) (by simp [go_sem]) ?_
    refine (caught_idle ⟨w.heap.size, 0, none⟩ _).mono ?_
    rintro e u' w'' ⟨rfl, rfl, rfl⟩
    have hc' := World.cell?_setCell_same w1 ⟨w.heap.size, 0, none⟩ (.int .i64 0) hc
    simp [Leaves, settle, results, Try.results35, go_sem, hc']
    exact ⟨w1, hR, hc, rfl⟩
  | some y =>
    go_enter_defers Try.func35, Try.ntmps35
    go_wp2_with (go_at_call 66; refine HD.out.mono ?_; rintro e w1 ⟨rfl, ⟨hc, hz⟩, hR⟩)
    refine leaves_cons (f := 62) (args := #[.pointer (some ⟨w.heap.size, 0, none⟩)]) (by simp) (by simp [go_sem]) ?_
    refine (caught_panicking ⟨w.heap.size, 0, none⟩ 0 y [] _ hc hz).mono ?_
    rintro e u' w'' ⟨rfl, rfl, rfl⟩
    have hc' := World.cell?_setCell_same w1 ⟨w.heap.size, 0, none⟩ (.int .i64 y) hc
    simp [Leaves, settle, results, Try.results35, go_sem, hc']
    exact ⟨w1, hR, hc, rfl⟩
end Go.Proofs.Ytdigkdfkaikagaa
