/- check: the first error of a leakage. -/
import Derived.Test.YtdigkdfkaikagaaL5
namespace Go.Proofs.Ytdigkdfkaikagaa
open Go.RowKit

/-- what a deferred recover makes of an ending -/
def Caught (y : Option Int) : Ending → Prop := fun e => match y with
  | none => e = .returned (.tuple #[])
  | some y => e = panicked y

theorem below_new {w w1 : World} {o : Obj} (h : Below (w.heap.size + 1) (w.alloc o) w1) : Below w.heap.size w w1 :=
  ((Below.refl _ w).alloc (Nat.le_refl _) o).trans (h.mono (Nat.le_succ _))

set_option maxHeartbeats 1600000 in
/-- measure's closure, caught -/
theorem caught_measure (cs : Array Value) (w : World) (y : Option Int) (R : World → Prop)
    (hdo : Calls Try.prog 69 cs (w.alloc (.cells #[.int .i64 0] 28)) fun e w1 => Caught y e ∧ Below (w.heap.size + 1) (w.alloc (.cells #[.int .i64 0] 28)) w1 ∧ R w1) :
    Calls Try.prog 35 #[.func (Fn.func 69) #[] cs] w fun e w' => e = .returned (.int .i64 (y.getD 0)) ∧
      ∃ w1, R w1 ∧ Below w.heap.size w w1 ∧ w' = w1.setCell ⟨w.heap.size, 0, none⟩ (.int .i64 (y.getD 0)) := by
  have hmf : ∀ (fn : Fn) (first cap : Array Value) (w : World), (Instr.makeFunc fn first cap).run Try.prog w = .ok (.func fn first cap) w := fun _ _ _ _ => rfl
  have HD := Lib.hid hdo
  clear hdo
  have HC := Lib.hid (show ∀ w1, Below (w.heap.size + 1) (w.alloc (.cells #[.int .i64 0] 28)) w1 → w1.cell? ⟨w.heap.size, 0, none⟩ = some (.int .i64 0) ∧ w1.frozen? ⟨w.heap.size, 0, none⟩ = false from
    fun w1 hB => ⟨(hB.cell (Nat.lt_succ_self _)).trans (by simp [go_sem]), (hB.frozen (Nat.lt_succ_self _)).trans (by simp [go_sem])⟩)
  cases y with
  | none =>
    go_enter_defers Try.func35, Try.ntmps35
    go_wp2_with (go_at_call 69; refine HD.out.mono ?_; rintro e w1 ⟨rfl, hB, hR⟩; obtain ⟨hc, hz⟩ := HC.out _ hB)
    refine leaves_cons (f := 62) (args := #[.pointer (some ⟨w.heap.size, 0, none⟩)]) (by simp) (by simp [go_sem]) ?_
    refine (caught_idle ⟨w.heap.size, 0, none⟩ _).mono ?_
    rintro e u' w'' ⟨rfl, rfl, rfl⟩
    have hc' := World.cell?_setCell_same w1 ⟨w.heap.size, 0, none⟩ (.int .i64 0) hc
    simp [Leaves, settle, results, Try.results35, go_sem, hc']
    exact ⟨w1, hR, below_new hB, rfl⟩
  | some y =>
    go_enter_defers Try.func35, Try.ntmps35
    go_wp2_with (go_at_call 69; refine HD.out.mono ?_; rintro e w1 ⟨rfl, hB, hR⟩; obtain ⟨hc, hz⟩ := HC.out _ hB)
    refine leaves_cons (f := 62) (args := #[.pointer (some ⟨w.heap.size, 0, none⟩)]) (by simp) (by simp [go_sem]) ?_
    refine (caught_panicking ⟨w.heap.size, 0, none⟩ 0 y [] _ hc hz).mono ?_
    rintro e u' w'' ⟨rfl, rfl, rfl⟩
    have hc' := World.cell?_setCell_same w1 ⟨w.heap.size, 0, none⟩ (.int .i64 y) hc
    simp [Leaves, settle, results, Try.results35, go_sem, hc']
    exact ⟨w1, hR, below_new hB, rfl⟩
end Go.Proofs.Ytdigkdfkaikagaa
