/- Is an expression nothing; the count. -/
import Derived.Test.YthdjkjnkjkakpaaM4
namespace Go.Proofs.Ythdjkjnkjkakpaa
open Go.RowKit

def Ex.isZ (x : Ex) : Bool := (x.op == 0) && (((x.word : Nat) : Int) == 0) && x.name.isEmpty && (((x.args.len : Nat) : Int) == 0)
set_option maxHeartbeats 800000 in
theorem zeroE_any (x : Ex) (N b o : Nat) (w : World) (h : x.At w N b o) :
    Calls Try.prog 93 #[.pointer (some ⟨b, o, none⟩)] w fun z w' => z = .returned (.bool x.isZ) ∧ w' = w := by
  obtain ⟨p, c, c0, c1, c2, c3, _⟩ := h.open'
  have e3 : (str x.name).toList.isEmpty = x.name.isEmpty := by rw [Lib.toList_data, str_data]
  unfold Ex.isZ
  generalize e1 : (x.op == 0) = t1
  generalize e2 : (((x.word : Nat) : Int) == 0) = t2
  generalize x.name.isEmpty = t3 at e3
  generalize e4 : (((x.args.len : Nat) : Int) == 0) = t4
  clear h
  cases t1 <;> cases t2 <;> cases t3 <;> cases t4 <;>
  · go_enter Try.func93, Try.ntmps93
    go_wp2
    go_ret
    exact ⟨rfl, rfl⟩

/-- the count's cell -/
def Ct (w : World) (g n : Nat) : Prop := w.heap[g]? = some (.cells #[.int .i64 (n : Int)] 3 (0, 0))
theorem Ct.later {w w' : World} {g n : Nat} (h : Ct w g n) (hB : Below w.heap.size w w') : Ct w' g n := (hB.block g (lt_blk h)).trans h
theorem But.set {g : Nat} {a w : World} (h : But g a w) (j : Nat) (v : Value) : But g a (w.setCell ⟨g, j, none⟩ v) :=
  ⟨h.os, h.tape, h.output, by simpa [World.setCell] using h.size, fun k hk hn => (Below.heap_setCell w _ _ _ hn).trans (h.block k hk hn)⟩
theorem heap_setCell_one {w : World} {g : Nat} {u : Value} {t : TypeId} (h : w.heap[g]? = some (.cells #[u] t (0, 0))) (v : Value) : (w.setCell ⟨g, 0, none⟩ v).heap[g]? = some (.cells #[v] t (0, 0)) := by
  rw [setCell_eq_setRow w g 0 _ t (0, 0) _ h]; exact setRow_heap w g _ _ t (0, 0) h
theorem count_yes (g n : Nat) (w : World) (h : Ct w g n) (hn : n < 65536) :
    Calls Try.prog 75 #[.pointer (some ⟨g, 0, none⟩)] w fun z w' => z = .returned (.tuple #[]) ∧ Ct w' g (n + 1) ∧ But g w w' := by
  have c0 := cell_blk h (j := 0) rfl
  have f0 : w.frozen? ⟨g, 0, none⟩ = false := by simp [World.frozen?, show w.heap[g]? = _ from h]
  have hw : IntKind.i64.wrap ((n : Int) + 1) = (n : Int) + 1 := by simp [IntKind.wrap, IntKind.bits, IntKind.signed]; omega
  have hle : decide ((n : Int) + 1 ≤ 65536) = true := decide_eq_true (by omega)
  have HR := Lib.hid (show Ct (w.setCell ⟨g, 0, none⟩ (.int .i64 ((n : Int) + 1))) g (n + 1) ∧ But g w (w.setCell ⟨g, 0, none⟩ (.int .i64 ((n : Int) + 1))) from ⟨heap_setCell_one h _, (But.refl g w).set 0 _⟩)
  clear h
  go_enter Try.func75, Try.ntmps75
  go_wp2_with (go_at_call 57; refine (must_yes 13 _).mono ?_; rintro e w' ⟨rfl, rfl⟩)
  go_end0
  exact ⟨rfl, HR.out⟩
theorem count_no (g : Nat) (w : World) (h : Ct w g 65536) :
    Calls Try.prog 75 #[.pointer (some ⟨g, 0, none⟩)] w fun z w' => z = Pn 13 ∧ Ct w' g 65537 ∧ But g w w' := by
  have c0 := cell_blk h (j := 0) rfl
  have f0 : w.frozen? ⟨g, 0, none⟩ = false := by simp [World.frozen?, show w.heap[g]? = _ from h]
  have HR := Lib.hid (show Ct (w.setCell ⟨g, 0, none⟩ (.int .i64 65537)) g 65537 ∧ But g w (w.setCell ⟨g, 0, none⟩ (.int .i64 65537)) from ⟨heap_setCell_one h _, (But.refl g w).set 0 _⟩)
  clear h
  go_enter Try.func75, Try.ntmps75
  go_wp2_with (go_at_call 57; refine (must_no 13 _).mono ?_; rintro e w' ⟨rfl, rfl⟩; unfold Pn)
  exact ⟨rfl, rfl, HR.out⟩
end Go.Proofs.Ythdjkjnkjkakpaa
