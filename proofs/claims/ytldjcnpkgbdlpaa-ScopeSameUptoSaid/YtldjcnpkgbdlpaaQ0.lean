/- A whole struct loaded, and laid into a block of its own, in one step. -/
import Derived.Test.YtldjcnpkgbdlpaaA1
import Derived.Deep.MidRow
namespace Go.Proofs.Ytldjcnpkgbdlpaa
open Go.RowKit

theorem setCells_new (w : World) (t : TypeId) : ∀ (vs pre suf : List Value), suf.length = vs.length →
    (w.alloc (.cells (pre ++ suf).toArray t)).setCells w.heap.size pre.length vs = w.alloc (.cells (pre ++ vs).toArray t)
  | [], pre, suf, h => by
    have : suf = [] := List.eq_nil_of_length_eq_zero h
    subst this; rfl
  | v :: vs, pre, [], h => by simp at h
  | v :: vs, pre, x :: suf, h => by
    rw [World.setCells]
    have h1 : (w.alloc (.cells (pre ++ x :: suf).toArray t)).setCell ⟨w.heap.size, pre.length, none⟩ v = w.alloc (.cells ((pre ++ [v]) ++ suf).toArray t) := by
      rw [World.setCell_alloc_at _ _ _ _ _ rfl]
      congr 2
      simp
    rw [h1]
    have := setCells_new w t vs (pre ++ [v]) suf (by simpa using h)
    simp only [List.length_append, List.length_cons, List.length_nil] at this
    rw [this]
    simp
theorem wpl_load {P : Program} {ops : Array Oper} {rest : List Oper} {op : Oper} {a : Act} {w : World} {Q : Exit → Act → World → Prop} (hgd : op.guard = none) (ty : TypeId) (x : Operand) (ho : op.op = .load ty x)
    (b o : Nat) (hx : a.eval x = .pointer (some ⟨b, o, none⟩)) (A : Array Value) (d : TypeDesc) (hc : w.rangeAt b o A.toList)
    (hu : P.underlying ty = some d) (hd : d.isRow = true) (hi : (P.info? ty).map (·.size) = some A.size)
    (h : wpList P ops Q rest (a.put op.dst (.agg A)) w) : wpList P ops Q (op :: rest) a w :=
  wpList_load_mid hgd ty x ho b o hx A.toList d hc hu hd (by rw [hi]; simp) (by simpa using h)
theorem wpl_store_new {P : Program} {ops : Array Oper} {rest : List Oper} {op : Oper} {a : Act} {w : World} {Q : Exit → Act → World → Prop} (hgd : op.guard = none) (ty : TypeId) (x y : Operand) (ho : op.op = .store ty x y)
    (Z A : Array Value) (t : TypeId) (hx : a.eval x = .pointer (some ⟨w.heap.size, 0, none⟩)) (hy : a.eval y = .agg A) (hZ : Z.size = A.size)
    (hi : (P.info? ty).map (·.size) = some A.size) (h1 : A.all (·.oneCell') = true)
    (h : wpList P ops Q rest (a.put op.dst undef) (w.alloc (.cells A t))) : wpList P ops Q (op :: rest) a (w.alloc (.cells Z t)) := by
  refine wpList_store_mid hgd ty x y ho w.heap.size 0 A hx hy ?_ hi h1 ?_
  · intro j hj
    refine ⟨?_, by simp [go_sem]⟩
    rw [Nat.zero_add, show (w.alloc (.cells Z t)).cell? ⟨w.heap.size, j, none⟩ = Z[j]? by simp [go_sem]]
    rw [Array.getElem?_eq_getElem (by omega)]; rfl
  · have := setCells_new w t A.toList [] Z.toList (by simp [hZ])
    simp only [List.nil_append, List.length_nil, Array.toArray_toList] at this
    rw [this]
    exact h
theorem range_new (w : World) (A : Array Value) (t : TypeId) : (w.alloc (.cells A t)).rangeAt w.heap.size 0 A.toList := by
  intro j v hv
  rw [Nat.zero_add, show (w.alloc (.cells A t)).cell? ⟨w.heap.size, j, none⟩ = A[j]? by simp [go_sem], ← Array.getElem?_toList]
  exact hv
theorem range_later {N b o : Nat} {w w' : World} {cs : List Value} (h : w.rangeAt b o cs) (hb : b < N) (hB : Below N w w') : w'.rangeAt b o cs := fun j v hv => (hB.cell hb).trans (h j v hv)
end Go.Proofs.Ytldjcnpkgbdlpaa
