/- A whole struct loaded, and laid into a block of its own, in one step. -/
import Derived.Test.YtkjhofnkgcjcoaaDoorP00
import Derived.Deep.MidRow
import Derived.Test.YtkjhofnkgcjcoaaDoorP08
import Derived.Test.YtkjhofnkgcjcoaaDoorP04
namespace Go.Proofs.YtkjhofnkgcjcoaaDoor
open Go.RowKit

theorem setCells_new (w : World) (t : TypeId) : ∀ (vs pre suf : List Value), suf.length = vs.length →
    (w.alloc (.cells (pre ++ suf).toArray t)).setCells w.heap.size pre.length vs = w.alloc (.cells (pre ++ vs).toArray t)
  | [], pre, suf, h => by
    have : suf = [] := List.eq_nil_of_length_eq_zero h
    subst this; rfl
  | v :: vs, pre, [], h => by simp at h
  | v :: vs, pre, x :: suf, h => by
    rw [World.setCells]
    have h1 : (w.alloc (.cells (pre ++ x :: suf).toArray t)).setCell ⟨w.heap.size, pre.length, none⟩ v = w.alloc (.cells ((pre ++ [v]) ++ suf).toArray t) := by
      rw [World.setCell_alloc_at _ _ _ _ _ rfl]
      congr 2
      simp
    rw [h1]
    have := setCells_new w t vs (pre ++ [v]) suf (by simpa using h)
    simp only [List.length_append, List.length_cons, List.length_nil] at this
    rw [this]
    simp
theorem wpl_load {P : Program} {ops : Array Oper} {rest : List Oper} {op : Oper} {a : Act} {w : World} {Q : Exit → Act → World → Prop} (hgd : op.guard = none) (ty : TypeId) (x : Operand) (ho : op.op = .load ty x)
    (b o : Nat) (hx : a.eval x = .pointer (some ⟨b, o, none⟩)) (A : Array Value) (d : TypeDesc) (hc : w.rangeAt b o A.toList)
    (hu : P.underlying ty = some d) (hd : d.isRow = true) (hi : (P.info? ty).map (·.size) = some A.size)
    (h : wpList P ops Q rest (a.put op.dst (.agg A)) w) : wpList P ops Q (op :: rest) a w :=
  wpList_load_mid hgd ty x ho b o hx A.toList d hc hu hd (by rw [hi]; simp) (by simpa using h)
theorem wpl_store_new {P : Program} {ops : Array Oper} {rest : List Oper} {op : Oper} {a : Act} {w : World} {Q : Exit → Act → World → Prop} (hgd : op.guard = none) (ty : TypeId) (x y : Operand) (ho : op.op = .store ty x y)
    (Z A : Array Value) (t : TypeId) (hx : a.eval x = .pointer (some ⟨w.heap.size, 0, none⟩)) (hy : a.eval y = .agg A) (hZ : Z.size = A.size)
    (hi : (P.info? ty).map (·.size) = some A.size) (h1 : A.all (·.oneCell') = true)
    (h : wpList P ops Q rest (a.put op.dst undef) (w.alloc (.cells A t))) : wpList P ops Q (op :: rest) a (w.alloc (.cells Z t)) := by
  refine wpList_store_mid hgd ty x y ho w.heap.size 0 A hx hy ?_ hi h1 ?_
  · intro j hj
    refine ⟨?_, by simp [go_sem]⟩
    rw [Nat.zero_add, show (w.alloc (.cells Z t)).cell? ⟨w.heap.size, j, none⟩ = Z[j]? by simp [go_sem]]
    rw [Array.getElem?_eq_getElem (by omega)]; rfl
  · have := setCells_new w t A.toList [] Z.toList (by simp [hZ])
    simp only [List.nil_append, List.length_nil, Array.toArray_toList] at this
    rw [this]
    exact h
theorem range_new (w : World) (A : Array Value) (t : TypeId) : (w.alloc (.cells A t)).rangeAt w.heap.size 0 A.toList := by
  intro j v hv
  rw [Nat.zero_add, show (w.alloc (.cells A t)).cell? ⟨w.heap.size, j, none⟩ = A[j]? by simp [go_sem], ← Array.getElem?_toList]
  exact hv
theorem range_later {N b o : Nat} {w w' : World} {cs : List Value} (h : w.rangeAt b o cs) (hb : b < N) (hB : Below N w w') : w'.rangeAt b o cs := fun j v hv => (hB.cell hb).trans (h j v hv)
end Go.Proofs.YtkjhofnkgcjcoaaDoor
/- Two statements are the same: the program's. -/
namespace Go.Proofs.YtkjhofnkgcjcoaaDoor
open Go.RowKit

def St.valP (x : St) (s : StP) : Value := x.val s
def St.OkP (w : World) (N : Nat) (x : St) (s : StP) : Prop := x.Ok w N s
theorem St.OkP.later {w w' : World} {N M : Nat} {x : St} {s : StP} (h : St.OkP w N x s) (hw : Below N w w') (hM : N ≤ M) : St.OkP w' M x s := St.Ok.later h hw hM
theorem St.At.openP {w : World} {N : Nat} {x : St} {b o : Nat} (h : x.At w N b o) : ∃ s : StP, (∀ j v, (x.cells s)[j]? = some v → w.cell? ⟨b, o + j, none⟩ = some v) ∧ St.OkP w N x s := h.open
def Sts.toL : Sts → List St
  | .nil => []
  | .cons x r => x :: r.toL
theorem Sts.toL_len : ∀ l : Sts, l.len = l.toL.length
  | .nil => rfl
  | .cons x r => by simp [Sts.len, Sts.toL, Sts.toL_len r]
theorem Sts.toL_inj : ∀ {l m : Sts}, l.toL = m.toL → l = m
  | .nil, .nil, _ => rfl
  | .nil, .cons _ _, h => by cases h
  | .cons _ _, .nil, h => by cases h
  | .cons x r, .cons y z, h => by simp only [Sts.toL, List.cons.injEq] at h; rw [h.1, Sts.toL_inj h.2]
theorem Sts.toL_size : ∀ {l : Sts} {x : St}, x ∈ l.toL → x.size < l.size
  | .cons y r, x, h => by
    rcases List.mem_cons.1 h with rfl | h
    · simp only [Sts.size]; omega
    · have := Sts.toL_size h; simp only [Sts.size]; omega
theorem Sts.row {w : World} {N b : Nat} : ∀ (l : Sts) (o : Nat), l.At w N b o → Row (St.At w N) 16 l.toL b o
  | .nil, _, _ => trivial
  | .cons _x r, o, h => ⟨h.1, Sts.row r (o + 16) h.2⟩
theorem Sts.rowIn {w : World} {N : Nat} {l : Sts} {p : Option Addr} (h : l.In w N p) : RowIn N (St.At w N) 16 l.toL p := by
  unfold RowIn
  rw [← Sts.toL_len]
  exact Sl.imp h (Nat.le_refl _) fun b o _ ha => Sts.row l o ha
theorem eqB_sts (l m : Sts) : eqB l.toL m.toL = eqB l m := eqB_iff ⟨Sts.toL_inj, fun e => by rw [e]⟩
theorem cells_later {w0 w1 : World} {b : Nat} {A : Array Value} {t : TypeId} (h : w0.heap[b]? = some (.cells A t (0, 0))) (hb : Below w0.heap.size w0 w1) : ∀ j v, A[j]? = some v → w1.cell? ⟨b, j, none⟩ = some v := by
  intro j v hv
  have h1 := (hb.block _ (lt_of_block h)).trans h
  simp [World.cell?, h1, hv]
theorem infoSt : (Tryd.prog.info? 35).map (·.size) = some 16 := by kernel_rfl
theorem oneSt (x : St) (s : StP) : (x.cells s).all (·.oneCell') = true := by simp [St.cells, Value.oneCell']

end Go.Proofs.YtkjhofnkgcjcoaaDoor
/- The document's Depth. -/
namespace Go.Proofs.YtkjhofnkgcjcoaaDoor
open Go.RowKit

/-- an argument that lies in a row: its cells, and that it is an expression -/
theorem Ex.At.open {w : World} {N : Nat} {x : Ex} {b o : Nat} (h : x.At w N b o) : ∃ p c, w.cell? ⟨b, o, none⟩ = some (.int .i64 x.op) ∧ w.cell? ⟨b, o + 1, none⟩ = some (.int .u64 (x.word : Int)) ∧ w.cell? ⟨b, o + 2, none⟩ = some (.string (str x.name)) ∧ w.cell? ⟨b, o + 3, none⟩ = some (.slice p x.args.len c) ∧ x.Ok w N p := by
  obtain ⟨op, wd, nm, ar⟩ := x
  obtain ⟨⟨h0, h1, h2, h3⟩, ⟨p, c, h4, s4⟩⟩ := h
  exact ⟨p, c, h0, h1, h2, h4, s4, h3⟩

end Go.Proofs.YtkjhofnkgcjcoaaDoor
/- How much an expression has: the document's countExpr, LongExpr. -/
namespace Go.Proofs.YtkjhofnkgcjcoaaDoor
open Go.RowKit

mutual
def Ex.total : Ex → Nat
  | .mk _ _ nm a => 1 + nm.length + a.total
def Exs.total : Exs → Nat
  | .nil => 0
  | .cons x r => x.total + r.total
end
end Go.Proofs.YtkjhofnkgcjcoaaDoor
