/- A function's value: its cells. -/
import Derived.Test.YtkjhofnkgcjcoaaDoorP08
namespace Go.Proofs.YtkjhofnkgcjcoaaDoor
open Go.RowKit

def Fnc.valP (x : Fnc) (s : FncP) : Value := x.val s
def Fnc.OkP (w : World) (N : Nat) (x : Fnc) (s : FncP) : Prop := x.Ok w N s
theorem Fnc.OkP.later {w w' : World} {N M : Nat} {x : Fnc} {s : FncP} (h : Fnc.OkP w N x s) (hw : Below N w w') (hM : N ≤ M) : Fnc.OkP w' M x s := Fnc.Ok.later h hw hM
theorem Fnc.At.openP {w : World} {N : Nat} {x : Fnc} {b o : Nat} (h : x.At w N b o) : ∃ s : FncP, (∀ j v, (x.cells s)[j]? = some v → w.cell? ⟨b, o + j, none⟩ = some v) ∧ Fnc.OkP w N x s := h.open
theorem infoFnc : (Tryd.prog.info? 39).map (·.size) = some 5 := by kernel_rfl
theorem oneFnc (x : Fnc) (s : FncP) : (x.cells s).all (·.oneCell') = true := by simp [Fnc.cells, Value.oneCell']
end Go.Proofs.YtkjhofnkgcjcoaaDoor
