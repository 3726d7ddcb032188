/- Rewriting the chapter's rows: lists. -/
import Derived.Test.YtdigkdfkaikagaaR6
namespace Go.Proofs.Ytdigkdfkaikagaa
open Go.RowKit

theorem step_call_panic {P : Program} {ops : Array Oper} {o : Oper} {a : Act} {w : World} {K : Act → World → Prop} {Q : Exit → Act → World → Prop} {E : Prop} {R : Ending → World → Prop}
    (hgd : Region.wanted o (yielded ops a.tmps) = true) (f : FuncId) (args : Array Value) (he : (execOp a.eval o).run P w = .ok (.enter f args) w) (hc : Calls P f args w R) (h : ∀ e w', R e w' → ∃ ch, e = .panicked ch ∧ Q (.panic ch) a w')
    (_d : wpAny P Region.Mode.any #[] (fun _ _ _ => True) 0 #[] a w) :
    if Region.wanted o (yielded ops a.tmps) = true then Oper.wp P o a w K Q else E := by
  rw [if_pos hgd]
  unfold Oper.wp
  rw [he, Oper.upon_enter]
  exact hc.mono fun e w' hr => by obtain ⟨ch, rfl, hk⟩ := h e w' hr; exact hk

set_option maxRecDepth 100000 in
set_option maxHeartbeats 3200000 in
theorem way_B (g _m gr bl ol : Nat) (_q4 : Option Addr) (_c4 _d4 : Nat) (br : Bool) (v : Value) (pv : Value) (gi sz : Int) (sv : Value) (w : World)
    (hrec : Rec w gr 4 true pv gi sz sv) (h0 : w.cell? ⟨bl, ol, none⟩ = some (.int .i64 2)) (h2 : w.cell? ⟨bl, ol + 2, none⟩ = some (.bool false)) :
    Calls Try.prog 56 #[.pointer (some ⟨g, 0, none⟩), v, .pointer (some ⟨gr, 0, none⟩), .pointer (some ⟨bl, ol, none⟩), .bool br] w fun e w' => e = panicked 2 ∧ Below w.heap.size w w' := by
  obtain ⟨c0, c1, _, _, _, _⟩ := hrec
  have MT := Lib.hid must_false
  have HB := Lib.hid (Below.refl w.heap.size w)
  go_enter Try.func56, Try.ntmps56
  have HBd := Lib.hid HB.out.drew
  go_wp2_with fail
  go_region_law? (refine step_call_panic (by simp [Region.wanted, go_sem]) 74 #[.bool false] (by simp [Act.eval, Act.put, go_sem]) (MT.out _) (by rintro e w' ⟨rfl, rfl⟩; exact ⟨_, rfl, rfl, rfl, HBd.out⟩) ?_)
  all_goals trivial

end Go.Proofs.Ytdigkdfkaikagaa
