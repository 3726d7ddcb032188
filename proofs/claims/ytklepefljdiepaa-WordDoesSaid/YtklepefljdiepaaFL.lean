/- The flags, handed in by value: their value is five bools, and reads as five bools. -/
import Derived.Test.YtklepefljdiepaaRows
import Derived.ProofKit
namespace Go.Proofs.Ytklepefljdiepaa
open Go.ChangeShapes Go.WideShapes Go.ChangeAt Go.RowKit
variable {H : Type} {enc : TypeId × Value → H}
theorem five {α : Type} {l : List α} (h : l.length = 5) : ∃ a b c d e, l = [a, b, c, d, e] := by
  rcases l with _ | ⟨a, _ | ⟨b, _ | ⟨c, _ | ⟨d, _ | ⟨e, _ | ⟨f, r⟩⟩⟩⟩⟩⟩
  all_goals first | exact ⟨_, _, _, _, _, rfl⟩ | simp at h
theorem open_flags {w : World} {base b0 : Nat} {spare : Nat → Bool} {held : Bool} {r : Reach} {v : Value} {d : DataW H} {p : List MemPlace} (hv : Value.okWide Try.prog w r b0 36 v) (h : DataW.Trod enc Try.prog w base spare held 36 v d p) :
    ∃ c z s o q : Bool, v = .agg #[.bool c, .bool z, .bool s, .bool o, .bool q] ∧ d = .agg [.lit (.bool c), .lit (.bool z), .lit (.bool s), .lit (.bool o), .lit (.bool q)] ∧ p = [] := by
  obtain ⟨cs, rfl, hsz⟩ := okWide_struct Try.underlying36 hv
  obtain ⟨fuel, hf⟩ := h
  obtain ⟨xs, n, _, hx, hl, hxl, hfs⟩ := DataW.trod_struct Try.underlying36 hf
  have c36 : Try.prog.cellsOf 36 = 5 := by kernel_rfl
  have c4 : Try.prog.cellsOf 4 = 1 := by kernel_rfl
  obtain ⟨l⟩ := cs
  obtain ⟨v0, v1, v2, v3, v4, rfl⟩ := five (l := l) (by rw [c36] at hsz; exact hsz)
  obtain ⟨x0, x1, x2, x3, x4, rfl⟩ := five (l := xs) hxl
  have f0 := hfs 0 _ rfl
  have f1 := hfs 1 _ rfl
  have f2 := hfs 2 _ rfl
  have f3 := hfs 3 _ rfl
  have f4 := hfs 4 _ rfl
  simp [c4] at f0 f1 f2 f3 f4
  obtain ⟨b0, e0, y0⟩ := DataW.trod_bool Try.underlying4 f0
  obtain ⟨b1, e1, y1⟩ := DataW.trod_bool Try.underlying4 f1
  obtain ⟨b2, e2, y2⟩ := DataW.trod_bool Try.underlying4 f2
  obtain ⟨b3, e3, y3⟩ := DataW.trod_bool Try.underlying4 f3
  obtain ⟨b4, e4, y4⟩ := DataW.trod_bool Try.underlying4 f4
  simp [Value.cells] at e0 e1 e2 e3 e4
  simp only [Prod.mk.injEq] at hx
  refine ⟨b0, b1, b2, b3, b4, ?_, ?_, ?_⟩
  · rw [e0, e1, e2, e3, e4]
  · rw [hx.1]; simp [y0, y1, y2, y3, y4]
  · rw [hx.2]; simp [y0, y1, y2, y3, y4]
theorem shut_flags {w : World} {base : Nat} {spare : Nat → Bool} {held : Bool} (c z s o q : Bool) :
    DataW.Trod enc Try.prog w base spare held 36 (.agg #[.bool c, .bool z, .bool s, .bool o, .bool q]) (.agg [.lit (.bool c), .lit (.bool z), .lit (.bool s), .lit (.bool o), .lit (.bool q)]) [] := by
  have c36 : Try.prog.cellsOf 36 = 5 := by kernel_rfl
  have c4 : Try.prog.cellsOf 4 = 1 := by kernel_rfl
  refine ⟨2, ?_⟩
  have := trod_struct_mk (enc := enc) (w := w) (base := base) (spare := spare) (held := held) (n := 1) (cs := [.bool c, .bool z, .bool s, .bool o, .bool q]) (xs := [(.lit (.bool c), []), (.lit (.bool z), []), (.lit (.bool s), []), (.lit (.bool o), []), (.lit (.bool q), [])]) Try.underlying36 (by rw [c36]; rfl) (by
    simp [c4, DataW.trod, Try.underlying4])
  simpa [Value.cells] using this
end Go.Proofs.Ytklepefljdiepaa
