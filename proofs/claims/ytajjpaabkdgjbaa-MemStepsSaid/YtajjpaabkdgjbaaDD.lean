/- Two memories side by side: the program's and the document's. do: what does nothing. -/
import Derived.Test.YtajjpaabkdgjbaaD9
import Derived.Test.YtajjpaabkdgjbaaDC
namespace Go.Proofs.Ytajjpaabkdgjbaa
open Go.RowKit

theorem RefIs.agr {w w' : World} {B g g1 : Nat} {l : List Rg} {bt : Nat → Nat} (h : RefIs w B g l bt) (hA : Agr g1 w w') (hd : g1 < B ∨ g < g1) : RefIs w' B g l bt := by
  obtain ⟨_, _, _, hg⟩ := h.ptr
  have hg2 : g < w.heap.size := hg.2
  exact h.far (fun k h1 h2 => hA.block k (by omega) (by omega)) (Nat.lt_of_lt_of_le hg2 hA.size)
theorem MemIs.gt {w : World} {B g : Nat} {l : List Rg} {f : Nat → Nat} (h : MemIs w B g l f) : B < g ∧ g < w.heap.size := by
  obtain ⟨_, _, _, _, _, _, _, h5, h6, h7, _⟩ := h
  exact ⟨by omega, h7⟩
theorem MemIs.agx {w w' : World} {B g B2 g2 : Nat} {l : List Rg} {f : Nat → Nat} (h : MemIs w B g l f) (hA : AgX B2 g2 w w') (hd : g < B2 ∨ g2 < B) : MemIs w' B g l f := by
  have hg := h.gt
  exact h.far (fun k h1 h2 => hA.block k (by omega) (by omega)) (Nat.lt_of_lt_of_le hg.2 hA.size)

set_option maxHeartbeats 800000 in
theorem do_other (m r : Value) (s : Stp) (w : World) (h1 : s.kind ≠ 1) (h2 : s.kind ≠ 2) (h3 : s.kind ≠ 3) :
    Calls Try.prog 37 #[m, r, .agg #[.int .i64 s.kind, .int .u64 (s.addr : Int), .int .u64 (s.x : Int)]] w fun e w' => e = .returned (.tuple #[m, .bool true]) ∧ Below w.heap.size w w' := by
  have d1 : (s.kind == 1) = false := by simpa using h1
  have d2 : (s.kind == 2) = false := by simpa using h2
  have d3 : (s.kind == 3) = false := by simpa using h3
  go_enter Try.func37, Try.ntmps37
  go_wp2_with fail
  go_ret2
  exact ⟨rfl, (Below.refl _ w).alloc (Nat.le_refl _) _⟩
end Go.Proofs.Ytajjpaabkdgjbaa
