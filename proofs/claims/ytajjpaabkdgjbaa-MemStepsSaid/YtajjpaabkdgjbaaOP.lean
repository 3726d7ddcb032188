/- Regions that come in, as they are read. -/
import Derived.Test.YtajjpaabkdgjbaaRows
import Derived.Test.YtajjpaabkdgjbaaB1
import Derived.JoinedCond
import Derived.ProofKit
import Derived.OpenShut
namespace Go.Proofs.Ytajjpaabkdgjbaa
open Go.ChangeShapes Go.WideShapes Go.ChangeAt Go.RowKit

theorem rg_of (w : World) (b : Nat) : ∀ (n off : Nat), (∀ i, i < n → ∃ y : Rg, w.cell? ⟨b, off + i * 4, none⟩ = some (.string y.name) ∧ w.cell? ⟨b, off + i * 4 + 1, none⟩ = some (.int .i64 y.addr) ∧ w.cell? ⟨b, off + i * 4 + 2, none⟩ = some (.int .i64 y.size) ∧ w.cell? ⟨b, off + i * 4 + 3, none⟩ = some (.bool y.sec)) →
    ∃ l : List Rg, l.length = n ∧ RgAt w l b off
  | 0, _, _ => ⟨[], rfl, trivial⟩
  | n + 1, off, h => by
    obtain ⟨y, h0⟩ := h 0 (Nat.succ_pos _)
    rw [Nat.zero_mul, Nat.add_zero] at h0
    obtain ⟨l, hl, hp⟩ := rg_of w b n (off + 4) fun i hi => by
      have := h (i + 1) (by omega)
      rw [show off + (i + 1) * 4 = off + 4 + i * 4 by omega] at this; exact this
    exact ⟨y :: l, by simp [hl], h0, hp⟩
theorem four {α : Type} {cs : List α} (h : cs.length = 4) : ∃ a b c d, cs = [a, b, c, d] := by
  match cs, h with
  | [a, b, c, d], _ => exact ⟨a, b, c, d, rfl⟩

section
variable {H : Type} {enc : TypeId × Value → H} {w : World}
theorem slice_caps {t e : TypeId} {fuel n c : Nat} {p : Option Addr} {x : DataW H × List MemPlace} (ht : Try.prog.underlying t = some (.slice e)) (h : DataW.trod enc Try.prog w 0 (fun _ => true) true fuel t [.slice p n c] = some x) :
    (p = none → c = 0) ∧ n ≤ c ∧ c ≤ maxLen := by
  rcases DataW.trod_slice ht h with H | H
  · obtain ⟨h1, _⟩ := H
    cases h1
    exact ⟨fun _ => rfl, Nat.le_refl _, Nat.zero_le _⟩
  · obtain ⟨a, len, cap, elems, rest, n', _, h1, _, _, h2, h3, _⟩ := H
    cases h1
    exact ⟨fun h => (by cases h), h2, h3⟩
/-- a slice: its elements' cells and readings -/
theorem slice_cells {t e : TypeId} {fuel k n c : Nat} {p : Option Addr} {x : DataW H × List MemPlace} (hk : Try.prog.cellsOf e = k) (hk0 : 0 < k) (ht : Try.prog.underlying t = some (.slice e)) (h : DataW.trod enc Try.prog w 0 (fun _ => true) true fuel t [.slice p n c] = some x) :
    n = 0 ∨ ∃ b off m, p = some ⟨b, off, none⟩ ∧ b < w.heap.size ∧ ∀ i, i < n → ∃ cs' y, cs'.length = k ∧ (∀ j, j < k → w.cell? ⟨b, off + i * k + j, none⟩ = cs'[j]?) ∧ DataW.trod enc Try.prog w 0 (fun _ => true) true m e cs' = some y := by
  rcases DataW.trod_slice ht h with ⟨h1, _⟩ | ⟨a, len, cap, elems, rest, n', _, h1, _, _, _, _, hlen, hel, _, _⟩
  · cases h1; exact .inl rfl
  · cases h1
    by_cases h0 : n = 0
    · exact .inl h0
    · right
      rw [hk] at hel
      have key : ∀ i, i < n → ∃ cs' y, cs'.length = k ∧ (∀ j, j < k → w.cell? ((a.add (i * k)).add j) = cs'[j]?) ∧ DataW.trod enc Try.prog w 0 (fun _ => true) true n' e cs' = some y := by
        intro i hi
        have := hel i hi
        rw [List.getElem?_eq_getElem (by omega)] at this
        obtain ⟨cs', h1, h2⟩ := Option.bind_eq_some_iff.1 this
        obtain ⟨_, hl, hc⟩ := World.cells?_some h1
        exact ⟨cs', _, hl, hc, h2⟩
      obtain ⟨cs0, y0, hl0, hc0, _⟩ := key 0 (by omega)
      have hcell := hc0 0 hk0
      rw [List.getElem?_eq_getElem (by omega)] at hcell
      obtain ⟨b, off, spot⟩ := a
      have hspot : spot = none := by simpa [Addr.add] using World.cell?_spot hcell
      subst hspot
      refine ⟨b, off, n', rfl, by simpa [Addr.add] using World.block_lt_of_cell? _ _ hcell, fun i hi => ?_⟩
      obtain ⟨cs', y, hl, hc, hr⟩ := key i hi
      exact ⟨cs', y, hl, fun j hj => by have h1 := hc j hj; rw [add_of, add_of] at h1; exact h1, hr⟩
theorem cellsRg : Try.prog.cellsOf 66 = 4 := by kernel_rfl
theorem cOne (t : TypeId) (h : t = 9 ∨ t = 3 ∨ t = 4) : Try.prog.cellsOf t = 1 := by
  rcases h with rfl | rfl | rfl <;> kernel_rfl
theorem open_rgs {fuel n c : Nat} {p : Option Addr} {x : DataW H × List MemPlace} (h : DataW.trod enc Try.prog w 0 (fun _ => true) true fuel 22 [.slice p n c] = some x) :
    ∃ l : List Rg, n = l.length ∧ RgIn w w.heap.size l p ∧ l.length ≤ c ∧ c ≤ 9223372036854775807 ∧ (p = none → c = 0) := by
  obtain ⟨c1, c2, c3⟩ := slice_caps Try.underlying22 h
  unfold maxLen at c3
  rcases slice_cells cellsRg (by decide) Try.underlying22 h with h0 | ⟨b, off, m, rfl, hbl, hel⟩
  · exact ⟨[], h0, ⟨by simp, .inl rfl⟩, by simp, c3, c1⟩
  · obtain ⟨l, hl, hp⟩ := rg_of w b n off (fun i hi => by
      obtain ⟨cs', y, hl, hc, hr⟩ := hel i hi
      obtain ⟨xs, n', _, _, hl, hx, hf⟩ := DataW.trod_struct Try.underlying66 hr
      rw [cellsRg] at hl
      obtain ⟨a, b', c', d', rfl⟩ := four hl
      obtain ⟨x0, x1, x2, x3, rfl⟩ := four hx
      have h0 : DataW.trod enc Try.prog w 0 (fun _ => true) true n' 9 (List.take (Try.prog.cellsOf 9) [a, b', c', d']) = some x0 := hf 0 _ rfl
      have h1 : DataW.trod enc Try.prog w 0 (fun _ => true) true n' 3 (List.take (Try.prog.cellsOf 3) [b', c', d']) = some x1 := hf 1 _ rfl
      have h2 : DataW.trod enc Try.prog w 0 (fun _ => true) true n' 3 (List.take (Try.prog.cellsOf 3) [c', d']) = some x2 := hf 2 _ rfl
      have h3 : DataW.trod enc Try.prog w 0 (fun _ => true) true n' 4 (List.take (Try.prog.cellsOf 4) [d']) = some x3 := hf 3 _ rfl
      rw [cOne _ (by simp)] at h0 h1 h2 h3
      obtain ⟨z0, e0, _, _⟩ := DataW.trod_string Try.underlying9 h0
      obtain ⟨z1, e1, _, _⟩ := DataW.trod_int Try.underlying3 h1
      obtain ⟨z2, e2, _, _⟩ := DataW.trod_int Try.underlying3 h2
      obtain ⟨z3, e3, _⟩ := DataW.trod_bool Try.underlying4 h3
      simp at e0 e1 e2 e3
      subst e0; subst e1; subst e2; subst e3
      exact ⟨⟨z0, z1, z2, z3⟩, hc 0 (by decide), hc 1 (by decide), hc 2 (by decide), hc 3 (by decide)⟩)
    exact ⟨l, hl.symm, ⟨by omega, .inr ⟨b, off, rfl, hbl, hp⟩⟩, by omega, c3, c1⟩
end
end Go.Proofs.Ytajjpaabkdgjbaa
