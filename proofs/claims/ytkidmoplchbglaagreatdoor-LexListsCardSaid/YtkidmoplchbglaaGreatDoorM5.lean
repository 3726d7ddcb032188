/- Tokens that come in, as they are read. -/
import Derived.Test.YtkidmoplchbglaaGreatDoorRows
import Derived.Test.YtkidmoplchbglaaGreatDoorM4
import Derived.JoinedCond
import Derived.ProofKit
import Derived.OpenShut
namespace Go.Proofs.YtkidmoplchbglaaGreatDoor
open Go.ChangeShapes Go.WideShapes Go.ChangeAt Go.RowKit

theorem tks_of (w : World) (b : Nat) (K : Tz → Prop) : ∀ (n off : Nat), (∀ i, i < n → ∃ y : Tz, TzAt w y b (off + i * 5) ∧ K y) →
    ∃ l : List Tz, l.length = n ∧ (∀ i t, l[i]? = some t → TzAt w t b (off + i * 5)) ∧ ∀ t ∈ l, K t
  | 0, _, _ => ⟨[], rfl, fun _ _ h => (by cases h), fun _ h => (by cases h)⟩
  | n + 1, off, h => by
    obtain ⟨y, h0, k0⟩ := h 0 (Nat.succ_pos _)
    obtain ⟨l, hl, hp, hk⟩ := tks_of w b K n (off + 5) fun i hi => by
      have := h (i + 1) (by omega)
      rw [show off + (i + 1) * 5 = off + 5 + i * 5 by omega] at this; exact this
    refine ⟨y :: l, by simp [hl], fun i t ht => ?_, fun t ht => ?_⟩
    · cases i with
      | zero => simp at ht; subst ht; exact h0
      | succ i =>
        have := hp i t (by simpa using ht)
        rw [show off + (i + 1) * 5 = off + 5 + i * 5 by omega]; exact this
    · rcases List.mem_cons.1 ht with rfl | ht
      · exact k0
      · exact hk t ht
theorem five {α : Type} {cs : List α} (h : cs.length = 5) : ∃ a b c d e, cs = [a, b, c, d, e] := by
  match cs, h with
  | [a, b, c, d, e], _ => exact ⟨a, b, c, d, e, rfl⟩

section
variable {H : Type} {enc : TypeId × Value → H} {w : World}
theorem slice_caps {t e : TypeId} {fuel n c : Nat} {p : Option Addr} {x : DataW H × List MemPlace} (ht : Tryz.prog.underlying t = some (.slice e)) (h : DataW.trod enc Tryz.prog w 0 (fun _ => true) true fuel t [.slice p n c] = some x) :
    (p = none → c = 0) ∧ n ≤ c ∧ c ≤ maxLen := by
  rcases DataW.trod_slice ht h with H | H
  · obtain ⟨h1, _⟩ := H
    cases h1
    exact ⟨fun _ => rfl, Nat.le_refl _, Nat.zero_le _⟩
  · obtain ⟨a, len, cap, elems, rest, n', _, h1, _, _, h2, h3, _⟩ := H
    cases h1
    exact ⟨fun h => (by cases h), h2, h3⟩
theorem add_of (b off j : Nat) : (⟨b, off, none⟩ : Addr).add j = ⟨b, off + j, none⟩ := by
  rcases j with _ | j
  · rfl
  · simp [Addr.add]
/-- a slice: its elements' cells and readings -/
theorem slice_cells {t e : TypeId} {fuel k n c : Nat} {p : Option Addr} {x : DataW H × List MemPlace} (hk : Tryz.prog.cellsOf e = k) (hk0 : 0 < k) (ht : Tryz.prog.underlying t = some (.slice e)) (h : DataW.trod enc Tryz.prog w 0 (fun _ => true) true fuel t [.slice p n c] = some x) :
    n = 0 ∨ ∃ b off m, p = some ⟨b, off, none⟩ ∧ b < w.heap.size ∧ ∀ i, i < n → ∃ cs' y, cs'.length = k ∧ (∀ j, j < k → w.cell? ⟨b, off + i * k + j, none⟩ = cs'[j]?) ∧ DataW.trod enc Tryz.prog w 0 (fun _ => true) true m e cs' = some y := by
  rcases DataW.trod_slice ht h with ⟨h1, _⟩ | ⟨a, len, cap, elems, rest, n', _, h1, _, _, _, _, hlen, hel, _, _⟩
  · cases h1; exact .inl rfl
  · cases h1
    by_cases h0 : n = 0
    · exact .inl h0
    · right
      rw [hk] at hel
      have key : ∀ i, i < n → ∃ cs' y, cs'.length = k ∧ (∀ j, j < k → w.cell? ((a.add (i * k)).add j) = cs'[j]?) ∧ DataW.trod enc Tryz.prog w 0 (fun _ => true) true n' e cs' = some y := by
        intro i hi
        have := hel i hi
        rw [List.getElem?_eq_getElem (by omega)] at this
        obtain ⟨cs', h1, h2⟩ := Option.bind_eq_some_iff.1 this
        obtain ⟨_, hl, hc⟩ := World.cells?_some h1
        exact ⟨cs', _, hl, hc, h2⟩
      obtain ⟨cs0, y0, hl0, hc0, _⟩ := key 0 (by omega)
      have hcell := hc0 0 hk0
      rw [List.getElem?_eq_getElem (by omega)] at hcell
      obtain ⟨b, off, spot⟩ := a
      have hspot : spot = none := by simpa [Addr.add] using World.cell?_spot hcell
      subst hspot
      refine ⟨b, off, n', rfl, by simpa [Addr.add] using World.block_lt_of_cell? _ _ hcell, fun i hi => ?_⟩
      obtain ⟨cs', y, hl, hc, hr⟩ := key i hi
      exact ⟨cs', y, hl, fun j hj => by have h1 := hc j hj; rw [add_of, add_of] at h1; exact h1, hr⟩
theorem cellsTk : Tryz.prog.cellsOf 52 = 5 := by kernel_rfl
theorem cellsKd : Tryz.prog.cellsOf 50 = 1 := by kernel_rfl
theorem cOne (t : TypeId) (h : t = 9 ∨ t = 3 ∨ t = 35 ∨ t = 50) : Tryz.prog.cellsOf t = 1 := by
  rcases h with rfl | rfl | rfl | rfl <;> kernel_rfl
theorem open_tks {fuel n c : Nat} {p : Option Addr} {x : DataW H × List MemPlace} (h : DataW.trod enc Tryz.prog w 0 (fun _ => true) true fuel 23 [.slice p n c] = some x) :
    ∃ l : List Tz, n = l.length ∧ (TzsIn w w.heap.size l p ∧ ∀ t ∈ l, t.text.length ≤ 9223372036854775807) ∧ l.length ≤ c ∧ c ≤ 9223372036854775807 ∧ (p = none → c = 0) := by
  obtain ⟨c1, c2, c3⟩ := slice_caps Tryz.underlying23 h
  unfold maxLen at c3
  rcases slice_cells cellsTk (by decide) Tryz.underlying23 h with h0 | ⟨b, off, m, rfl, hbl, hel⟩
  · exact ⟨[], h0, ⟨.inl rfl, fun _ h => (by cases h)⟩, by simp, c3, c1⟩
  · obtain ⟨l, hl, hp, hk⟩ := tks_of w b (fun t => t.text.length ≤ 9223372036854775807) n off (fun i hi => by
      obtain ⟨cs', y, hl, hc, hr⟩ := hel i hi
      obtain ⟨xs, n', _, _, hl, hx, hf⟩ := DataW.trod_struct Tryz.underlying52 hr
      rw [cellsTk] at hl
      obtain ⟨a, b', c', d', f', rfl⟩ := five hl
      obtain ⟨x0, x1, x2, x3, x4, rfl⟩ := five hx
      have h0 : DataW.trod enc Tryz.prog w 0 (fun _ => true) true n' 50 (List.take (Tryz.prog.cellsOf 50) [a, b', c', d', f']) = some x0 := hf 0 _ rfl
      have h1 : DataW.trod enc Tryz.prog w 0 (fun _ => true) true n' 9 (List.take (Tryz.prog.cellsOf 9) [b', c', d', f']) = some x1 := hf 1 _ rfl
      have h2 : DataW.trod enc Tryz.prog w 0 (fun _ => true) true n' 35 (List.take (Tryz.prog.cellsOf 35) [c', d', f']) = some x2 := hf 2 _ rfl
      have h3 : DataW.trod enc Tryz.prog w 0 (fun _ => true) true n' 3 (List.take (Tryz.prog.cellsOf 3) [d', f']) = some x3 := hf 3 _ rfl
      have h4 : DataW.trod enc Tryz.prog w 0 (fun _ => true) true n' 3 (List.take (Tryz.prog.cellsOf 3) [f']) = some x4 := hf 4 _ rfl
      rw [cOne _ (by simp)] at h0 h1 h2 h3 h4
      obtain ⟨z0, e0, _, _⟩ := DataW.trod_int Tryz.underlying50 h0
      obtain ⟨z1, e1, _, hz⟩ := DataW.trod_string Tryz.underlying9 h1
      obtain ⟨z2, e2, _, _⟩ := DataW.trod_int Tryz.underlying35 h2
      obtain ⟨z3, e3, _, _⟩ := DataW.trod_int Tryz.underlying3 h3
      obtain ⟨z4, e4, _, _⟩ := DataW.trod_int Tryz.underlying3 h4
      simp at e0 e1 e2 e3 e4
      subst e0; subst e1; subst e2; subst e3; subst e4
      have hst : str z1.data.toList = z1 := bytes_ext rfl
      refine ⟨⟨z0, z1.data.toList, z2, z3, z4⟩, ⟨hc 0 (by decide), ?_, hc 2 (by decide), hc 3 (by decide), hc 4 (by decide)⟩, ?_⟩
      · show w.cell? _ = some (.string (str z1.data.toList))
        rw [hst]; exact hc 1 (by decide)
      · show z1.data.toList.length ≤ _
        rw [← size_len]; unfold maxLen at hz; exact hz)
    exact ⟨l, hl.symm, ⟨.inr ⟨b, off, rfl, hbl, hp⟩, hk⟩, by omega, c3, c1⟩
end
end Go.Proofs.YtkidmoplchbglaaGreatDoor
