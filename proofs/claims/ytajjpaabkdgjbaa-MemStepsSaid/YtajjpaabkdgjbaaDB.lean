/- Rows of words that come in, as they are read. -/
import Derived.Test.YtajjpaabkdgjbaaOP
import Derived.Test.YtajjpaabkdgjbaaD5
namespace Go.Proofs.Ytajjpaabkdgjbaa
open Go.ChangeShapes Go.WideShapes Go.ChangeAt Go.RowKit

theorem nats_of (w : World) (b : Nat) : ∀ (n off : Nat), (∀ i, i < n → ∃ y : Nat, w.cell? ⟨b, off + i, none⟩ = some (.int .u64 (y : Int)) ∧ y < 18446744073709551616) →
    ∃ l : List Nat, l.length = n ∧ ∀ (k x : Nat), l[k]? = some x → w.cell? ⟨b, off + k, none⟩ = some (.int .u64 (x : Int)) ∧ x < 18446744073709551616
  | 0, _, _ => ⟨[], rfl, fun k x h => by simp at h⟩
  | n + 1, off, h => by
    obtain ⟨y, h0⟩ := h 0 (Nat.succ_pos _)
    obtain ⟨l, hl, hp⟩ := nats_of w b n (off + 1) fun i hi => by
      have := h (i + 1) (by omega)
      rw [show off + (i + 1) = off + 1 + i by omega] at this; exact this
    refine ⟨y :: l, by simp [hl], fun k x hx => ?_⟩
    cases k with
    | zero => simp at hx; subst hx; exact h0
    | succ k =>
      have := hp k x (by simpa using hx)
      rw [show off + (k + 1) = off + 1 + k by omega]; exact this
theorem rows_of (w : World) (N b : Nat) : ∀ (n off : Nat), (∀ i, i < n → ∃ (xs : List Nat) (u : Value), w.cell? ⟨b, off + i, none⟩ = some u ∧ WAt w N xs u) →
    ∃ l : List (List Nat), l.length = n ∧ ∀ (i : Nat) (xs : List Nat), l[i]? = some xs → ∃ u, w.cell? ⟨b, off + i, none⟩ = some u ∧ WAt w N xs u
  | 0, _, _ => ⟨[], rfl, fun k x h => by simp at h⟩
  | n + 1, off, h => by
    obtain ⟨y, h0⟩ := h 0 (Nat.succ_pos _)
    obtain ⟨l, hl, hp⟩ := rows_of w N b n (off + 1) fun i hi => by
      have := h (i + 1) (by omega)
      rw [show off + (i + 1) = off + 1 + i by omega] at this; exact this
    refine ⟨y :: l, by simp [hl], fun k x hx => ?_⟩
    cases k with
    | zero => simp at hx; subst hx; exact h0
    | succ k =>
      have := hp k x (by simpa using hx)
      rw [show off + (k + 1) = off + 1 + k by omega]; exact this
section
variable {H : Type} {enc : TypeId × Value → H} {w : World}
theorem cellsU : Try.prog.cellsOf 25 = 1 := by kernel_rfl
theorem cellsUs : Try.prog.cellsOf 54 = 1 := by kernel_rfl
theorem open_row {fuel n c : Nat} {p : Option Addr} {x : DataW H × List MemPlace} (h : DataW.trod enc Try.prog w 0 (fun _ => true) true fuel 54 [.slice p n c] = some x) :
    ∃ xs : List Nat, n = xs.length ∧ WAt w w.heap.size xs (.slice p n c) := by
  obtain ⟨c1, c2, c3⟩ := slice_caps Try.underlying54 h
  unfold maxLen at c3
  rcases slice_cells cellsU (by decide) Try.underlying54 h with h0 | ⟨b, off, m, rfl, hbl, hel⟩
  · subst h0
    exact ⟨[], rfl, p, c, rfl, by simp, c3, c1, fun h => by simp at h⟩
  · obtain ⟨l, hl, hp⟩ := nats_of w b n off (fun i hi => by
      obtain ⟨cs', y, hl, hc, hr⟩ := hel i hi
      obtain ⟨z, e0, _, hwf⟩ := DataW.trod_int Try.underlying25 hr
      subst e0
      have h1 := hc 0 (by decide)
      rw [Nat.mul_one] at h1
      have hz : 0 ≤ z ∧ z < 18446744073709551616 := by
        simp [Lit.wf, IntKind.bits, IntKind.signed, IntKind.max, IntKind.min] at hwf; omega
      refine ⟨z.toNat, ?_, by omega⟩
      rw [show ((z.toNat : Nat) : Int) = z by omega]
      exact h1)
    subst hl
    exact ⟨l, rfl, _, c, rfl, c2, c3, c1, fun _ => ⟨b, off, rfl, hbl, hp⟩⟩
theorem open_rows {fuel n c : Nat} {p : Option Addr} {x : DataW H × List MemPlace} (h : DataW.trod enc Try.prog w 0 (fun _ => true) true fuel 23 [.slice p n c] = some x) :
    ∃ xss : List (List Nat), n = xss.length ∧ WsIn w w.heap.size xss p ∧ xss.length ≤ c ∧ c ≤ 9223372036854775807 ∧ (p = none → c = 0) := by
  obtain ⟨c1, c2, c3⟩ := slice_caps Try.underlying23 h
  unfold maxLen at c3
  rcases slice_cells cellsUs (by decide) Try.underlying23 h with h0 | ⟨b, off, m, rfl, hbl, hel⟩
  · subst h0
    exact ⟨[], rfl, ⟨by simp, .inl rfl⟩, by simp, c3, c1⟩
  · obtain ⟨l, hl, hp⟩ := rows_of w w.heap.size b n off (fun i hi => by
      obtain ⟨cs', y, hl, hc, hr⟩ := hel i hi
      have h1 := hc 0 (by decide)
      rw [Nat.mul_one] at h1
      rcases DataW.trod_slice Try.underlying54 hr with ⟨h2, _⟩ | ⟨a, len, cap, elems, rest, n', _, h2, _⟩
      · subst h2
        obtain ⟨xs, hn, hw⟩ := open_row hr
        exact ⟨xs, _, h1, hw⟩
      · subst h2
        obtain ⟨xs, hn, hw⟩ := open_row hr
        exact ⟨xs, _, h1, hw⟩)
    subst hl
    exact ⟨l, rfl, ⟨by omega, .inr ⟨b, off, rfl, hbl, hp⟩⟩, c2, c3, c1⟩
end
end Go.Proofs.Ytajjpaabkdgjbaa
