/- Terms that come in, as they are read. -/
import Derived.Test.YtdigkdfkaikagaaRows
import Derived.Test.YtdigkdfkaikagaaT8
import Derived.ProofKit
import Derived.OpenShut
namespace Go.Proofs.Ytdigkdfkaikagaa
open Go.ChangeShapes Go.WideShapes Go.ChangeAt Go.RowKit

theorem add_none (b o i : Nat) : (⟨b, o, none⟩ : Addr).add i = ⟨b, o + i, none⟩ := by unfold Addr.add; split <;> simp_all
theorem picks_of (w : World) (b : Nat) : ∀ (n off : Nat), (∀ i, i < n → ∃ y : Pk, w.cell? ⟨b, off + i * 4, none⟩ = some (.int .i64 y.kind) ∧ w.cell? ⟨b, off + i * 4 + 1, none⟩ = some (.int .i64 y.item) ∧ w.cell? ⟨b, off + i * 4 + 2, none⟩ = some (.int .u64 y.word) ∧ w.cell? ⟨b, off + i * 4 + 3, none⟩ = some (.bool y.stack)) →
    ∃ l : List Pk, l.length = n ∧ Picks w l b off
  | 0, _, _ => ⟨[], rfl, trivial⟩
  | n + 1, off, h => by
    obtain ⟨y, h0⟩ := h 0 (Nat.succ_pos _)
    rw [Nat.zero_mul, Nat.add_zero] at h0
    obtain ⟨l, hl, hp⟩ := picks_of w b n (off + 4) fun i hi => by
      have := h (i + 1) (by omega)
      rw [show off + (i + 1) * 4 = off + 4 + i * 4 by omega] at this; exact this
    exact ⟨y :: l, by simp [hl], h0, hp⟩
theorem plines_of (w : World) (B b : Nat) : ∀ (ks : List Nat) (off : Nat), (∀ i k, ks[i]? = some k → ∃ (l : List Pk) (p : Option Addr) (c : Nat), w.cell? ⟨b, off + i, none⟩ = some (.slice p l.length c) ∧ Sl B p l.length (Picks w l) ∧ 1 + l.length ≤ k) →
    ∃ ls : List (List Pk), ls.length = ks.length ∧ Plines w B ls b off ∧ linesW ls ≤ ks.sum
  | [], _, _ => ⟨[], rfl, trivial, Nat.le_refl _⟩
  | k :: ks, off, h => by
    obtain ⟨l, p, c, h0, hs, hk⟩ := h 0 k rfl
    obtain ⟨ls, hl, hp, hw⟩ := plines_of w B b ks (off + 1) fun i k' hi => by
      have := h (i + 1) k' (by simpa using hi)
      rw [show off + (i + 1) = off + 1 + i by omega] at this; exact this
    exact ⟨l :: ls, by simp [hl], ⟨⟨p, c, h0, hs⟩, hp⟩, by simp only [linesW, List.sum_cons]; omega⟩
theorem tf_of (w : World) (B b : Nat) : ∀ (ks : List Nat) (off : Nat), (∀ i k, ks[i]? = some k → ∃ (kd : Int) (ls : List (List Pk)) (t : Bool) (s : Ts) (p q : Option Addr) (c d : Nat), w.cell? ⟨b, off + i * 4, none⟩ = some (.int .i64 kd) ∧ (w.cell? ⟨b, off + i * 4 + 1, none⟩ = some (.slice p ls.length c) ∧ Sl B p ls.length (Plines w B ls)) ∧
      w.cell? ⟨b, off + i * 4 + 2, none⟩ = some (.bool t) ∧ (w.cell? ⟨b, off + i * 4 + 3, none⟩ = some (.slice q s.len d) ∧ Sl B q s.len (Ts.At w B s)) ∧ 1 + linesW ls + s.weight ≤ k) →
    ∃ l : Tf, l.len = ks.length ∧ l.At w B b off ∧ l.weight ≤ ks.sum
  | [], _, _ => ⟨.nil, rfl, trivial, Nat.le_refl _⟩
  | k :: ks, off, h => by
    obtain ⟨kd, ls, t, s, p, q, c, d, h0, h1, h2, h3, hk⟩ := h 0 k rfl
    rw [Nat.zero_mul, Nat.add_zero] at h0 h1 h2 h3
    obtain ⟨l, hl, hp, hw⟩ := tf_of w B b ks (off + 4) fun i k' hi => by
      have := h (i + 1) k' (by simpa using hi)
      rw [show off + (i + 1) * 4 = off + 4 + i * 4 by omega] at this; exact this
    exact ⟨.node kd ls t s l, by simp [Tf.len, hl], ⟨h0, ⟨p, c, h1⟩, h2, ⟨q, d, h3⟩, hp⟩, by simp only [Tf.weight, List.sum_cons]; omega⟩
theorem ts_of (w : World) (B b : Nat) : ∀ (ks : List Nat) (off : Nat), (∀ i k, ks[i]? = some k → ∃ (l : Tf) (p : Option Addr) (c : Nat), w.cell? ⟨b, off + i, none⟩ = some (.slice p l.len c) ∧ Sl B p l.len (Tf.At w B l) ∧ l.weight ≤ k) →
    ∃ s : Ts, s.len = ks.length ∧ s.At w B b off ∧ s.weight ≤ ks.sum
  | [], _, _ => ⟨.nil, rfl, trivial, Nat.le_refl _⟩
  | k :: ks, off, h => by
    obtain ⟨l, p, c, h0, hs, hk⟩ := h 0 k rfl
    obtain ⟨s, hl, hp, hw⟩ := ts_of w B b ks (off + 1) fun i k' hi => by
      have := h (i + 1) k' (by simpa using hi)
      rw [show off + (i + 1) = off + 1 + i by omega] at this; exact this
    exact ⟨.sub l s, by simp [Ts.len, hl], ⟨⟨p, c, h0, hs⟩, hp⟩, by simp only [Ts.weight, List.sum_cons]; omega⟩

section
variable {H : Type}
theorem bulkAll_sum : ∀ ds : List (DataW H), Rows.uptoBulkAll ds = (ds.map Rows.uptoBulk).sum
  | [] => by simp [Rows.uptoBulkAll]
  | d :: ds => by simp [Rows.uptoBulkAll, bulkAll_sum ds]
theorem bulk_pos (d : DataW H) : 1 ≤ Rows.uptoBulk d := by cases d <;> (try rename_i l; cases l) <;> simp [Rows.uptoBulk] <;> omega
theorem sum_ge : ∀ ks : List Nat, (∀ k ∈ ks, 1 ≤ k) → ks.length ≤ ks.sum
  | [], _ => Nat.le_refl _
  | k :: ks, h => by
    have := sum_ge ks fun k' hk => h k' (List.mem_cons_of_mem _ hk)
    have := h k (List.mem_cons_self ..)
    simp only [List.length_cons, List.sum_cons]; omega

variable {enc : TypeId × Value → H} {w : World}
/-- a slice: its elements' cells and readings -/
theorem slice_parts {t e : TypeId} {fuel k : Nat} {cs : List Value} {x : DataW H × List MemPlace} (hk : Try.prog.cellsOf e = k) (hk0 : 0 < k) (ht : Try.prog.underlying t = some (.slice e)) (h : DataW.trod enc Try.prog w 0 (fun _ => true) true fuel t cs = some x) :
    ∃ (n : Nat) (p : Option Addr) (ks : List Nat) (c : Nat), fuel = n + 1 ∧ cs = [.slice p ks.length c] ∧ ks.sum + 1 ≤ Rows.uptoBulk x.1 ∧ ks.length ≤ ks.sum ∧
      (ks.length = 0 ∨ ∃ b off, p = some ⟨b, off, none⟩ ∧ b < w.heap.size ∧ ∀ i m, ks[i]? = some m → ∃ cs' y, cs'.length = k ∧ (∀ j, j < k → w.cell? ⟨b, off + i * k + j, none⟩ = cs'[j]?) ∧ DataW.trod enc Try.prog w 0 (fun _ => true) true n e cs' = some y ∧ Rows.uptoBulk y.1 = m) := by
  obtain ⟨n, rfl⟩ : ∃ n, fuel = n + 1 := by cases fuel with | zero => simp [DataW.trod] at h | succ n => exact ⟨n, rfl⟩
  rcases DataW.trod_slice ht h with ⟨rfl, rfl⟩ | ⟨a, len, cap, elems, rest, n', hn, rfl, rfl, _, _, _, hlen, hel, _, _⟩
  · exact ⟨n, none, [], 0, rfl, rfl, by simp [Rows.uptoBulk], by simp, .inl rfl⟩
  · obtain rfl : n = n' := by omega
    rw [hk] at hel
    refine ⟨n, some a, elems.map fun y => Rows.uptoBulk y.1, cap, rfl, by simp [hlen], ?_, sum_ge _ fun k hk' => ?_, ?_⟩
    · have : (elems.map fun y => Rows.uptoBulk y.1) = (elems.map (·.1)).map Rows.uptoBulk := by simp
      rw [this, ← bulkAll_sum]
      simp only [Rows.uptoBulk]; omega
    · obtain ⟨y, _, rfl⟩ := List.mem_map.1 hk'; exact bulk_pos _
    · by_cases h0 : len = 0
      · left; simp [hlen, h0]
      · right
        have key : ∀ i, i < len → ∃ cs' y, elems[i]? = some y ∧ cs'.length = k ∧ (∀ j, j < k → w.cell? ((a.add (i * k)).add j) = cs'[j]?) ∧ DataW.trod enc Try.prog w 0 (fun _ => true) true n e cs' = some y := by
          intro i hi
          have := hel i hi
          rw [List.getElem?_eq_getElem (by omega)] at this
          obtain ⟨cs', h1, h2⟩ := Option.bind_eq_some_iff.1 this
          obtain ⟨_, hl, hc⟩ := World.cells?_some h1
          exact ⟨cs', _, List.getElem?_eq_getElem (by omega), hl, hc, h2⟩
        obtain ⟨cs0, y0, _, hl0, hc0, _⟩ := key 0 (by omega)
        have hcell := hc0 0 hk0
        rw [List.getElem?_eq_getElem (by omega)] at hcell
        obtain ⟨b, off, spot⟩ := a
        have hspot : spot = none := by simpa [Addr.add] using World.cell?_spot hcell
        subst hspot
        refine ⟨b, off, rfl, by simpa [Addr.add] using World.block_lt_of_cell? _ _ hcell, fun i m hm => ?_⟩
        rw [List.getElem?_map] at hm
        have hi : i < len := by
          rcases Nat.lt_or_ge i len with h | h
          · exact h
          · rw [List.getElem?_eq_none (by omega)] at hm; cases hm
        obtain ⟨cs', y, hy, hl, hc, hr⟩ := key i hi
        rw [hy] at hm
        exact ⟨cs', y, hl, fun j hj => by have h1 := hc j hj; rw [add_none, add_none] at h1; exact h1, hr, by simpa using hm⟩
end
end Go.Proofs.Ytdigkdfkaikagaa
