/- T9, TA as one. -/
import Derived.Test.YtcadeeldogknmaaRows
import Derived.Test.YtcadeeldogknmaaL2
import Derived.ProofKit
import Derived.OpenShut
/- Terms that come in, as they are read. -/
namespace Go.Proofs.Ytcadeeldogknmaa
open Go.ChangeShapes Go.WideShapes Go.ChangeAt Go.RowKit

theorem add_none (b o i : Nat) : (⟨b, o, none⟩ : Addr).add i = ⟨b, o + i, none⟩ := by unfold Addr.add; split <;> simp_all
theorem picks_of (w : World) (b : Nat) : ∀ (n off : Nat), (∀ i, i < n → ∃ y : Pk, w.cell? ⟨b, off + i * 4, none⟩ = some (.int .i64 y.kind) ∧ w.cell? ⟨b, off + i * 4 + 1, none⟩ = some (.int .i64 y.item) ∧ w.cell? ⟨b, off + i * 4 + 2, none⟩ = some (.int .u64 y.word) ∧ w.cell? ⟨b, off + i * 4 + 3, none⟩ = some (.bool y.stack)) →
    ∃ l : List Pk, l.length = n ∧ Picks w l b off
  | 0, _, _ => ⟨[], rfl, trivial⟩
  | n + 1, off, h => by
    obtain ⟨y, h0⟩ := h 0 (Nat.succ_pos _)
    rw [Nat.zero_mul, Nat.add_zero] at h0
    obtain ⟨l, hl, hp⟩ := picks_of w b n (off + 4) fun i hi => by
      have := h (i + 1) (by omega)
      rw [show off + (i + 1) * 4 = off + 4 + i * 4 by omega] at this; exact this
    exact ⟨y :: l, by simp [hl], h0, hp⟩
theorem plines_of (w : World) (B b : Nat) : ∀ (ks : List Nat) (off : Nat), (∀ i k, ks[i]? = some k → ∃ (l : List Pk) (p : Option Addr) (c : Nat), w.cell? ⟨b, off + i, none⟩ = some (.slice p l.length c) ∧ Sl B p l.length (Picks w l) ∧ 1 + l.length ≤ k) →
    ∃ ls : List (List Pk), ls.length = ks.length ∧ Plines w B ls b off ∧ linesW ls ≤ ks.sum
  | [], _, _ => ⟨[], rfl, trivial, Nat.le_refl _⟩
  | k :: ks, off, h => by
    obtain ⟨l, p, c, h0, hs, hk⟩ := h 0 k rfl
    obtain ⟨ls, hl, hp, hw⟩ := plines_of w B b ks (off + 1) fun i k' hi => by
      have := h (i + 1) k' (by simpa using hi)
      rw [show off + (i + 1) = off + 1 + i by omega] at this; exact this
    exact ⟨l :: ls, by simp [hl], ⟨⟨p, c, h0, hs⟩, hp⟩, by simp only [linesW, List.sum_cons]; omega⟩
theorem tf_of (w : World) (B b : Nat) : ∀ (ks : List Nat) (off : Nat), (∀ i k, ks[i]? = some k → ∃ (kd : Int) (ls : List (List Pk)) (t : Bool) (s : Ts) (p q : Option Addr) (c d : Nat), w.cell? ⟨b, off + i * 4, none⟩ = some (.int .i64 kd) ∧ (w.cell? ⟨b, off + i * 4 + 1, none⟩ = some (.slice p ls.length c) ∧ Sl B p ls.length (Plines w B ls)) ∧
      w.cell? ⟨b, off + i * 4 + 2, none⟩ = some (.bool t) ∧ (w.cell? ⟨b, off + i * 4 + 3, none⟩ = some (.slice q s.len d) ∧ Sl B q s.len (Ts.At w B s)) ∧ 1 + linesW ls + s.weight ≤ k) →
    ∃ l : Tf, l.len = ks.length ∧ l.At w B b off ∧ l.weight ≤ ks.sum
  | [], _, _ => ⟨.nil, rfl, trivial, Nat.le_refl _⟩
  | k :: ks, off, h => by
    obtain ⟨kd, ls, t, s, p, q, c, d, h0, h1, h2, h3, hk⟩ := h 0 k rfl
    rw [Nat.zero_mul, Nat.add_zero] at h0 h1 h2 h3
    obtain ⟨l, hl, hp, hw⟩ := tf_of w B b ks (off + 4) fun i k' hi => by
      have := h (i + 1) k' (by simpa using hi)
      rw [show off + (i + 1) * 4 = off + 4 + i * 4 by omega] at this; exact this
    exact ⟨.node kd ls t s l, by simp [Tf.len, hl], ⟨h0, ⟨p, c, h1⟩, h2, ⟨q, d, h3⟩, hp⟩, by simp only [Tf.weight, List.sum_cons]; omega⟩
theorem ts_of (w : World) (B b : Nat) : ∀ (ks : List Nat) (off : Nat), (∀ i k, ks[i]? = some k → ∃ (l : Tf) (p : Option Addr) (c : Nat), w.cell? ⟨b, off + i, none⟩ = some (.slice p l.len c) ∧ Sl B p l.len (Tf.At w B l) ∧ l.weight ≤ k) →
    ∃ s : Ts, s.len = ks.length ∧ s.At w B b off ∧ s.weight ≤ ks.sum
  | [], _, _ => ⟨.nil, rfl, trivial, Nat.le_refl _⟩
  | k :: ks, off, h => by
    obtain ⟨l, p, c, h0, hs, hk⟩ := h 0 k rfl
    obtain ⟨s, hl, hp, hw⟩ := ts_of w B b ks (off + 1) fun i k' hi => by
      have := h (i + 1) k' (by simpa using hi)
      rw [show off + (i + 1) = off + 1 + i by omega] at this; exact this
    exact ⟨.sub l s, by simp [Ts.len, hl], ⟨⟨p, c, h0, hs⟩, hp⟩, by simp only [Ts.weight, List.sum_cons]; omega⟩

section
variable {H : Type}
theorem bulkAll_sum : ∀ ds : List (DataW H), Rows.uptoBulkAll ds = (ds.map Rows.uptoBulk).sum
  | [] => by simp [Rows.uptoBulkAll]
  | d :: ds => by simp [Rows.uptoBulkAll, bulkAll_sum ds]
theorem bulk_pos (d : DataW H) : 1 ≤ Rows.uptoBulk d := by cases d <;> (try rename_i l; cases l) <;> simp [Rows.uptoBulk] <;> omega
theorem sum_ge : ∀ ks : List Nat, (∀ k ∈ ks, 1 ≤ k) → ks.length ≤ ks.sum
  | [], _ => Nat.le_refl _
  | k :: ks, h => by
    have := sum_ge ks fun k' hk => h k' (List.mem_cons_of_mem _ hk)
    have := h k (List.mem_cons_self ..)
    simp only [List.length_cons, List.sum_cons]; omega

variable {enc : TypeId × Value → H} {w : World}
/-- a slice: its elements' cells and readings -/
theorem slice_parts {t e : TypeId} {fuel k : Nat} {cs : List Value} {x : DataW H × List MemPlace} (hk : Try.prog.cellsOf e = k) (hk0 : 0 < k) (ht : Try.prog.underlying t = some (.slice e)) (h : DataW.trod enc Try.prog w 0 (fun _ => true) true fuel t cs = some x) :
    ∃ (n : Nat) (p : Option Addr) (ks : List Nat) (c : Nat), fuel = n + 1 ∧ cs = [.slice p ks.length c] ∧ ks.sum + 1 ≤ Rows.uptoBulk x.1 ∧ ks.length ≤ ks.sum ∧
      (ks.length = 0 ∨ ∃ b off, p = some ⟨b, off, none⟩ ∧ b < w.heap.size ∧ ∀ i m, ks[i]? = some m → ∃ cs' y, cs'.length = k ∧ (∀ j, j < k → w.cell? ⟨b, off + i * k + j, none⟩ = cs'[j]?) ∧ DataW.trod enc Try.prog w 0 (fun _ => true) true n e cs' = some y ∧ Rows.uptoBulk y.1 = m) := by
  obtain ⟨n, rfl⟩ : ∃ n, fuel = n + 1 := by cases fuel with | zero => simp [DataW.trod] at h | succ n => exact ⟨n, rfl⟩
  rcases DataW.trod_slice ht h with ⟨rfl, rfl⟩ | ⟨a, len, cap, elems, rest, n', hn, rfl, rfl, _, _, _, hlen, hel, _, _⟩
  · exact ⟨n, none, [], 0, rfl, rfl, by simp [Rows.uptoBulk], by simp, .inl rfl⟩
  · obtain rfl : n = n' := by omega
    rw [hk] at hel
    refine ⟨n, some a, elems.map fun y => Rows.uptoBulk y.1, cap, rfl, by simp [hlen], ?_, sum_ge _ fun k hk' => ?_, ?_⟩
    · have : (elems.map fun y => Rows.uptoBulk y.1) = (elems.map (·.1)).map Rows.uptoBulk := by simp
      rw [this, ← bulkAll_sum]
      simp only [Rows.uptoBulk]; omega
    · obtain ⟨y, _, rfl⟩ := List.mem_map.1 hk'; exact bulk_pos _
    · by_cases h0 : len = 0
      · left; simp [hlen, h0]
      · right
        have key : ∀ i, i < len → ∃ cs' y, elems[i]? = some y ∧ cs'.length = k ∧ (∀ j, j < k → w.cell? ((a.add (i * k)).add j) = cs'[j]?) ∧ DataW.trod enc Try.prog w 0 (fun _ => true) true n e cs' = some y := by
          intro i hi
          have := hel i hi
          rw [List.getElem?_eq_getElem (by omega)] at this
          obtain ⟨cs', h1, h2⟩ := Option.bind_eq_some_iff.1 this
          obtain ⟨_, hl, hc⟩ := World.cells?_some h1
          exact ⟨cs', _, List.getElem?_eq_getElem (by omega), hl, hc, h2⟩
        obtain ⟨cs0, y0, _, hl0, hc0, _⟩ := key 0 (by omega)
        have hcell := hc0 0 hk0
        rw [List.getElem?_eq_getElem (by omega)] at hcell
        obtain ⟨b, off, spot⟩ := a
        have hspot : spot = none := by simpa [Addr.add] using World.cell?_spot hcell
        subst hspot
        refine ⟨b, off, rfl, by simpa [Addr.add] using World.block_lt_of_cell? _ _ hcell, fun i m hm => ?_⟩
        rw [List.getElem?_map] at hm
        have hi : i < len := by
          rcases Nat.lt_or_ge i len with h | h
          · exact h
          · rw [List.getElem?_eq_none (by omega)] at hm; cases hm
        obtain ⟨cs', y, hy, hl, hc, hr⟩ := key i hi
        rw [hy] at hm
        exact ⟨cs', y, hl, fun j hj => by have h1 := hc j hj; rw [add_none, add_none] at h1; exact h1, hr, by simpa using hm⟩
end
end Go.Proofs.Ytcadeeldogknmaa
/- Terms that come in: they lie in memory as terms. -/
namespace Go.Proofs.Ytcadeeldogknmaa
open Go.ChangeShapes Go.WideShapes Go.ChangeAt Go.RowKit

section
variable {H : Type} {enc : TypeId × Value → H} {w : World}
theorem cellsPick : Try.prog.cellsOf 56 = 4 := by kernel_rfl
theorem cellsPicks : Try.prog.cellsOf 57 = 1 := by kernel_rfl
theorem cellsTerm : Try.prog.cellsOf 37 = 4 := by kernel_rfl
theorem cellsTerms : Try.prog.cellsOf 22 = 1 := by kernel_rfl

theorem four {α : Type} {cs : List α} (h : cs.length = 4) : ∃ a b c d, cs = [a, b, c, d] := by
  match cs, h with
  | [a, b, c, d], _ => exact ⟨a, b, c, d, rfl⟩

theorem get_le_sum : ∀ {ks : List Nat} {i m : Nat}, ks[i]? = some m → m ≤ ks.sum
  | k :: ks, 0, m, h => by simp at h; subst h; simp only [List.sum_cons]; omega
  | k :: ks, i + 1, m, h => by have := get_le_sum (ks := ks) (i := i) (m := m) (by simpa using h); simp only [List.sum_cons]; omega
theorem cOne (t : TypeId) (h : t = 54 ∨ t = 34 ∨ t = 3 ∨ t = 24 ∨ t = 4 ∨ t = 35 ∨ t = 31) : Try.prog.cellsOf t = 1 := by
  rcases h with rfl | rfl | rfl | rfl | rfl | rfl | rfl <;> kernel_rfl

theorem open_pick {n : Nat} {cs : List Value} {y : DataW H × List MemPlace} (h : DataW.trod enc Try.prog w 0 (fun _ => true) true n 56 cs = some y) :
    ∃ (k i u : Int) (b : Bool), cs = [.int .i64 k, .int .i64 i, .int .u64 u, .bool b] := by
  obtain ⟨xs, n', _, _, hl, hx, hf⟩ := DataW.trod_struct Try.underlying56 h
  rw [cellsPick] at hl
  obtain ⟨a, b, c, d, rfl⟩ := four hl
  obtain ⟨x0, x1, x2, x3, rfl⟩ := four hx
  have h0 : DataW.trod enc Try.prog w 0 (fun _ => true) true n' 54 (List.take (Try.prog.cellsOf 54) [a, b, c, d]) = some x0 := hf 0 _ rfl
  have h1 : DataW.trod enc Try.prog w 0 (fun _ => true) true n' 3 (List.take (Try.prog.cellsOf 3) [b, c, d]) = some x1 := hf 1 _ rfl
  have h2 : DataW.trod enc Try.prog w 0 (fun _ => true) true n' 24 (List.take (Try.prog.cellsOf 24) [c, d]) = some x2 := hf 2 _ rfl
  have h3 : DataW.trod enc Try.prog w 0 (fun _ => true) true n' 4 (List.take (Try.prog.cellsOf 4) [d]) = some x3 := hf 3 _ rfl
  rw [cOne _ (by simp)] at h0 h1 h2 h3
  obtain ⟨k, e0, _, _⟩ := DataW.trod_int Try.underlying54 h0
  obtain ⟨i, e1, _, _⟩ := DataW.trod_int Try.underlying3 h1
  obtain ⟨u, e2, _, _⟩ := DataW.trod_int Try.underlying24 h2
  obtain ⟨z, e3, _⟩ := DataW.trod_bool Try.underlying4 h3
  simp at e0 e1 e2 e3
  subst e0; subst e1; subst e2; subst e3
  exact ⟨k, i, u, z, rfl⟩

theorem open_picks {fuel : Nat} {cs : List Value} {x : DataW H × List MemPlace} (h : DataW.trod enc Try.prog w 0 (fun _ => true) true fuel 57 cs = some x) (hb : Rows.uptoBulk x.1 ≤ 1048576) :
    ∃ (l : List Pk) (p : Option Addr) (c : Nat), cs = [.slice p l.length c] ∧ Sl w.heap.size p l.length (Picks w l) ∧ 1 + l.length ≤ Rows.uptoBulk x.1 := by
  obtain ⟨n, p, ks, c, _, rfl, h1, h2, h3⟩ := slice_parts cellsPick (by decide) Try.underlying57 h
  rcases h3 with h0 | ⟨b, off, rfl, hbl, hel⟩
  · exact ⟨[], p, c, by rw [h0]; rfl, ⟨by simp, .inl rfl⟩, by simp; omega⟩
  · obtain ⟨l, hl, hp⟩ := picks_of w b ks.length off (fun i hi => by
      obtain ⟨cs', y, hl, hc, hr, _⟩ := hel i _ (List.getElem?_eq_getElem hi)
      obtain ⟨k, it, u, st, rfl⟩ := open_pick hr
      exact ⟨⟨k, it, u, st⟩, hc 0 (by decide), hc 1 (by decide), hc 2 (by decide), hc 3 (by decide)⟩)
    exact ⟨l, _, c, by rw [hl], ⟨by omega, .inr ⟨b, off, rfl, hbl, hp⟩⟩, by omega⟩

theorem open_lines {fuel : Nat} {cs : List Value} {x : DataW H × List MemPlace} (h : DataW.trod enc Try.prog w 0 (fun _ => true) true fuel 35 cs = some x) (hb : Rows.uptoBulk x.1 ≤ 1048576) :
    ∃ (ls : List (List Pk)) (p : Option Addr) (c : Nat), cs = [.slice p ls.length c] ∧ Sl w.heap.size p ls.length (Plines w w.heap.size ls) ∧ linesW ls + 1 ≤ Rows.uptoBulk x.1 := by
  obtain ⟨n, p, ks, c, _, rfl, h1, h2, h3⟩ := slice_parts cellsPicks (by decide) Try.underlying35 h
  rcases h3 with h0 | ⟨b, off, rfl, hbl, hel⟩
  · exact ⟨[], p, c, by rw [h0]; rfl, ⟨by simp, .inl rfl⟩, by simp only [linesW]; omega⟩
  · obtain ⟨ls, hl, hp, hw⟩ := plines_of w w.heap.size b ks off (fun i m hi => by
      obtain ⟨cs', y, hl, hc, hr, hy⟩ := hel i m hi
      have := get_le_sum hi
      obtain ⟨l, p, c, rfl, hs, hk⟩ := open_picks hr (by omega)
      have hc0 := hc 0 (by decide)
      rw [Nat.mul_one] at hc0
      exact ⟨l, p, c, hc0, hs, by omega⟩)
    exact ⟨ls, _, c, by rw [hl], ⟨by omega, .inr ⟨b, off, rfl, hbl, hp⟩⟩, by omega⟩

theorem open_terms : ∀ (fuel : Nat) (cs : List Value) (x : DataW H × List MemPlace), DataW.trod enc Try.prog w 0 (fun _ => true) true fuel 22 cs = some x → Rows.uptoBulk x.1 ≤ 1048576 →
    ∃ (l : Tf) (p : Option Addr) (c : Nat), cs = [.slice p l.len c] ∧ l.In w w.heap.size p ∧ l.weight ≤ Rows.uptoBulk x.1 := by
  intro fuel
  induction fuel using Nat.strongRecOn with
  | ind fuel ih =>
    intro cs x h hb
    obtain ⟨n, p, ks, c, hn, rfl, h1, h2, h3⟩ := slice_parts cellsTerm (by decide) Try.underlying22 h
    rcases h3 with h0 | ⟨b, off, rfl, hbl, hel⟩
    · exact ⟨.nil, p, c, by rw [h0]; rfl, ⟨by simp [Tf.len], .inl rfl⟩, by simp [Tf.weight]⟩
    · obtain ⟨l, hl, hp, hw⟩ := tf_of w w.heap.size b ks off (fun i m hi => by
        obtain ⟨cs', y, hlc, hc, hr, hy⟩ := hel i m hi
        have hms := get_le_sum hi
        obtain ⟨xs, n', hn', hyx, hl, hx, hf⟩ := DataW.trod_struct Try.underlying37 hr
        obtain ⟨a, b', c', d, rfl⟩ := four hlc
        obtain ⟨x0, x1, x2, x3, rfl⟩ := four hx
        have h0 : DataW.trod enc Try.prog w 0 (fun _ => true) true n' 34 (List.take (Try.prog.cellsOf 34) [a, b', c', d]) = some x0 := hf 0 _ rfl
        have h1' : DataW.trod enc Try.prog w 0 (fun _ => true) true n' 35 (List.take (Try.prog.cellsOf 35) [b', c', d]) = some x1 := hf 1 _ rfl
        have h2' : DataW.trod enc Try.prog w 0 (fun _ => true) true n' 4 (List.take (Try.prog.cellsOf 4) [c', d]) = some x2 := hf 2 _ rfl
        have h3' : DataW.trod enc Try.prog w 0 (fun _ => true) true n' 31 (List.take (Try.prog.cellsOf 31) [d]) = some x3 := hf 3 _ rfl
        rw [cOne _ (by simp)] at h0 h1' h2' h3'
        have hyb : 1 + (Rows.uptoBulk x1.1 + Rows.uptoBulk x3.1) ≤ m := by
          rw [← hy, hyx]
          simp only [Rows.uptoBulk, List.map_cons, List.map_nil, Rows.uptoBulkAll]; omega
        obtain ⟨kd, e0, _, _⟩ := DataW.trod_int Try.underlying34 h0
        obtain ⟨tk, e2, _⟩ := DataW.trod_bool Try.underlying4 h2'
        obtain ⟨ls, q, dq, e1, hs1, hw1⟩ := open_lines h1' (by omega)
        obtain ⟨n3, p3, k3, c3, hn3, e3, g1, g2, g3⟩ := slice_parts cellsTerms (by decide) Try.underlying31 h3'
        simp at e0 e1 e2 e3
        subst e0; subst e1; subst e2; subst e3
        obtain ⟨s, hs, hs3, hw3⟩ : ∃ s : Ts, s.len = k3.length ∧ Sl w.heap.size p3 s.len (Ts.At w w.heap.size s) ∧ s.weight ≤ k3.sum := by
          rcases g3 with g0 | ⟨b3, o3, rfl, hb3, he3⟩
          · exact ⟨.nil, by rw [g0]; rfl, ⟨by simp [Ts.len], .inl rfl⟩, by simp [Ts.weight]⟩
          · obtain ⟨s, hs, hp3, hw3⟩ := ts_of w w.heap.size b3 k3 o3 (fun i m hi => by
              obtain ⟨cs', y, hlc, hc, hr, hy⟩ := he3 i m hi
              have hms := get_le_sum hi
              obtain ⟨l, p, c, rfl, hin, hwl⟩ := ih n3 (by omega) cs' y hr (by omega)
              have hc0 := hc 0 (by decide)
              rw [Nat.mul_one] at hc0
              exact ⟨l, p, c, hc0, hin, by omega⟩)
            exact ⟨s, hs, ⟨by omega, .inr ⟨b3, o3, rfl, hb3, hp3⟩⟩, hw3⟩
        have c0 := hc 0 (by decide)
        have c1 := hc 1 (by decide)
        have c2 := hc 2 (by decide)
        have c3' := hc 3 (by decide)
        exact ⟨kd, ls, tk, s, q, p3, dq, c3, c0, ⟨c1, hs1⟩, c2, ⟨by rw [hs]; exact c3', hs3⟩, by omega⟩)
      exact ⟨l, _, c, by rw [hl], ⟨by omega, .inr ⟨b, off, rfl, hbl, hp⟩⟩, by omega⟩
end
end Go.Proofs.Ytcadeeldogknmaa
