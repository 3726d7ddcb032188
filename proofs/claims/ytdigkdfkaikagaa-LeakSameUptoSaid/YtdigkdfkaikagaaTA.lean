/- Terms that come in: they lie in memory as terms. -/
import Derived.Test.YtdigkdfkaikagaaT9
namespace Go.Proofs.Ytdigkdfkaikagaa
open Go.ChangeShapes Go.WideShapes Go.ChangeAt Go.RowKit

section
variable {H : Type} {enc : TypeId × Value → H} {w : World}
theorem cellsPick : Try.prog.cellsOf 57 = 4 := by kernel_rfl
theorem cellsPicks : Try.prog.cellsOf 58 = 1 := by kernel_rfl
theorem cellsTerm : Try.prog.cellsOf 37 = 4 := by kernel_rfl
theorem cellsTerms : Try.prog.cellsOf 22 = 1 := by kernel_rfl

theorem four {α : Type} {cs : List α} (h : cs.length = 4) : ∃ a b c d, cs = [a, b, c, d] := by
  match cs, h with
  | [a, b, c, d], _ => exact ⟨a, b, c, d, rfl⟩

theorem get_le_sum : ∀ {ks : List Nat} {i m : Nat}, ks[i]? = some m → m ≤ ks.sum
  | k :: ks, 0, m, h => by simp at h; subst h; simp only [List.sum_cons]; omega
  | k :: ks, i + 1, m, h => by have := get_le_sum (ks := ks) (i := i) (m := m) (by simpa using h); simp only [List.sum_cons]; omega
theorem cOne (t : TypeId) (h : t = 55 ∨ t = 34 ∨ t = 3 ∨ t = 26 ∨ t = 4 ∨ t = 35 ∨ t = 31) : Try.prog.cellsOf t = 1 := by
  rcases h with rfl | rfl | rfl | rfl | rfl | rfl | rfl <;> kernel_rfl

theorem open_pick {n : Nat} {cs : List Value} {y : DataW H × List MemPlace} (h : DataW.trod enc Try.prog w 0 (fun _ => true) true n 57 cs = some y) :
    ∃ (k i u : Int) (b : Bool), cs = [.int .i64 k, .int .i64 i, .int .u64 u, .bool b] := by
  obtain ⟨xs, n', _, _, hl, hx, hf⟩ := DataW.trod_struct Try.underlying57 h
  rw [cellsPick] at hl
  obtain ⟨a, b, c, d, rfl⟩ := four hl
  obtain ⟨x0, x1, x2, x3, rfl⟩ := four hx
  have h0 : DataW.trod enc Try.prog w 0 (fun _ => true) true n' 55 (List.take (Try.prog.cellsOf 55) [a, b, c, d]) = some x0 := hf 0 _ rfl
  have h1 : DataW.trod enc Try.prog w 0 (fun _ => true) true n' 3 (List.take (Try.prog.cellsOf 3) [b, c, d]) = some x1 := hf 1 _ rfl
  have h2 : DataW.trod enc Try.prog w 0 (fun _ => true) true n' 26 (List.take (Try.prog.cellsOf 26) [c, d]) = some x2 := hf 2 _ rfl
  have h3 : DataW.trod enc Try.prog w 0 (fun _ => true) true n' 4 (List.take (Try.prog.cellsOf 4) [d]) = some x3 := hf 3 _ rfl
  rw [cOne _ (by simp)] at h0 h1 h2 h3
  obtain ⟨k, e0, _, _⟩ := DataW.trod_int Try.underlying55 h0
  obtain ⟨i, e1, _, _⟩ := DataW.trod_int Try.underlying3 h1
  obtain ⟨u, e2, _, _⟩ := DataW.trod_int Try.underlying26 h2
  obtain ⟨z, e3, _⟩ := DataW.trod_bool Try.underlying4 h3
  simp at e0 e1 e2 e3
  subst e0; subst e1; subst e2; subst e3
  exact ⟨k, i, u, z, rfl⟩

theorem open_picks {fuel : Nat} {cs : List Value} {x : DataW H × List MemPlace} (h : DataW.trod enc Try.prog w 0 (fun _ => true) true fuel 58 cs = some x) (hb : Rows.uptoBulk x.1 ≤ 1048576) :
    ∃ (l : List Pk) (p : Option Addr) (c : Nat), cs = [.slice p l.length c] ∧ Sl w.heap.size p l.length (Picks w l) ∧ 1 + l.length ≤ Rows.uptoBulk x.1 := by
  obtain ⟨n, p, ks, c, _, rfl, h1, h2, h3⟩ := slice_parts cellsPick (by decide) Try.underlying58 h
  rcases h3 with h0 | ⟨b, off, rfl, hbl, hel⟩
  · exact ⟨[], p, c, by rw [h0]; rfl, ⟨by simp, .inl rfl⟩, by simp; omega⟩
  · obtain ⟨l, hl, hp⟩ := picks_of w b ks.length off (fun i hi => by
      obtain ⟨cs', y, hl, hc, hr, _⟩ := hel i _ (List.getElem?_eq_getElem hi)
      obtain ⟨k, it, u, st, rfl⟩ := open_pick hr
      exact ⟨⟨k, it, u, st⟩, hc 0 (by decide), hc 1 (by decide), hc 2 (by decide), hc 3 (by decide)⟩)
    exact ⟨l, _, c, by rw [hl], ⟨by omega, .inr ⟨b, off, rfl, hbl, hp⟩⟩, by omega⟩

theorem open_lines {fuel : Nat} {cs : List Value} {x : DataW H × List MemPlace} (h : DataW.trod enc Try.prog w 0 (fun _ => true) true fuel 35 cs = some x) (hb : Rows.uptoBulk x.1 ≤ 1048576) :
    ∃ (ls : List (List Pk)) (p : Option Addr) (c : Nat), cs = [.slice p ls.length c] ∧ Sl w.heap.size p ls.length (Plines w w.heap.size ls) ∧ linesW ls + 1 ≤ Rows.uptoBulk x.1 := by
  obtain ⟨n, p, ks, c, _, rfl, h1, h2, h3⟩ := slice_parts cellsPicks (by decide) Try.underlying35 h
  rcases h3 with h0 | ⟨b, off, rfl, hbl, hel⟩
  · exact ⟨[], p, c, by rw [h0]; rfl, ⟨by simp, .inl rfl⟩, by simp only [linesW]; omega⟩
  · obtain ⟨ls, hl, hp, hw⟩ := plines_of w w.heap.size b ks off (fun i m hi => by
      obtain ⟨cs', y, hl, hc, hr, hy⟩ := hel i m hi
      have := get_le_sum hi
      obtain ⟨l, p, c, rfl, hs, hk⟩ := open_picks hr (by omega)
      have hc0 := hc 0 (by decide)
      rw [Nat.mul_one] at hc0
      exact ⟨l, p, c, hc0, hs, by omega⟩)
    exact ⟨ls, _, c, by rw [hl], ⟨by omega, .inr ⟨b, off, rfl, hbl, hp⟩⟩, by omega⟩

theorem open_terms : ∀ (fuel : Nat) (cs : List Value) (x : DataW H × List MemPlace), DataW.trod enc Try.prog w 0 (fun _ => true) true fuel 22 cs = some x → Rows.uptoBulk x.1 ≤ 1048576 →
    ∃ (l : Tf) (p : Option Addr) (c : Nat), cs = [.slice p l.len c] ∧ l.In w w.heap.size p ∧ l.weight ≤ Rows.uptoBulk x.1 := by
  intro fuel
  induction fuel using Nat.strongRecOn with
  | ind fuel ih =>
    intro cs x h hb
    obtain ⟨n, p, ks, c, hn, rfl, h1, h2, h3⟩ := slice_parts cellsTerm (by decide) Try.underlying22 h
    rcases h3 with h0 | ⟨b, off, rfl, hbl, hel⟩
    · exact ⟨.nil, p, c, by rw [h0]; rfl, ⟨by simp [Tf.len], .inl rfl⟩, by simp [Tf.weight]⟩
    · obtain ⟨l, hl, hp, hw⟩ := tf_of w w.heap.size b ks off (fun i m hi => by
        obtain ⟨cs', y, hlc, hc, hr, hy⟩ := hel i m hi
        have hms := get_le_sum hi
        obtain ⟨xs, n', hn', hyx, hl, hx, hf⟩ := DataW.trod_struct Try.underlying37 hr
        obtain ⟨a, b', c', d, rfl⟩ := four hlc
        obtain ⟨x0, x1, x2, x3, rfl⟩ := four hx
        have h0 : DataW.trod enc Try.prog w 0 (fun _ => true) true n' 34 (List.take (Try.prog.cellsOf 34) [a, b', c', d]) = some x0 := hf 0 _ rfl
        have h1' : DataW.trod enc Try.prog w 0 (fun _ => true) true n' 35 (List.take (Try.prog.cellsOf 35) [b', c', d]) = some x1 := hf 1 _ rfl
        have h2' : DataW.trod enc Try.prog w 0 (fun _ => true) true n' 4 (List.take (Try.prog.cellsOf 4) [c', d]) = some x2 := hf 2 _ rfl
        have h3' : DataW.trod enc Try.prog w 0 (fun _ => true) true n' 31 (List.take (Try.prog.cellsOf 31) [d]) = some x3 := hf 3 _ rfl
        rw [cOne _ (by simp)] at h0 h1' h2' h3'
        have hyb : 1 + (Rows.uptoBulk x1.1 + Rows.uptoBulk x3.1) ≤ m := by
          rw [← hy, hyx]
          simp only [Rows.uptoBulk, List.map_cons, List.map_nil, Rows.uptoBulkAll]; omega
        obtain ⟨kd, e0, _, _⟩ := DataW.trod_int Try.underlying34 h0
        obtain ⟨tk, e2, _⟩ := DataW.trod_bool Try.underlying4 h2'
        obtain ⟨ls, q, dq, e1, hs1, hw1⟩ := open_lines h1' (by omega)
        obtain ⟨n3, p3, k3, c3, hn3, e3, g1, g2, g3⟩ := slice_parts cellsTerms (by decide) Try.underlying31 h3'
        simp at e0 e1 e2 e3
        subst e0; subst e1; subst e2; subst e3
        obtain ⟨s, hs, hs3, hw3⟩ : ∃ s : Ts, s.len = k3.length ∧ Sl w.heap.size p3 s.len (Ts.At w w.heap.size s) ∧ s.weight ≤ k3.sum := by
          rcases g3 with g0 | ⟨b3, o3, rfl, hb3, he3⟩
          · exact ⟨.nil, by rw [g0]; rfl, ⟨by simp [Ts.len], .inl rfl⟩, by simp [Ts.weight]⟩
          · obtain ⟨s, hs, hp3, hw3⟩ := ts_of w w.heap.size b3 k3 o3 (fun i m hi => by
              obtain ⟨cs', y, hlc, hc, hr, hy⟩ := he3 i m hi
              have hms := get_le_sum hi
              obtain ⟨l, p, c, rfl, hin, hwl⟩ := ih n3 (by omega) cs' y hr (by omega)
              have hc0 := hc 0 (by decide)
              rw [Nat.mul_one] at hc0
              exact ⟨l, p, c, hc0, hin, by omega⟩)
            exact ⟨s, hs, ⟨by omega, .inr ⟨b3, o3, rfl, hb3, hp3⟩⟩, hw3⟩
        have c0 := hc 0 (by decide)
        have c1 := hc 1 (by decide)
        have c2 := hc 2 (by decide)
        have c3' := hc 3 (by decide)
        exact ⟨kd, ls, tk, s, q, p3, dq, c3, c0, ⟨c1, hs1⟩, c2, ⟨by rw [hs]; exact c3', hs3⟩, by omega⟩)
      exact ⟨l, _, c, by rw [hl], ⟨by omega, .inr ⟨b, off, rfl, hbl, hp⟩⟩, by omega⟩
end
end Go.Proofs.Ytdigkdfkaikagaa
