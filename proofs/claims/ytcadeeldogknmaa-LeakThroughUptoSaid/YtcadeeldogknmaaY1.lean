/- Terms that come in, with the capacities of their lists; leakage that comes in. -/
import Derived.Test.YtcadeeldogknmaaTA
import Derived.Test.YtcadeeldogknmaaZP
import Derived.Test.YtcadeeldogknmaaF1
namespace Go.Proofs.Ytcadeeldogknmaa
open Go.ChangeShapes Go.WideShapes Go.ChangeAt Go.RowKit

theorem tf_of2 (w : World) (B b : Nat) : ∀ (ks : List Nat) (off : Nat), (∀ i k, ks[i]? = some k → ∃ (kd : Int) (ls : List (List Pk)) (t : Bool) (s : Ts) (p q : Option Addr) (c d : Nat), w.cell? ⟨b, off + i * 4, none⟩ = some (.int .i64 kd) ∧ (w.cell? ⟨b, off + i * 4 + 1, none⟩ = some (.slice p ls.length c) ∧ Sl B p ls.length (Plines w B ls)) ∧
      w.cell? ⟨b, off + i * 4 + 2, none⟩ = some (.bool t) ∧ (w.cell? ⟨b, off + i * 4 + 3, none⟩ = some (.slice q s.len d) ∧ Sl B q s.len (Ts.At w B s)) ∧ (s.len ≤ d ∧ ∀ b' o', q = some ⟨b', o', none⟩ → s.Cap w b' o') ∧ 1 + linesW ls + s.weight ≤ k ∧ 1 + s.size ≤ k) →
    ∃ l : Tf, l.len = ks.length ∧ l.At w B b off ∧ l.Cap w b off ∧ l.weight ≤ ks.sum ∧ l.size ≤ ks.sum
  | [], _, _ => ⟨.nil, rfl, trivial, trivial, Nat.le_refl _, Nat.le_refl _⟩
  | k :: ks, off, h => by
    obtain ⟨kd, ls, t, s, p, q, c, d, h0, h1, h2, h3, h4, hk⟩ := h 0 k rfl
    rw [Nat.zero_mul, Nat.add_zero] at h0 h1 h2 h3
    obtain ⟨l, hl, hp, hc, hw, hz⟩ := tf_of2 w B b ks (off + 4) fun i k' hi => by
      have := h (i + 1) k' (by simpa using hi)
      rw [show off + (i + 1) * 4 = off + 4 + i * 4 by omega] at this; exact this
    exact ⟨.node kd ls t s l, by simp [Tf.len, hl], ⟨h0, ⟨p, c, h1⟩, h2, ⟨q, d, h3⟩, hp⟩, ⟨fun p' c' e => by cases (h3.1.symm.trans e); exact h4, hc⟩, by simp only [Tf.weight, List.sum_cons]; omega, by simp only [Tf.size, List.sum_cons]; omega⟩
theorem ts_of2 (w : World) (B b : Nat) : ∀ (ks : List Nat) (off : Nat), (∀ i k, ks[i]? = some k → ∃ (l : Tf) (p : Option Addr) (c : Nat), w.cell? ⟨b, off + i, none⟩ = some (.slice p l.len c) ∧ Sl B p l.len (Tf.At w B l) ∧ (∀ b' o', p = some ⟨b', o', none⟩ → l.Cap w b' o') ∧ l.weight ≤ k ∧ l.size + 1 ≤ k) →
    ∃ s : Ts, s.len = ks.length ∧ s.At w B b off ∧ s.Cap w b off ∧ s.weight ≤ ks.sum ∧ s.size ≤ ks.sum
  | [], _, _ => ⟨.nil, rfl, trivial, trivial, Nat.le_refl _, Nat.le_refl _⟩
  | k :: ks, off, h => by
    obtain ⟨l, p, c, h0, hs, h4, hk⟩ := h 0 k rfl
    obtain ⟨s, hl, hp, hc, hw, hz⟩ := ts_of2 w B b ks (off + 1) fun i k' hi => by
      have := h (i + 1) k' (by simpa using hi)
      rw [show off + (i + 1) = off + 1 + i by omega] at this; exact this
    exact ⟨.sub l s, by simp [Ts.len, hl], ⟨⟨p, c, h0, hs⟩, hp⟩, ⟨fun p' c' e => by cases (h0.symm.trans e); exact h4, hc⟩, by simp only [Ts.weight, List.sum_cons]; omega, by simp only [Ts.size, List.sum_cons]; omega⟩
mutual
theorem Lf.weight_wt : ∀ l : Lf, l.weight ≤ l.wt
  | .nil => Nat.le_refl _
  | .node _ _ _ s r => by have := Ls.weight_wt s; have := Lf.weight_wt r; simp only [Lf.weight, Lf.wt]; omega
theorem Ls.weight_wt : ∀ l : Ls, l.weight ≤ l.wt
  | .nil => Nat.le_refl _
  | .sub l r => by have := Lf.weight_wt l; have := Ls.weight_wt r; simp only [Ls.weight, Ls.wt]; omega
end
section
variable {H : Type} {enc : TypeId × Value → H} {w : World}
theorem slice_caps {t e : TypeId} {fuel n c : Nat} {p : Option Addr} {x : DataW H × List MemPlace} (ht : Try.prog.underlying t = some (.slice e)) (h : DataW.trod enc Try.prog w 0 (fun _ => true) true fuel t [.slice p n c] = some x) :
    (p = none → c = 0) ∧ n ≤ c ∧ c ≤ maxLen := by
  have H := DataW.trod_slice ht h
  rcases H with H | H
  · obtain ⟨h1, _⟩ := H
    cases h1
    exact ⟨fun _ => rfl, Nat.le_refl _, Nat.zero_le _⟩
  · obtain ⟨a, len, cap, elems, rest, n', _, h1, _, _, h2, h3, _⟩ := H
    cases h1
    exact ⟨fun h => (by cases h), h2, h3⟩
theorem cellsLeak : Try.prog.cellsOf 47 = 4 := by kernel_rfl
theorem cellsLeaks : Try.prog.cellsOf 23 = 1 := by kernel_rfl
theorem cellsU64 : Try.prog.cellsOf 24 = 1 := by kernel_rfl
theorem cOne2 (t : TypeId) (h : t = 43 ∨ t = 24 ∨ t = 4 ∨ t = 44 ∨ t = 45) : Try.prog.cellsOf t = 1 := by
  rcases h with rfl | rfl | rfl | rfl | rfl <;> kernel_rfl
theorem ints_of (w : World) (b : Nat) : ∀ (n off : Nat), (∀ i, i < n → ∃ y : Int, w.cell? ⟨b, off + i, none⟩ = some (.int .u64 y)) → ∃ l : List Int, l.length = n ∧ Ints w l b off
  | 0, _, _ => ⟨[], rfl, trivial⟩
  | n + 1, off, h => by
    obtain ⟨y, h0⟩ := h 0 (Nat.succ_pos _)
    obtain ⟨l, hl, hp⟩ := ints_of w b n (off + 1) fun i hi => by
      have := h (i + 1) (by omega)
      rw [show off + (i + 1) = off + 1 + i by omega] at this; exact this
    exact ⟨y :: l, by simp [hl], h0, hp⟩
theorem lf_of (w : World) (B b : Nat) : ∀ (ks : List Nat) (off : Nat), (∀ i k, ks[i]? = some k → ∃ (kd : Int) (is : List Int) (t : Bool) (s : Ls) (p q : Option Addr) (c d : Nat), w.cell? ⟨b, off + i * 4, none⟩ = some (.int .i64 kd) ∧ (w.cell? ⟨b, off + i * 4 + 1, none⟩ = some (.slice p is.length c) ∧ Sl B p is.length (Ints w is)) ∧
      w.cell? ⟨b, off + i * 4 + 2, none⟩ = some (.bool t) ∧ (w.cell? ⟨b, off + i * 4 + 3, none⟩ = some (.slice q s.len d) ∧ Sl B q s.len (Ls.At w B s)) ∧ 1 + is.length + s.wt ≤ k) →
    ∃ l : Lf, l.len = ks.length ∧ l.At w B b off ∧ l.wt ≤ ks.sum
  | [], _, _ => ⟨.nil, rfl, trivial, Nat.le_refl _⟩
  | k :: ks, off, h => by
    obtain ⟨kd, ls, t, s, p, q, c, d, h0, h1, h2, h3, hk⟩ := h 0 k rfl
    rw [Nat.zero_mul, Nat.add_zero] at h0 h1 h2 h3
    obtain ⟨l, hl, hp, hw⟩ := lf_of w B b ks (off + 4) fun i k' hi => by
      have := h (i + 1) k' (by simpa using hi)
      rw [show off + (i + 1) * 4 = off + 4 + i * 4 by omega] at this; exact this
    exact ⟨.node kd ls t s l, by simp [Lf.len, hl], ⟨h0, ⟨p, c, h1⟩, h2, ⟨q, d, h3⟩, hp⟩, by simp only [Lf.wt, List.sum_cons]; omega⟩
theorem ls_of (w : World) (B b : Nat) : ∀ (ks : List Nat) (off : Nat), (∀ i k, ks[i]? = some k → ∃ (l : Lf) (p : Option Addr) (c : Nat), w.cell? ⟨b, off + i, none⟩ = some (.slice p l.len c) ∧ Sl B p l.len (Lf.At w B l) ∧ l.wt + 1 ≤ k) →
    ∃ s : Ls, s.len = ks.length ∧ s.At w B b off ∧ s.wt ≤ ks.sum
  | [], _, _ => ⟨.nil, rfl, trivial, Nat.le_refl _⟩
  | k :: ks, off, h => by
    obtain ⟨l, p, c, h0, hs, hk⟩ := h 0 k rfl
    obtain ⟨s, hl, hp, hw⟩ := ls_of w B b ks (off + 1) fun i k' hi => by
      have := h (i + 1) k' (by simpa using hi)
      rw [show off + (i + 1) = off + 1 + i by omega] at this; exact this
    exact ⟨.sub l s, by simp [Ls.len, hl], ⟨⟨p, c, h0, hs⟩, hp⟩, by simp only [Ls.wt, List.sum_cons]; omega⟩
theorem open_u64s {fuel : Nat} {cs : List Value} {x : DataW H × List MemPlace} (h : DataW.trod enc Try.prog w 0 (fun _ => true) true fuel 44 cs = some x) (hb : Rows.uptoBulk x.1 ≤ 1048576) :
    ∃ (l : List Int) (p : Option Addr) (c : Nat), cs = [.slice p l.length c] ∧ Sl w.heap.size p l.length (Ints w l) ∧ 1 + l.length ≤ Rows.uptoBulk x.1 := by
  obtain ⟨n, p, ks, c, _, rfl, h1, h2, h3⟩ := slice_parts cellsU64 (by decide) Try.underlying44 h
  rcases h3 with h0 | ⟨b, off, rfl, hbl, hel⟩
  · exact ⟨[], p, c, by rw [h0]; rfl, ⟨by simp, .inl rfl⟩, by simp; omega⟩
  · obtain ⟨l, hl, hp⟩ := ints_of w b ks.length off (fun i hi => by
      obtain ⟨cs', y, hl, hc, hr, _⟩ := hel i _ (List.getElem?_eq_getElem hi)
      obtain ⟨y, e0, _, _⟩ := DataW.trod_int Try.underlying24 hr
      subst e0
      have := hc 0 (by decide)
      rw [Nat.mul_one] at this
      exact ⟨y, this⟩)
    exact ⟨l, _, c, by rw [hl], ⟨by omega, .inr ⟨b, off, rfl, hbl, hp⟩⟩, by omega⟩
theorem open_leak : ∀ (fuel : Nat) (cs : List Value) (x : DataW H × List MemPlace), DataW.trod enc Try.prog w 0 (fun _ => true) true fuel 23 cs = some x → Rows.uptoBulk x.1 ≤ 1048576 →
    ∃ (l : Lf) (p : Option Addr) (c : Nat), cs = [.slice p l.len c] ∧ l.In w w.heap.size p ∧ l.wt + 1 ≤ Rows.uptoBulk x.1 := by
  intro fuel
  induction fuel using Nat.strongRecOn with
  | ind fuel ih =>
    intro cs x h hb
    obtain ⟨n, p, ks, c, hn, rfl, h1, h2, h3⟩ := slice_parts cellsLeak (by decide) Try.underlying23 h
    rcases h3 with h0 | ⟨b, off, rfl, hbl, hel⟩
    · exact ⟨.nil, p, c, by rw [h0]; rfl, ⟨by simp [Lf.len], .inl rfl⟩, by simp only [Lf.wt]; omega⟩
    · obtain ⟨l, hl, hp, hw⟩ := lf_of w w.heap.size b ks off (fun i m hi => by
        obtain ⟨cs', y, hlc, hc, hr, hy⟩ := hel i m hi
        have hms := get_le_sum hi
        obtain ⟨xs, n', hn', hyx, hl, hx, hf⟩ := DataW.trod_struct Try.underlying47 hr
        obtain ⟨a, b', c', d, rfl⟩ := four hlc
        obtain ⟨x0, x1, x2, x3, rfl⟩ := four hx
        have h0 : DataW.trod enc Try.prog w 0 (fun _ => true) true n' 43 (List.take (Try.prog.cellsOf 43) [a, b', c', d]) = some x0 := hf 0 _ rfl
        have h1' : DataW.trod enc Try.prog w 0 (fun _ => true) true n' 44 (List.take (Try.prog.cellsOf 44) [b', c', d]) = some x1 := hf 1 _ rfl
        have h2' : DataW.trod enc Try.prog w 0 (fun _ => true) true n' 4 (List.take (Try.prog.cellsOf 4) [c', d]) = some x2 := hf 2 _ rfl
        have h3' : DataW.trod enc Try.prog w 0 (fun _ => true) true n' 45 (List.take (Try.prog.cellsOf 45) [d]) = some x3 := hf 3 _ rfl
        rw [cOne2 _ (by simp)] at h0 h1' h2' h3'
        have hyb : 1 + (Rows.uptoBulk x1.1 + Rows.uptoBulk x3.1) ≤ m := by
          rw [← hy, hyx]
          simp only [Rows.uptoBulk, List.map_cons, List.map_nil, Rows.uptoBulkAll]; omega
        obtain ⟨kd, e0, _, _⟩ := DataW.trod_int Try.underlying43 h0
        obtain ⟨tk, e2, _⟩ := DataW.trod_bool Try.underlying4 h2'
        obtain ⟨ls, q, dq, e1, hs1, hw1⟩ := open_u64s h1' (by omega)
        obtain ⟨n3, p3, k3, c3, hn3, e3, g1, g2, g3⟩ := slice_parts cellsLeaks (by decide) Try.underlying45 h3'
        simp at e0 e1 e2 e3
        subst e0; subst e1; subst e2; subst e3
        obtain ⟨s, hs, hs3, hw3⟩ : ∃ s : Ls, s.len = k3.length ∧ Sl w.heap.size p3 s.len (Ls.At w w.heap.size s) ∧ s.wt ≤ k3.sum := by
          rcases g3 with g0 | ⟨b3, o3, rfl, hb3, he3⟩
          · exact ⟨.nil, by rw [g0]; rfl, ⟨by simp [Ls.len], .inl rfl⟩, by simp [Ls.wt]⟩
          · obtain ⟨s, hs, hp3, hw3⟩ := ls_of w w.heap.size b3 k3 o3 (fun i m hi => by
              obtain ⟨cs', y, hlc, hc, hr, hy⟩ := he3 i m hi
              have hms := get_le_sum hi
              obtain ⟨l, p, c, rfl, hin, hwl⟩ := ih n3 (by omega) cs' y hr (by omega)
              have hc0 := hc 0 (by decide)
              rw [Nat.mul_one] at hc0
              exact ⟨l, p, c, hc0, hin, by omega⟩)
            exact ⟨s, hs, ⟨by omega, .inr ⟨b3, o3, rfl, hb3, hp3⟩⟩, hw3⟩
        have c0 := hc 0 (by decide)
        have c1 := hc 1 (by decide)
        have c2 := hc 2 (by decide)
        have c3' := hc 3 (by decide)
        exact ⟨kd, ls, tk, s, q, p3, dq, c3, c0, ⟨c1, hs1⟩, c2, ⟨by rw [hs]; exact c3', hs3⟩, by omega⟩)
      exact ⟨l, _, c, by rw [hl], ⟨by omega, .inr ⟨b, off, rfl, hbl, hp⟩⟩, by omega⟩
theorem open_terms2 : ∀ (fuel : Nat) (cs : List Value) (x : DataW H × List MemPlace), DataW.trod enc Try.prog w 0 (fun _ => true) true fuel 22 cs = some x → Rows.uptoBulk x.1 ≤ 1048576 →
    ∃ (l : Tf) (p : Option Addr) (c : Nat), cs = [.slice p l.len c] ∧ l.In w w.heap.size p ∧ (∀ b o, p = some ⟨b, o, none⟩ → l.Cap w b o) ∧ l.size + 1 ≤ Rows.uptoBulk x.1 ∧ l.weight ≤ Rows.uptoBulk x.1 := by
  intro fuel
  induction fuel using Nat.strongRecOn with
  | ind fuel ih =>
    intro cs x h hb
    obtain ⟨n, p, ks, c, hn, rfl, h1, h2, h3⟩ := slice_parts cellsTerm (by decide) Try.underlying22 h
    rcases h3 with h0 | ⟨b, off, rfl, hbl, hel⟩
    · exact ⟨.nil, p, c, by rw [h0]; rfl, ⟨by simp [Tf.len], .inl rfl⟩, fun _ _ _ => trivial, by simp only [Tf.size]; omega, by simp [Tf.weight]⟩
    · obtain ⟨l, hl, hp, hca, hw, hz⟩ := tf_of2 w w.heap.size b ks off (fun i m hi => by
        obtain ⟨cs', y, hlc, hc, hr, hy⟩ := hel i m hi
        have hms := get_le_sum hi
        obtain ⟨xs, n', hn', hyx, hl, hx, hf⟩ := DataW.trod_struct Try.underlying37 hr
        obtain ⟨a, b', c', d, rfl⟩ := four hlc
        obtain ⟨x0, x1, x2, x3, rfl⟩ := four hx
        have h0 : DataW.trod enc Try.prog w 0 (fun _ => true) true n' 34 (List.take (Try.prog.cellsOf 34) [a, b', c', d]) = some x0 := hf 0 _ rfl
        have h1' : DataW.trod enc Try.prog w 0 (fun _ => true) true n' 35 (List.take (Try.prog.cellsOf 35) [b', c', d]) = some x1 := hf 1 _ rfl
        have h2' : DataW.trod enc Try.prog w 0 (fun _ => true) true n' 4 (List.take (Try.prog.cellsOf 4) [c', d]) = some x2 := hf 2 _ rfl
        have h3' : DataW.trod enc Try.prog w 0 (fun _ => true) true n' 31 (List.take (Try.prog.cellsOf 31) [d]) = some x3 := hf 3 _ rfl
        rw [cOne _ (by simp)] at h0 h1' h2' h3'
        have hyb : 1 + (Rows.uptoBulk x1.1 + Rows.uptoBulk x3.1) ≤ m := by
          rw [← hy, hyx]
          simp only [Rows.uptoBulk, List.map_cons, List.map_nil, Rows.uptoBulkAll]; omega
        obtain ⟨kd, e0, _, _⟩ := DataW.trod_int Try.underlying34 h0
        obtain ⟨tk, e2, _⟩ := DataW.trod_bool Try.underlying4 h2'
        obtain ⟨ls, q, dq, e1, hs1, hw1⟩ := open_lines h1' (by omega)
        obtain ⟨n3, p3, k3, c3, hn3, e3, g1, g2, g3⟩ := slice_parts cellsTerms (by decide) Try.underlying31 h3'
        simp at e0 e1 e2 e3
        subst e0; subst e1; subst e2; subst e3
        obtain ⟨_, hcd, _⟩ := slice_caps Try.underlying31 h3'
        obtain ⟨s, hs, hs3, hc3, hw3, hz3⟩ : ∃ s : Ts, s.len = k3.length ∧ Sl w.heap.size p3 s.len (Ts.At w w.heap.size s) ∧ (∀ b' o', p3 = some ⟨b', o', none⟩ → s.Cap w b' o') ∧ s.weight ≤ k3.sum ∧ s.size ≤ k3.sum := by
          rcases g3 with g0 | ⟨b3, o3, rfl, hb3, he3⟩
          · exact ⟨.nil, by rw [g0]; rfl, ⟨by simp [Ts.len], .inl rfl⟩, fun _ _ _ => trivial, by simp [Ts.weight], by simp [Ts.size]⟩
          · obtain ⟨s, hs, hp3, hq3, hw3, hz3⟩ := ts_of2 w w.heap.size b3 k3 o3 (fun i m hi => by
              obtain ⟨cs', y, hlc, hc, hr, hy⟩ := he3 i m hi
              have hms := get_le_sum hi
              obtain ⟨l, p, c, rfl, hin, hcp, hzl, hwl⟩ := ih n3 (by omega) cs' y hr (by omega)
              have hc0 := hc 0 (by decide)
              rw [Nat.mul_one] at hc0
              exact ⟨l, p, c, hc0, hin, hcp, by omega, by omega⟩)
            exact ⟨s, hs, ⟨by omega, .inr ⟨b3, o3, rfl, hb3, hp3⟩⟩, fun b1 o1 e => by cases e; exact hq3, hw3, hz3⟩
        have c0 := hc 0 (by decide)
        have c1 := hc 1 (by decide)
        have c2 := hc 2 (by decide)
        have c3' := hc 3 (by decide)
        exact ⟨kd, ls, tk, s, q, p3, dq, c3, c0, ⟨c1, hs1⟩, c2, ⟨by rw [hs]; exact c3', hs3⟩, ⟨by omega, hc3⟩, by omega, by omega⟩)
      exact ⟨l, _, c, by rw [hl], ⟨by omega, .inr ⟨b, off, rfl, hbl, hp⟩⟩, fun b1 o1 e => by cases e; exact hca, by omega, by omega⟩
theorem cap_cut (w : World) {t : Tf} {p : Option Addr} (h : ∀ b o, p = some ⟨b, o, none⟩ → t.Cap w b o) : ∀ b o, p = some ⟨b, o, none⟩ → t.Cap (cutN w.heap.size w) b o := fun b o e => Tf.Cap.congr (fun b o => by
  simp only [cutN, cell_cut]
  by_cases hb : b < w.heap.size
  · rw [if_pos (by simpa using hb)]
  · rw [if_neg (by simpa using hb)]
    simp [World.cell?, Array.getElem?_eq_none (Nat.le_of_not_lt hb)]) t b o (h b o e)
end
end Go.Proofs.Ytcadeeldogknmaa
