/- Rows of the call's own: what they hold, later too. -/
import Derived.Test.YtdigkdfkaikagaaQ3
namespace Go.Proofs.Ytdigkdfkaikagaa
open Go.RowKit

theorem own_later {w w' : World} {base : Nat} {e : TypeId} {size n : Nat} {v : Value} {xs : List Value} (h : w.ownsRow base e size v n xs) (hB : Below w.heap.size w w') : w'.ownsRow base e size v n xs := by
  refine ⟨h.1, ?_⟩
  rcases h.2 with h0 | ⟨g, cap, cur, hv, hbg, hg, hr⟩
  · exact .inl h0
  · exact .inr ⟨g, cap, cur, hv, hbg, (hB.block g (h.lt g (by rw [hv]; rfl)).2).trans hg, hr⟩
theorem own_src {w : World} {base : Nat} {e : TypeId} {size n : Nat} {v : Value} {xs : List Value} (h : w.ownsRow base e size v n xs) : ∃ p c, v = .slice p n c ∧ Src w size p n c xs := by
  rcases h.2 with ⟨rfl, rfl⟩ | ⟨g, cap, cur, rfl, _⟩
  · exact ⟨none, 0, rfl, h.1, .inl ⟨rfl, rfl, rfl⟩⟩
  · exact ⟨_, cap, rfl, h.1, .inr ⟨_, rfl, h.cells (g := g) rfl⟩⟩
theorem own_cap {w : World} {base : Nat} {e : TypeId} {size n : Nat} {v : Value} {xs : List Value} (h : w.ownsRow base e size v n xs) : ∃ p c, v = .slice p n c ∧ n ≤ c ∧ c ≤ maxLen ∧ (p = none → n = 0 ∧ c = 0) ∧ (∀ ad, p = some ad → ∃ g, ad = ⟨g, 0, none⟩ ∧ base ≤ g ∧ g < w.heap.size ∧ (∀ o, w.frozen? ⟨g, o, none⟩ = false) ∧ ∀ j u, xs[j]? = some u → w.cell? ⟨g, j, none⟩ = some u) := by
  rcases h.2 with ⟨rfl, rfl⟩ | ⟨g, cap, cur, rfl, hb, hg, hnc, hcm, _⟩
  · exact ⟨none, 0, rfl, Nat.le_refl _, Nat.zero_le _, fun _ => ⟨rfl, rfl⟩, fun _ h => by cases h⟩
  · refine ⟨_, cap, rfl, hnc, hcm, (fun h => (by cases h)), fun ad had => ?_⟩
    cases had
    refine ⟨g, rfl, hb, (h.lt g rfl).2, fun o => by simp [World.frozen?, hg], fun j u hu => ?_⟩
    have := h.cells (g := g) rfl j u hu
    rw [add_of, Nat.zero_add] at this; exact this
theorem own_s3 {w : World} {base : Nat} {v : Value} {xs : List S3} (h : w.ownsRow base 48 3 v xs.length (s3Cells xs)) (hx : xs.length ≤ 1000000) :
    ∃ q d, v = .slice q xs.length d ∧ S3In w w.heap.size xs q ∧ xs.length ≤ d ∧ d ≤ maxLen ∧ (0 < xs.length → ∃ g, q = some ⟨g, 0, none⟩ ∧ base ≤ g ∧ ∀ o, w.frozen? ⟨g, o, none⟩ = false) := by
  obtain ⟨q, d, hv, h1, h2, h3, h4⟩ := own_cap h
  refine ⟨q, d, hv, ⟨by omega, ?_⟩, h1, h2, fun h0 => ?_⟩
  · cases q with
    | none => exact .inl (h3 rfl).1
    | some ad =>
      obtain ⟨g, rfl, hb, hlt, _, hc⟩ := h4 ad rfl
      exact .inr ⟨g, 0, rfl, hlt, S3At.of xs g 0 fun j u hu => by rw [Nat.zero_add]; exact hc j u hu⟩
  · cases q with
    | none => have := (h3 rfl).1; omega
    | some ad =>
      obtain ⟨g, rfl, hb, hlt, hf, hc⟩ := h4 ad rfl
      exact ⟨g, rfl, hb, hf⟩
theorem own_sn {w : World} {base : Nat} {v : Value} {xs : List Sn} (h : w.ownsRow base 48 3 v xs.length (snCells xs)) (hx : xs.length ≤ 1000000) :
    ∃ q d, v = .slice q xs.length d ∧ SnIn w w.heap.size xs q := by
  obtain ⟨q, d, hv, h1, h2, h3, h4⟩ := own_cap h
  refine ⟨q, d, hv, ⟨by omega, ?_⟩⟩
  cases q with
  | none => exact .inl (h3 rfl).1
  | some ad =>
    obtain ⟨g, rfl, hb, hlt, _, hc⟩ := h4 ad rfl
    exact .inr ⟨g, 0, rfl, hlt, SnAt.of xs g 0 fun j u hu => by rw [Nat.zero_add]; exact hc j u hu⟩
theorem own_sn2 {w : World} {base : Nat} {v : Value} {xs : List Sn} (h : w.ownsRow base 48 3 v xs.length (snCells xs)) (hx : xs.length ≤ 1000000) :
    ∃ q d, v = .slice q xs.length d ∧ SnIn w w.heap.size xs q ∧ ∀ b o, q = some ⟨b, o, none⟩ → base ≤ b := by
  obtain ⟨q, d, hv, hs⟩ := own_sn h hx
  refine ⟨q, d, hv, hs, fun b o hq => ?_⟩
  subst hq
  exact (h.lt b (by rw [hv]; rfl)).1
theorem SnAt.keep {w w' : World} {b : Nat} (hw : ∀ o, w'.cell? ⟨b, o, none⟩ = w.cell? ⟨b, o, none⟩) : ∀ (xs : List Sn) (o : Nat), SnAt w xs b o → SnAt w' xs b o
  | [], _, _ => trivial
  | _ :: xs, o, h => ⟨fun j u hj => (hw _).trans (h.1 j u hj), SnAt.keep hw xs (o + 3) h.2⟩
theorem SnIn_grown {w w' : World} {M : Nat} {row : Option Nat} {xs : List Sn} {q : Option Addr} (h : SnIn w w.heap.size xs q) (hq : ∀ b o, q = some ⟨b, o, none⟩ → M ≤ b) (hg : w.grownBy w' row) (hr : ∀ k, row = some k → k < M) : SnIn w' w'.heap.size xs q := by
  refine ⟨h.1, ?_⟩
  rcases h.2 with h0 | ⟨b, o, hp, hb, ha⟩
  · exact .inl h0
  · have hM := hq b o hp
    refine .inr ⟨b, o, hp, Nat.lt_of_lt_of_le hb hg.size, SnAt.keep (fun o => World.cell?_of_block (hg.block b hb fun e => ?_)) xs o ha⟩
    have := hr b e.symm; omega
theorem Lf.len_weight : ∀ l : Lf, l.len ≤ l.weight
  | .nil => Nat.zero_le _
  | .node _ _ _ _ r => by have := Lf.len_weight r; simp only [Lf.len, Lf.weight]; omega

theorem Src.seen {w : World} {N : Nat} {xs : List S3} {p : Option Addr} {c : Nat} (h : S3In w N xs p) (hp : p = none → c = 0) : Src w 3 p xs.length c (s3Cells xs) := by
  refine ⟨s3_len xs, ?_⟩
  cases p with
  | none =>
    rcases h.2 with h0 | ⟨b, o, hq, _⟩
    · exact .inl ⟨rfl, h0, hp rfl⟩
    · cases hq
  | some ad =>
    refine .inr ⟨ad, rfl, fun j u hu => ?_⟩
    rcases h.2 with h0 | ⟨b, o, hq, hb, ha⟩
    · have : xs = [] := List.eq_nil_of_length_eq_zero h0
      subst this; simp [s3Cells] at hu
    · cases hq
      rw [add_of]
      exact S3At.list xs b o ha j u hu
theorem oneS3 : ∀ xs : List S3, ∀ u ∈ s3Cells xs, u.oneCell' = true := by
  intro xs u hu
  obtain ⟨x, _, hx⟩ := List.mem_flatMap.1 hu
  simp only [S3.cells, List.mem_cons, List.not_mem_nil, or_false] at hx
  rcases hx with rfl | rfl | rfl <;> rfl
theorem oneSn : ∀ xs : List Sn, ∀ u ∈ snCells xs, u.oneCell' = true := by
  intro xs u hu
  obtain ⟨x, _, hx⟩ := List.mem_flatMap.1 hu
  cases x <;> simp only [Sn.cells, List.mem_cons, List.not_mem_nil, or_false] at hx <;> rcases hx with rfl | rfl | rfl <;> rfl

/-- a leakage's cells, as append reads them, and what is made of them -/
theorem Src.leak {w : World} {N : Nat} {l : Lf} {p : Option Addr} {c : Nat} (h : l.In w N p) (hp : p = none → c = 0) : ∃ news, Src w 4 p l.len c news ∧ (∀ u ∈ news, u.oneCell' = true) ∧
    ∀ (w' : World) (b' o' : Nat), Below N w w' → (∀ j u, news[j]? = some u → w'.cell? ⟨b', o' + j, none⟩ = some u) → l.At w' N b' o' := by
  rcases h.2 with h0 | ⟨b, o, rfl, hb, ha⟩
  · have hl : l = .nil := by cases l with | nil => rfl | node => simp [Lf.len] at h0
    subst hl
    refine ⟨[], ⟨rfl, ?_⟩, fun _ h => by simp at h, fun _ _ _ _ _ => trivial⟩
    cases p with
    | none => exact .inl ⟨rfl, rfl, hp rfl⟩
    | some ad => exact .inr ⟨ad, rfl, fun _ _ h => by simp at h⟩
  · obtain ⟨news, hl, hc, ho, hw⟩ := At_cells l b o ha
    exact ⟨news, ⟨hl, .inr ⟨_, rfl, fun j u hu => by rw [add_of]; exact hc j u hu⟩⟩, ho, hw⟩
theorem Lf.At.more {w : World} {N M : Nat} (hM : N ≤ M) : ∀ (l : Lf) (b o : Nat), Lf.At w N l b o → Lf.At w M l b o
  | .nil, _, _, _ => trivial
  | .node _ _ _ _ rest, b, o, h => by
    obtain ⟨h0, ⟨p, c, h1, s1⟩, h2, ⟨q, d, h3, s3⟩, h4⟩ := h
    exact ⟨h0, ⟨p, c, h1, s1.imp hM fun _ _ _ ha => ha⟩, h2, ⟨q, d, h3, s3.imp hM fun b' o' hb' ha => Ls.At.later (Below.refl _ _) hM _ b' o' hb' ha⟩, Lf.At.more hM rest b (o + 4) h4⟩
theorem own_app {w : World} {base N : Nat} {v : Value} {l m : Lf} {xs ys : List Value} (h : w.ownsRow base 44 4 v (l.len + m.len) (xs ++ ys)) (hx : xs.length = l.len * 4) (hN : N ≤ w.heap.size) (hs : l.len + m.len ≤ 1000000)
    (hl : ∀ (b' o' : Nat), (∀ j u, xs[j]? = some u → w.cell? ⟨b', o' + j, none⟩ = some u) → l.At w N b' o') (hm : ∀ (b' o' : Nat), (∀ j u, ys[j]? = some u → w.cell? ⟨b', o' + j, none⟩ = some u) → m.At w N b' o') :
    ∃ q d, v = .slice q (l.app m).len d ∧ (l.app m).In w w.heap.size q := by
  obtain ⟨q, d, hv, h1, h2, h3, h4⟩ := own_cap h
  rw [← Lf.app_len] at hv
  refine ⟨q, d, hv, ⟨by rw [Lf.app_len]; omega, ?_⟩⟩
  cases q with
  | none => exact .inl (by rw [Lf.app_len]; exact (h3 rfl).1)
  | some ad =>
    obtain ⟨g, rfl, hb, hlt, _, hc⟩ := h4 ad rfl
    refine .inr ⟨g, 0, rfl, hlt, At_app l m g 0 (Lf.At.more hN l g 0 (hl g 0 fun j u hu => ?_)) (Lf.At.more hN m g _ (hm g _ fun j u hu => ?_))⟩
    · rw [Nat.zero_add]; exact hc j u (by rw [List.getElem?_append_left (by rcases Nat.lt_or_ge j xs.length with h | h; exact h; rw [List.getElem?_eq_none h] at hu; cases hu)]; exact hu)
    · rw [Nat.zero_add, ← hx]; exact hc _ u (by rw [List.getElem?_append_right (by omega), Nat.add_sub_cancel_left]; exact hu)

theorem Src.later {w w' : World} {size m c : Nat} {p : Option Addr} {news : List Value} (h : Src w size p m c news) (hB : Below w.heap.size w w') : Src w' size p m c news := by
  refine ⟨h.1, ?_⟩
  rcases h.2 with h0 | ⟨ad, hp, hc⟩
  · exact .inl h0
  · exact .inr ⟨ad, hp, fun j u hu => (hB.cell (World.block_lt_of_cell? _ _ (hc j u hu))).trans (hc j u hu)⟩
/-- two leakages, appended one behind the other -/
theorem own_pair {w4 wA wB : World} {v1 v2 : Value} {l m : Lf} {xs ys : List Value} (hlen : l.len ≤ 3000 ∧ m.len ≤ 3000) (hxl : xs.length = l.len * 4) (hBA : Below w4.heap.size w4 wA) (h1 : wA.ownsRow w4.heap.size 44 4 v1 l.len xs)
    (hl : ∀ (w' : World) (b' o' : Nat), Below w4.heap.size w4 w' → (∀ j u, xs[j]? = some u → w'.cell? ⟨b', o' + j, none⟩ = some u) → l.At w' w4.heap.size b' o')
    (hm : ∀ (w' : World) (b' o' : Nat), Below w4.heap.size w4 w' → (∀ j u, ys[j]? = some u → w'.cell? ⟨b', o' + j, none⟩ = some u) → m.At w' w4.heap.size b' o')
    (hown : wB.ownsRow w4.heap.size 44 4 v2 (l.len + m.len) (xs ++ ys)) (hg : wA.grownBy wB v1.ownBlock) :
    Below w4.heap.size w4 wB ∧ ∃ q d, v2 = .slice q (l.app m).len d ∧ (l.app m).In wB wB.heap.size q := by
  have hB : Below w4.heap.size w4 wB := hBA.grown hg hBA.size fun k hk => (h1.lt k hk).1
  exact ⟨hB, own_app hown hxl hB.size (by omega) (fun b' o' hc => hl wB b' o' hB hc) (fun b' o' hc => hm wB b' o' hB hc)⟩
theorem S3At.set {w : World} {g : Nat} {x : S3} {z : Int} : ∀ (ds : List S3) (o : Nat), S3At w (ds ++ [x]) g o → S3At (w.setCell ⟨g, o + ds.length * 3 + 2, none⟩ (.int .u64 z)) (ds ++ [⟨x.a, x.t, z⟩]) g o
  | [], o, h => by
    obtain ⟨⟨h0, h1, h2⟩, _⟩ := h
    simp only [List.length_nil, Nat.zero_mul, Nat.add_zero]
    exact ⟨⟨(World.cell?_setCell_other _ _ _ _ (by simp)).trans h0, (World.cell?_setCell_other _ _ _ _ (by simp)).trans h1, World.cell?_setCell_same _ _ _ h2⟩, trivial⟩
  | d :: ds, o, h => by
    obtain ⟨⟨h0, h1, h2⟩, h3⟩ := h
    have := S3At.set (z := z) ds (o + 3) h3
    rw [show o + 3 + ds.length * 3 + 2 = o + (ds.length + 1) * 3 + 2 by omega] at this
    exact ⟨⟨(World.cell?_setCell_other _ _ _ _ (by simp)).trans h0, (World.cell?_setCell_other _ _ _ _ (by simp)).trans h1, (World.cell?_setCell_other _ _ _ _ (by simp)).trans h2⟩, this⟩
theorem one_in {W : World} {g d : Nat} {q : Option Addr} {xs : List Int} (c0 : W.cell? ⟨g, 0, none⟩ = some (.int .i64 1)) (c1 : W.cell? ⟨g, 1, none⟩ = some (.slice q xs.length d)) (c2 : W.cell? ⟨g, 2, none⟩ = some (.bool false)) (c3 : W.cell? ⟨g, 3, none⟩ = some (.slice none 0 0))
    (hq : Sl W.heap.size q xs.length (Ints W xs)) : (Lf.node 1 xs false .nil .nil).In W W.heap.size (some ⟨g, 0, none⟩) :=
  ⟨by simp [Lf.len], .inr ⟨g, 0, rfl, World.block_lt_of_cell? _ _ c0, c0, ⟨q, d, c1, hq⟩, c2, ⟨none, 0, c3, by simp [Ls.len], .inl rfl⟩, trivial⟩⟩
theorem wrap_ne (z : Int) : ¬ IntKind.u64.wrap (z + 1) = z := by
  intro h
  have : IntKind.u64.wrap (z + 1) = (z + 1) % 18446744073709551616 := by simp [IntKind.wrap, IntKind.bits, IntKind.signed]
  omega
end Go.Proofs.Ytdigkdfkaikagaa
