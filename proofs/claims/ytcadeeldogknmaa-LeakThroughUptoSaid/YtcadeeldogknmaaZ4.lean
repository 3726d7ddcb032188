/- Copies of nodes and lists. -/
import Derived.Test.YtcadeeldogknmaaZ3
namespace Go.Proofs.Ytcadeeldogknmaa
open Go.RowKit

mutual
/-- how much there is, lists too -/
def Lf.wt : Lf → Nat
  | .nil => 0
  | .node _ is _ s r => 1 + is.length + s.wt + r.wt
def Ls.wt : Ls → Nat
  | .nil => 0
  | .sub l r => 1 + l.wt + r.wt
end
theorem Lf.len_wt : ∀ l : Lf, l.len ≤ l.wt
  | .nil => Nat.le_refl _
  | .node k is t s r => by have := Lf.len_wt r; simp only [Lf.len, Lf.wt]; omega
theorem Ls.len_wt : ∀ l : Ls, l.len ≤ l.wt
  | .nil => Nat.le_refl _
  | .sub l r => by have := Ls.len_wt r; simp only [Ls.len, Ls.wt]; omega
theorem Ls.cat_wt : ∀ a b : Ls, (a.cat b).wt = a.wt + b.wt
  | .nil, b => by simp [Ls.cat, Ls.wt]
  | .sub l r, b => by rw [Ls.cat, Ls.wt, Ls.wt, Ls.cat_wt r b]; omega
theorem Lf.cat_wt : ∀ a b : Lf, (a.cat b).wt = a.wt + b.wt
  | .nil, b => by simp [Lf.cat, Lf.wt]
  | .node k is t s r, b => by rw [Lf.cat, Lf.wt, Lf.wt, Lf.cat_wt r b]; omega
/-- in new blocks from lo on, but some -/
def NewB (lo : Nat) (X : Nat → Bool) (w' : World) (P : World → Nat → Prop) : Prop := ∃ T : Nat → Bool, P (cut T w') w'.heap.size ∧ ∀ i, T i = true → lo ≤ i ∧ i < w'.heap.size ∧ X i = false
theorem NewB.keep {lo : Nat} {X : Nat → Bool} {W W' : World} {P : World → Nat → Prop} (h : NewB lo X W P) (hP : MonoP P) (hB : ∀ k, lo ≤ k → k < W.heap.size → X k = false → W'.heap[k]? = W.heap[k]?) (hs : W.heap.size ≤ W'.heap.size) : NewB lo X W' P := by
  obtain ⟨T, h1, h2⟩ := h
  refine ⟨T, hP _ _ _ _ h1 (Le.cut2 fun k hk => ⟨hk, fun o v hv => ?_⟩) hs, fun k hk => ⟨(h2 k hk).1, Nat.lt_of_lt_of_le (h2 k hk).2.1 hs, (h2 k hk).2.2⟩⟩
  have := hB k (h2 k hk).1 (h2 k hk).2.1 (h2 k hk).2.2
  simp only [World.cell?] at hv ⊢
  rw [this]; exact hv
theorem NewB.later {lo : Nat} {X : Nat → Bool} {W W' : World} {P : World → Nat → Prop} (h : NewB lo X W P) (hP : MonoP P) (hB : Below W.heap.size W W') : NewB lo X W' P := h.keep hP (fun k _ hk _ => hB.block k hk) hB.size
theorem New.toB {w W : World} {lo : Nat} {X : Nat → Bool} {P : World → Nat → Prop} (h : New w W P) (hl : lo ≤ w.heap.size) (hX : ∀ i, w.heap.size ≤ i → i < W.heap.size → X i = false) : NewB lo X W P := by
  obtain ⟨T, h1, h2⟩ := h
  exact ⟨T, h1, fun i hi => ⟨Nat.le_trans hl (h2 i hi).1, (h2 i hi).2, hX i (h2 i hi).1 (h2 i hi).2⟩⟩
theorem NewB.toNew {w W : World} {lo : Nat} {X : Nat → Bool} {P : World → Nat → Prop} (h : NewB lo X W P) (hl : w.heap.size ≤ lo) : New w W P := by
  obtain ⟨T, h1, h2⟩ := h
  exact ⟨T, h1, fun i hi => ⟨Nat.le_trans hl (h2 i hi).1, (h2 i hi).2.1⟩⟩
theorem OutG.form {ty k : Nat} {C : World → Nat → List Value → Prop} {n : Nat} {w : World} {base : Nat} {v : Value} (h : OutG ty k C n w base v) : ∃ q c, v = .slice q n c ∧ ∀ a, q = some a → ∃ g, a = ⟨g, 0, none⟩ ∧ base ≤ g ∧ g < w.heap.size := by
  obtain ⟨news, S, h1, _⟩ := h
  rcases h1.2 with ⟨rfl, h0⟩ | ⟨g, cap, cur, rfl, hg, hk, _⟩
  · exact ⟨none, 0, by rw [h0], fun _ h => by cases h⟩
  · exact ⟨_, cap, rfl, fun a h => by cases h; exact ⟨g, rfl, hg, lt_blk hk⟩⟩
theorem OutLs.in {w0 w : World} {base : Nat} {v : Value} {l : Ls} (h : OutLs w base v l) (hl : l.len ≤ 140737488355328) (hb : w0.heap.size ≤ base) : ∃ (p : Option Addr) (c : Nat), v = .slice p l.len c ∧ New w0 w fun u N => l.In u N p := by
  obtain ⟨news, S, h1, h2, h3, h4⟩ := h
  rcases h1 with ⟨_, ⟨rfl, h0⟩ | ⟨g, cap, cur, rfl, hg, hk, hnc, hm, hs, ht⟩⟩
  · exact ⟨none, 0, by rw [h0], fun _ => false, ⟨by omega, .inl h0⟩, fun _ h => by cases h⟩
  · have hlt : g < w.heap.size := lt_blk hk
    refine ⟨_, cap, rfl, fun i => S i || i == g, ⟨hl, .inr ⟨g, 0, rfl, hlt, Ls.At.ofCells (Le.cut2 fun b hb => ⟨by simp [hb], fun o v hv => hv⟩) (Nat.le_refl _) l news 0 h2 fun j u hu => ?_⟩⟩, fun i hi => ?_⟩
    · rw [cell_cut, if_pos (by simp), Nat.zero_add]
      rw [← ht, List.getElem?_take] at hu
      split at hu
      · exact cell_blk hk (by rw [← Array.getElem?_toList]; exact hu)
      · cases hu
    · have : S i = true ∨ i = g := by simpa using hi
      rcases this with h | rfl
      · exact ⟨Nat.le_trans hb (h3 i h).1, (h3 i h).2⟩
      · exact ⟨Nat.le_trans hb hg, hlt⟩
theorem Ls.At.drop {w : World} {N : Nat} : ∀ (ds rs : Ls) (b o : Nat), (ds.cat rs).At w N b o → rs.At w N b (o + ds.len)
  | .nil, _, _, _, h => h
  | .sub l r, rs, b, o, h => by
    have := Ls.At.drop r rs b (o + 1) h.2
    rw [Ls.len, show o + (r.len + 1) = o + 1 + r.len by omega]; exact this
theorem Lf.At.drop {w : World} {N : Nat} : ∀ (ds rs : Lf) (b o : Nat), (ds.cat rs).At w N b o → rs.At w N b (o + ds.len * 4)
  | .nil, _, _, o, h => by rw [Lf.len, Nat.zero_mul]; exact h
  | .node k is t s r, rs, b, o, h => by
    have := Lf.At.drop r rs b (o + 4) h.2.2.2.2
    rw [Lf.len, show o + (r.len + 1) * 4 = o + 4 + r.len * 4 by omega]; exact this
theorem OutG.lt {ty k : Nat} {C : World → Nat → List Value → Prop} {n : Nat} {w : World} {base g : Nat} {v : Value} (h : OutG ty k C n w base v) (hv : v.ownBlock = some g) : base ≤ g ∧ g < w.heap.size := by
  obtain ⟨q, c, rfl, hq⟩ := h.form
  cases q with
  | none => cases hv
  | some a =>
    obtain ⟨g', rfl, h1, h2⟩ := hq a rfl
    obtain rfl : g' = g := by simpa [Value.ownBlock] using hv
    exact ⟨h1, h2⟩
/-- one more list, of the call's own, behind a row of lists -/
theorem app_ls {base : Nat} {v : Value} {ds : Ls} {l : Lf} {W W1 : World} {q : Option Addr} {d : Nat} (hO : OutLs W base v ds) (hbase : base ≤ W.heap.size) (hB : Below W.heap.size W W1) (hN : New W W1 fun u N => l.In u N q) (hl : ds.len ≤ 1073741824) (ty : Nat) :
    ∃ qv cv W3, (Builtin.append_ #[45, 45] ty #[v, .slice (some ⟨W1.heap.size, 0, none⟩) 1 1]).run Try.prog (W1.alloc (.cells #[.slice q l.len d] 23 (0, 0))) = .ok (.slice qv (ds.len + 1) cv) W3 ∧ OutLs W3 base (.slice qv (ds.len + 1) cv) (ds.cat (.sub l .nil)) ∧ (W1.alloc (.cells #[.slice q l.len d] 23 (0, 0))).grownBy W3 v.ownBlock ∧ OwnTo W v (.slice qv (ds.len + 1) cv) := by
  obtain ⟨i0, hi, hz0, hz1, hz2⟩ := info_parts info_leaks
  obtain ⟨W2, hW2⟩ : ∃ W2, W2 = W1.alloc (.cells #[.slice q l.len d] 23 (0, 0)) := ⟨_, rfl⟩
  have hn : W2.heap[W1.heap.size]? = some (.cells #[.slice q l.len d] 23 (0, 0)) := by rw [hW2]; exact heap_alloc_new W1 _
  have hA : Below W1.heap.size W1 W2 := by rw [hW2]; exact (Below.refl _ W1).alloc (Nat.le_refl _) _
  have hs2 : W2.heap.size = W1.heap.size + 1 := by rw [hW2]; simp
  have hBs := hB.size
  have hO2 := hO.keep (w' := W2) (mono_ls ds) (fun i _ hl => (hA.block i (Nat.lt_of_lt_of_le hl hB.size)).trans (hB.block i hl)) (Nat.le_trans hB.size hA.size)
  obtain ⟨T, k2, k3⟩ := (hN.later (mono_lfin l q) hA)
  have hlt := fun g hg => hO.lt (g := g) hg
  obtain ⟨news, S, h1, h2, h3, h4⟩ := hO2
  rw [← hW2]
  obtain ⟨v', W3, hr, g1, g2, g3⟩ := run_app (P := Try.prog) W2 base 45 ty 23 i0 (.slice none 0 0) 1 24 Try.underlying45 hi hz0 hz1 hz2 rfl (by decide) v ds.len news h1 (some ⟨W1.heap.size, 0, none⟩) 1 1 [.slice q l.len d] ⟨rfl, .inr ⟨_, _, rfl, fun j u hu => by rw [Nat.zero_add]; exact cell_blk hn (by rw [← Array.getElem?_toList]; exact hu)⟩⟩ (by simp [Value.oneCell']) (by unfold maxLen; omega) (by omega) (by omega)
  have hOut := OutG.snoc (D := fun u N cs => (Ls.sub l .nil).Cells u N cs) (C' := fun u N cs => (ds.cat (.sub l .nil)).Cells u N cs) g1 g2 g3 h2 h3 h4 ⟨q, d, [], rfl, k2, rfl⟩ (fun i hi => ⟨by have := (k3 i hi).1; omega, (k3 i hi).2⟩) (fun g hg => by
    cases hT : T g with
    | false => rfl
    | true => have := (k3 g hT).1; have := (hlt g hg).2; omega) (mono_ls ds) (mono_ls _) (fun u N a b ha hb => Ls.Cells.cat hb ds a ha)
  obtain ⟨qv, cv, rfl, _⟩ := hOut.form
  refine ⟨qv, cv, W3, hr, ?_, g2, by rcases g3 with g3 | g3; (· exact .inl g3); (· exact .inr ⟨_, g3, by omega⟩)⟩
  unfold OutLs
  rw [Ls.cat_len]
  exact hOut
/-- one more node, whose lists are the call's own, behind a list of nodes -/
theorem app_lf {base : Nat} {v : Value} {ds : Lf} {k : Int} {is : List Int} {t : Bool} {subs : Ls} {W W1 : World} {q1 q2 : Option Addr} {d1 d2 : Nat} (hO : OutL W base v ds) (hbase : base ≤ W.heap.size) (hB : Below W.heap.size W W1) (hN : New W W1 fun u N => Sl N q1 is.length (Ints u is) ∧ subs.In u N q2) (hl : ds.len ≤ 2000000000000) (ty : Nat) :
    ∃ qv cv W3, (Builtin.append_ #[23, 23] ty #[v, .slice (some ⟨W1.heap.size, 0, none⟩) 1 1]).run Try.prog (W1.alloc (.cells #[.int .i64 k, .slice q1 is.length d1, .bool t, .slice q2 subs.len d2] 47 (0, 0))) = .ok (.slice qv (ds.len + 1) cv) W3 ∧ OutL W3 base (.slice qv (ds.len + 1) cv) (ds.cat (.node k is t subs .nil)) ∧ (W1.alloc (.cells #[.int .i64 k, .slice q1 is.length d1, .bool t, .slice q2 subs.len d2] 47 (0, 0))).grownBy W3 v.ownBlock ∧ OwnTo W v (.slice qv (ds.len + 1) cv) := by
  obtain ⟨i0, hi, hz0, hz1, hz2⟩ := info_parts info_leak
  obtain ⟨W2, hW2⟩ : ∃ W2, W2 = W1.alloc (.cells #[.int .i64 k, .slice q1 is.length d1, .bool t, .slice q2 subs.len d2] 47 (0, 0)) := ⟨_, rfl⟩
  have hn : W2.heap[W1.heap.size]? = some (.cells #[.int .i64 k, .slice q1 is.length d1, .bool t, .slice q2 subs.len d2] 47 (0, 0)) := by rw [hW2]; exact heap_alloc_new W1 _
  have hA : Below W1.heap.size W1 W2 := by rw [hW2]; exact (Below.refl _ W1).alloc (Nat.le_refl _) _
  have hs2 : W2.heap.size = W1.heap.size + 1 := by rw [hW2]; simp
  have hBs := hB.size
  have hO2 := hO.keep (w' := W2) (mono_lf ds) (fun i _ hl => (hA.block i (Nat.lt_of_lt_of_le hl hB.size)).trans (hB.block i hl)) (Nat.le_trans hB.size hA.size)
  obtain ⟨T, k2, k3⟩ := (hN.later ((mono_ints is q1).and (mono_lsin subs q2)) hA)
  have hlt := fun g hg => hO.lt (g := g) hg
  obtain ⟨news, S, h1, h2, h3, h4⟩ := hO2
  rw [← hW2]
  obtain ⟨v', W3, hr, g1, g2, g3⟩ := run_app (P := Try.prog) W2 base 23 ty 47 i0 (.agg #[.int .i64 0, .slice none 0 0, .bool false, .slice none 0 0]) 4 64 Try.underlying23 hi hz0 hz1 hz2 rfl (by decide) v ds.len news h1 (some ⟨W1.heap.size, 0, none⟩) 1 1 [.int .i64 k, .slice q1 is.length d1, .bool t, .slice q2 subs.len d2] ⟨rfl, .inr ⟨_, _, rfl, fun j u hu => by rw [Nat.zero_add]; exact cell_blk hn (by rw [← Array.getElem?_toList]; exact hu)⟩⟩ (by
    intro u hu
    simp only [List.mem_cons, List.not_mem_nil, or_false] at hu
    rcases hu with rfl | rfl | rfl | rfl <;> rfl) (by unfold maxLen; omega) (by omega) (by omega)
  have hOut := OutG.snoc (D := fun u N cs => (Lf.node k is t subs .nil).Cells u N cs) (C' := fun u N cs => (ds.cat (.node k is t subs .nil)).Cells u N cs) g1 g2 g3 h2 h3 h4 ⟨q1, d1, q2, d2, [], rfl, k2.1, k2.2, rfl⟩ (fun i hi => ⟨by have := (k3 i hi).1; omega, (k3 i hi).2⟩) (fun g hg => by
    cases hT : T g with
    | false => rfl
    | true => have := (k3 g hT).1; have := (hlt g hg).2; omega) (mono_lf ds) (mono_lf _) (fun u N a b ha hb => Lf.Cells.cat hb ds a ha)
  obtain ⟨qv, cv, rfl, _⟩ := hOut.form
  refine ⟨qv, cv, W3, hr, ?_, g2, by rcases g3 with g3 | g3; (· exact .inl g3); (· exact .inr ⟨_, g3, by omega⟩)⟩
  unfold OutL
  rw [Lf.cat_len]
  exact hOut
def CpL (n : Nat) : Prop := ∀ l : Lf, l.wt < n → l.wt ≤ 1073741824 → ∀ (p : Option Addr) (c N : Nat) (w : World), l.In w N p → N ≤ w.heap.size →
    Calls Try.prog 18 #[.slice p l.len c] w fun e w' => ∃ q d, e = .returned (.slice q l.len d) ∧ Below w.heap.size w w' ∧ New w w' fun u N => l.In u N q
/-- the copy as it is made -/
structure CN (w W : World) (G M : Nat) (k : Int) (is : List Int) (t : Bool) (q : Option Addr) (d : Nat) (sv : Value) : Prop where
  bel : Below w.heap.size w W
  c0 : W.cell? ⟨G, 0, none⟩ = some (.int .i64 k)
  c1 : W.cell? ⟨G, 1, none⟩ = some (.slice q is.length d)
  c2 : W.cell? ⟨G, 2, none⟩ = some (.bool t)
  c3 : W.cell? ⟨G, 3, none⟩ = some sv
  fz : ∀ o, W.frozen? ⟨G, o, none⟩ = false
  hG : w.heap.size < G ∧ G < M ∧ M ≤ W.heap.size
  items : NewB (w.heap.size + 1) (fun i => i == G || decide (M ≤ i)) W fun u N => Sl N q is.length (Ints u is)
  res : W.heap[w.heap.size]? = some (.cells #[.int .i64 0, .slice none 0 0, .bool false, .slice none 0 0] 47 (0, 0))
theorem CN.later {w W W' : World} {G M : Nat} {k : Int} {is : List Int} {t : Bool} {q : Option Addr} {d : Nat} {sv : Value} (h : CN w W G M k is t q d sv) (hB : Below M W W') : CN w W' G M k is t q d sv :=
  have hG := h.hG
  ⟨h.bel.trans (hB.mono (by omega)), (hB.cell hG.2.1).trans h.c0, (hB.cell hG.2.1).trans h.c1, (hB.cell hG.2.1).trans h.c2, (hB.cell hG.2.1).trans h.c3, fun o => (World.frozen?_of_block (hB.block G hG.2.1)).trans (h.fz o), ⟨hG.1, hG.2.1, Nat.le_trans hG.2.2 hB.size⟩, h.items.keep (mono_ints _ _) (fun k _ _ hk => hB.block k (by simp at hk; omega)) hB.size, (hB.block _ (by omega)).trans h.res⟩
theorem CN.put {w W : World} {G M : Nat} {k : Int} {is : List Int} {t : Bool} {q : Option Addr} {d : Nat} {sv : Value} (sv' : Value) (h : CN w W G M k is t q d sv) : CN w (W.setCell ⟨G, 3, none⟩ sv') G M k is t q d sv' :=
  have hG := h.hG
  ⟨h.bel.setCell (p := ⟨G, 3, none⟩) (show w.heap.size ≤ G by omega) _, (World.cell?_setCell_other _ _ _ _ (by simp)).trans h.c0, (World.cell?_setCell_other _ _ _ _ (by simp)).trans h.c1, (World.cell?_setCell_other _ _ _ _ (by simp)).trans h.c2, World.cell?_setCell_same _ _ _ h.c3,
    fun o => (World.frozen?_setCells G [sv'] 3 W ⟨G, o, none⟩).trans (h.fz o), ⟨hG.1, hG.2.1, by simp [World.setCell]; exact hG.2.2⟩, h.items.keep (mono_ints _ _) (fun k _ _ hk => Below.heap_setCell _ _ _ _ (by simp at hk; show k ≠ G; omega)) (by simp [World.setCell]), (Below.heap_setCell _ _ _ _ (by show w.heap.size ≠ G; omega)).trans h.res⟩
/-- made behind the call, or ahead of it -/
theorem cn_A {w W0 w1 : World} {k : Int} {is : List Int} {t : Bool} {q : Option Addr} {d : Nat} (hB0 : Below w.heap.size w W0) (hz0 : W0.heap.size = w.heap.size + 1) (hk0 : W0.heap[w.heap.size]? = some (.cells #[.int .i64 0, .slice none 0 0, .bool false, .slice none 0 0] 47 (0, 0))) (hX : Below W0.heap.size W0 w1) (hN : New W0.drew w1 fun u N => Sl N q is.length (Ints u is)) :
    CN w (w1.alloc (.cells #[.int .i64 k, .slice q is.length d, .bool t, .slice none 0 0] 47 (0, 0))) w1.heap.size (w1.heap.size + 1) k is t q d (.slice none 0 0) := by
  have hn := heap_alloc_new w1 (.cells #[.int .i64 k, .slice q is.length d, .bool t, .slice none 0 0] 47 (0, 0))
  have hA : Below w1.heap.size w1 (w1.alloc (.cells #[.int .i64 k, .slice q is.length d, .bool t, .slice none 0 0] 47 (0, 0))) := (Below.refl _ w1).alloc (Nat.le_refl _) _
  have hs := hX.size
  refine ⟨(hB0.trans (hX.mono (by omega))).trans (hA.mono (by omega)), cell_blk hn rfl, cell_blk hn rfl, cell_blk hn rfl, cell_blk hn rfl, fun o => World.frozen?_alloc_at _ _ _ _ rfl, ⟨by omega, by omega, by simp⟩, ?_, (hA.block _ (by omega)).trans ((hX.block _ (by omega)).trans hk0)⟩
  exact (hN.toB (X := fun i => i == w1.heap.size || decide (w1.heap.size + 1 ≤ i)) (by simp; omega) (fun i _ hi => by simp; omega)).later (mono_ints _ _) hA
theorem cn_B {w W0 w1 : World} {k : Int} {is : List Int} {t : Bool} {q : Option Addr} {d : Nat} (hB0 : Below w.heap.size w W0) (hz0 : W0.heap.size = w.heap.size + 1) (hk0 : W0.heap[w.heap.size]? = some (.cells #[.int .i64 0, .slice none 0 0, .bool false, .slice none 0 0] 47 (0, 0))) (hX : Below (W0.drew.alloc (.cells #[.int .i64 0, .slice none 0 0, .bool false, .slice none 0 0] 47 (0, 0))).heap.size (W0.drew.alloc (.cells #[.int .i64 0, .slice none 0 0, .bool false, .slice none 0 0] 47 (0, 0))) w1) (hN : New (W0.drew.alloc (.cells #[.int .i64 0, .slice none 0 0, .bool false, .slice none 0 0] 47 (0, 0))) w1 fun u N => Sl N q is.length (Ints u is)) :
    ((w1.cell? ⟨W0.heap.size, 0, none⟩ = some (.int .i64 0) ∧ w1.cell? ⟨W0.heap.size, 1, none⟩ = some (.slice none 0 0) ∧ w1.cell? ⟨W0.heap.size, 2, none⟩ = some (.bool false) ∧ w1.cell? ⟨W0.heap.size, 3, none⟩ = some (.slice none 0 0)) ∧ ∀ o, w1.frozen? ⟨W0.heap.size, o, none⟩ = false) ∧
    CN w ((((w1.setCell ⟨W0.heap.size, 0, none⟩ (.int .i64 k)).setCell ⟨W0.heap.size, 1, none⟩ (.slice q is.length d)).setCell ⟨W0.heap.size, 2, none⟩ (.bool t)).setCell ⟨W0.heap.size, 3, none⟩ (.slice none 0 0)) W0.heap.size w1.heap.size k is t q d (.slice none 0 0) := by
  have hn := heap_alloc_new W0.drew (.cells #[.int .i64 0, .slice none 0 0, .bool false, .slice none 0 0] 47 (0, 0))
  have hsz : (W0.drew.alloc (.cells #[.int .i64 0, .slice none 0 0, .bool false, .slice none 0 0] 47 (0, 0))).heap.size = W0.heap.size + 1 := by simp
  have hA : Below W0.heap.size W0 (W0.drew.alloc (.cells #[.int .i64 0, .slice none 0 0, .bool false, .slice none 0 0] 47 (0, 0))) := (Below.refl _ W0).drew.alloc (Nat.le_refl _) _
  have hk : w1.heap[W0.heap.size]? = some (.cells #[.int .i64 0, .slice none 0 0, .bool false, .slice none 0 0] 47 (0, 0)) := (hX.block _ (by omega)).trans hn
  have z0 := cell_blk hk (j := 0) rfl
  have z1 := cell_blk hk (j := 1) rfl
  have z2 := cell_blk hk (j := 2) rfl
  have z3 := cell_blk hk (j := 3) rfl
  have hf : ∀ o, w1.frozen? ⟨W0.heap.size, o, none⟩ = false := fun o => by simp [World.frozen?, hk]
  have hs := hX.size
  have hbl : ∀ kk, kk ≠ W0.heap.size → ((((w1.setCell ⟨W0.heap.size, 0, none⟩ (.int .i64 k)).setCell ⟨W0.heap.size, 1, none⟩ (.slice q is.length d)).setCell ⟨W0.heap.size, 2, none⟩ (.bool t)).setCell ⟨W0.heap.size, 3, none⟩ (.slice none 0 0)).heap[kk]? = w1.heap[kk]? := fun kk h => by
    rw [Below.heap_setCell _ _ _ _ h, Below.heap_setCell _ _ _ _ h, Below.heap_setCell _ _ _ _ h, Below.heap_setCell _ _ _ _ h]
  have hss : ((((w1.setCell ⟨W0.heap.size, 0, none⟩ (.int .i64 k)).setCell ⟨W0.heap.size, 1, none⟩ (.slice q is.length d)).setCell ⟨W0.heap.size, 2, none⟩ (.bool t)).setCell ⟨W0.heap.size, 3, none⟩ (.slice none 0 0)).heap.size = w1.heap.size := by simp [World.setCell]
  refine ⟨⟨⟨z0, z1, z2, z3⟩, hf⟩, ?_, ?_, ?_, ?_, ?_, fun o => ?_, ⟨by omega, by omega, by rw [hss]; exact Nat.le_refl _⟩, ?_, ?_⟩
  · refine ((((((hB0.trans (hA.mono (by omega))).trans (hX.mono (by omega)))).setCell (p := ⟨W0.heap.size, 0, none⟩) (show w.heap.size ≤ W0.heap.size by omega) _).setCell (p := ⟨W0.heap.size, 1, none⟩) (show w.heap.size ≤ W0.heap.size by omega) _).setCell (p := ⟨W0.heap.size, 2, none⟩) (show w.heap.size ≤ W0.heap.size by omega) _).setCell (p := ⟨W0.heap.size, 3, none⟩) (show w.heap.size ≤ W0.heap.size by omega) _
  · rw [World.cell?_setCell_other _ _ _ _ (by simp), World.cell?_setCell_other _ _ _ _ (by simp), World.cell?_setCell_other _ _ _ _ (by simp)]; exact World.cell?_setCell_same _ _ _ z0
  · rw [World.cell?_setCell_other _ _ _ _ (by simp), World.cell?_setCell_other _ _ _ _ (by simp)]; exact World.cell?_setCell_same _ _ _ ((World.cell?_setCell_other _ _ _ _ (by simp)).trans z1)
  · rw [World.cell?_setCell_other _ _ _ _ (by simp)]; exact World.cell?_setCell_same _ _ _ ((World.cell?_setCell_other _ _ _ _ (by simp)).trans ((World.cell?_setCell_other _ _ _ _ (by simp)).trans z2))
  · exact World.cell?_setCell_same _ _ _ ((World.cell?_setCell_other _ _ _ _ (by simp)).trans ((World.cell?_setCell_other _ _ _ _ (by simp)).trans ((World.cell?_setCell_other _ _ _ _ (by simp)).trans z3)))
  · exact (World.frozen?_setCells _ [_] _ _ ⟨W0.heap.size, o, none⟩).trans ((World.frozen?_setCells _ [_] _ _ ⟨W0.heap.size, o, none⟩).trans ((World.frozen?_setCells _ [_] _ _ ⟨W0.heap.size, o, none⟩).trans ((World.frozen?_setCells _ [_] _ _ ⟨W0.heap.size, o, none⟩).trans (hf o))))
  · refine (hN.toB (lo := w.heap.size + 1) (X := fun i => i == W0.heap.size || decide (w1.heap.size ≤ i)) (by omega) (fun i hi hi2 => by simp; omega)).keep (mono_ints _ _) (fun kk _ _ hk' => hbl kk (by simp at hk'; omega)) (by rw [hss]; exact Nat.le_refl _)
  · exact (hbl _ (by omega)).trans ((hX.block _ (by omega)).trans ((hA.block _ (by omega)).trans hk0))
theorem four_set {W : World} {R : Nat} {x0 x1 x2 x3 y0 y1 y2 y3 : Value} (r0 : W.cell? ⟨R, 0, none⟩ = some y0) (r1 : W.cell? ⟨R, 1, none⟩ = some y1) (r2 : W.cell? ⟨R, 2, none⟩ = some y2) (r3 : W.cell? ⟨R, 3, none⟩ = some y3) :
    ∃ W', W' = (((W.setCell ⟨R, 0, none⟩ x0).setCell ⟨R, 1, none⟩ x1).setCell ⟨R, 2, none⟩ x2).setCell ⟨R, 3, none⟩ x3 ∧ W'.cell? ⟨R, 0, none⟩ = some x0 ∧ W'.cell? ⟨R, 1, none⟩ = some x1 ∧ W'.cell? ⟨R, 2, none⟩ = some x2 ∧ W'.cell? ⟨R, 3, none⟩ = some x3 ∧ (∀ kk, kk ≠ R → W'.heap[kk]? = W.heap[kk]?) ∧ W'.heap.size = W.heap.size ∧ (∀ B, B ≤ R → Below B W W') ∧ ∀ o, W'.frozen? ⟨R, o, none⟩ = W.frozen? ⟨R, o, none⟩ := by
  refine ⟨_, rfl, ?_, ?_, ?_, ?_, fun kk h => ?_, ?_, fun B hB => ?_, fun o => ?_⟩
  · rw [World.cell?_setCell_other _ _ _ _ (by simp), World.cell?_setCell_other _ _ _ _ (by simp), World.cell?_setCell_other _ _ _ _ (by simp)]; exact World.cell?_setCell_same _ _ _ r0
  · rw [World.cell?_setCell_other _ _ _ _ (by simp), World.cell?_setCell_other _ _ _ _ (by simp)]; exact World.cell?_setCell_same _ _ _ ((World.cell?_setCell_other _ _ _ _ (by simp)).trans r1)
  · rw [World.cell?_setCell_other _ _ _ _ (by simp)]; exact World.cell?_setCell_same _ _ _ ((World.cell?_setCell_other _ _ _ _ (by simp)).trans ((World.cell?_setCell_other _ _ _ _ (by simp)).trans r2))
  · exact World.cell?_setCell_same _ _ _ ((World.cell?_setCell_other _ _ _ _ (by simp)).trans ((World.cell?_setCell_other _ _ _ _ (by simp)).trans ((World.cell?_setCell_other _ _ _ _ (by simp)).trans r3)))
  · rw [Below.heap_setCell _ _ _ _ h, Below.heap_setCell _ _ _ _ h, Below.heap_setCell _ _ _ _ h, Below.heap_setCell _ _ _ _ h]
  · simp [World.setCell]
  · exact ((((Below.refl B W).setCell (p := ⟨R, 0, none⟩) hB _).setCell (p := ⟨R, 1, none⟩) hB _).setCell (p := ⟨R, 2, none⟩) hB _).setCell (p := ⟨R, 3, none⟩) hB _
  · exact (World.frozen?_setCells _ [_] _ _ ⟨R, o, none⟩).trans ((World.frozen?_setCells _ [_] _ _ ⟨R, o, none⟩).trans ((World.frozen?_setCells _ [_] _ _ ⟨R, o, none⟩).trans (World.frozen?_setCells _ [_] _ _ ⟨R, o, none⟩)))
theorem OutLs.new {w0 w : World} {base : Nat} {q : Option Addr} {c n : Nat} {l : Ls} (h : OutLs w base (.slice q n c) l) (hl : l.len ≤ 140737488355328) (hb : w0.heap.size ≤ base) : New w0 w fun u N => l.In u N q := by
  obtain ⟨p, c', e, h1⟩ := h.in hl hb
  obtain ⟨rfl, rfl, rfl⟩ : q = p ∧ n = l.len ∧ c = c' := by simpa using e
  exact h1
theorem cn_end {w W : World} {G M : Nat} {k : Int} {is : List Int} {t : Bool} {q1 qv : Option Addr} {d1 cv : Nat} {ds : Ls} (h : CN w W G M k is t q1 d1 (.slice qv ds.len cv)) (hO : OutLs W M (.slice qv ds.len cv) ds) (hl : ds.len ≤ 140737488355328) :
    ∃ W', W' = (((W.setCell ⟨w.heap.size, 0, none⟩ (.int .i64 k)).setCell ⟨w.heap.size, 1, none⟩ (.slice q1 is.length d1)).setCell ⟨w.heap.size, 2, none⟩ (.bool t)).setCell ⟨w.heap.size, 3, none⟩ (.slice qv ds.len cv) ∧
      (W'.cell? ⟨w.heap.size, 0, none⟩ = some (.int .i64 k) ∧ W'.cell? ⟨w.heap.size, 1, none⟩ = some (.slice q1 is.length d1) ∧ W'.cell? ⟨w.heap.size, 2, none⟩ = some (.bool t) ∧ W'.cell? ⟨w.heap.size, 3, none⟩ = some (.slice qv ds.len cv)) ∧
      Below w.heap.size w W' ∧ New w W' fun u N => Sl N q1 is.length (Ints u is) ∧ ds.In u N qv := by
  obtain ⟨W', e, c0, c1, c2, c3, hb, hs, hB, _⟩ := four_set (x0 := .int .i64 k) (x1 := .slice q1 is.length d1) (x2 := .bool t) (x3 := .slice qv ds.len cv) (cell_blk h.res (j := 0) rfl) (cell_blk h.res (j := 1) rfl) (cell_blk h.res (j := 2) rfl) (cell_blk h.res (j := 3) rfl)
  refine ⟨W', e, ⟨c0, c1, c2, c3⟩, h.bel.trans (hB _ (Nat.le_refl _)), ?_⟩
  have hG := h.hG
  have n1 : New w W' fun u N => Sl N q1 is.length (Ints u is) := (h.items.keep (W' := W') (mono_ints _ _) (fun kk hk _ _ => hb kk (by omega)) (by omega)).toNew (by omega)
  have n2 : OutLs W' M (.slice qv ds.len cv) ds := hO.keep (mono_ls ds) (fun i hi _ => hb i (by omega)) (by omega)
  exact n1.both (n2.new hl (by omega)) (mono_ints _ _) (mono_lsin _ _)
set_option maxRecDepth 100000 in
set_option maxHeartbeats 6400000 in
theorem copyNode_of (n : Nat) (ih : CpL n) (k : Int) (is : List Int) (t : Bool) (subs : Ls) (hs : subs.wt < n) (hb : subs.wt ≤ 1073741824) (hi : is.length ≤ 1073741824) (p q : Option Addr) (c d b o N : Nat) (w : World) (hN : N ≤ w.heap.size) (hbN : b < N)
    (h0 : w.cell? ⟨b, o, none⟩ = some (.int .i64 k)) (h1 : w.cell? ⟨b, o + 1, none⟩ = some (.slice p is.length c)) (s1 : Sl N p is.length (Ints w is)) (h2 : w.cell? ⟨b, o + 2, none⟩ = some (.bool t)) (h3 : w.cell? ⟨b, o + 3, none⟩ = some (.slice q subs.len d)) (s3 : Sl N q subs.len (Ls.At w N subs)) :
    Calls Try.prog 30 #[.pointer (some ⟨b, o, none⟩)] w fun e w' => ∃ q1 d1 q2 d2, e = .returned (.agg #[.int .i64 k, .slice q1 is.length d1, .bool t, .slice q2 subs.len d2]) ∧ Below w.heap.size w w' ∧ New w w' fun u N => Sl N q1 is.length (Ints u is) ∧ subs.In u N q2 := by
  have IH := Lib.hid ih
  have hbw : b < w.heap.size := Nat.lt_of_lt_of_le hbN hN
  have HI := Lib.hid (fun (W : World) (hB : Below w.heap.size w W) => copyItems_new is p c N W (s1.imp (Nat.le_refl N) fun b' o' hb' ha => Ints.later (hB.mono hN) is b' o' hb' ha) hi)
  have HCl := Lib.hid (fun (W : World) (hB : Below w.heap.size w W) => show W.cell? ⟨b, o, none⟩ = some (.int .i64 k) ∧ W.cell? ⟨b, o + 1, none⟩ = some (.slice p is.length c) ∧ W.cell? ⟨b, o + 2, none⟩ = some (.bool t) ∧ W.cell? ⟨b, o + 3, none⟩ = some (.slice q subs.len d) from ⟨(hB.cell hbw).trans h0, (hB.cell hbw).trans h1, (hB.cell hbw).trans h2, (hB.cell hbw).trans h3⟩)
  have HS3 := Lib.hid (fun (W : World) (hB : Below w.heap.size w W) => show Sl N q subs.len (Ls.At W N subs) from s3.imp (Nat.le_refl N) fun b' o' hb' ha => Ls.At.later (hB.mono hN) (Nat.le_refl N) subs b' o' hb' ha)
  have HNN := Lib.hid (And.intro hN (And.intro hs hb))
  have hm := s3.1
  obtain ⟨W0, hW0⟩ : ∃ W0, W0 = w.alloc (.cells #[.int .i64 0, .slice none 0 0, .bool false, .slice none 0 0] 47 (0, 0)) := ⟨_, rfl⟩
  have hB0 : Below w.heap.size w W0 := by rw [hW0]; exact (Below.refl _ w).alloc (Nat.le_refl _) _
  have hz0 : W0.heap.size = w.heap.size + 1 := by rw [hW0]; simp
  have hk0 : W0.heap[w.heap.size]? = some (.cells #[.int .i64 0, .slice none 0 0, .bool false, .slice none 0 0] 47 (0, 0)) := by rw [hW0]; exact heap_alloc_new w _
  have HW0 := Lib.hid (And.intro hW0.symm (And.intro hB0 (And.intro hz0 hk0)))
  clear ih h0 h1 s1 h2 h3 s3 hN hs hb hi hbw hW0 hB0 hz0 hk0
  go_enter Try.func30, Try.ntmps30
  go_upto_region 1 with fail
  rw [HW0.out.1]
  go_cut [3] from 6 to 19 (fun s3 wx => ∃ (G M : Nat) (q1 : Option Addr) (d1 : Nat), s3 = .pointer (some ⟨G, 0, none⟩) ∧ Hid (CN w wx G M k is t q1 d1 (.slice none 0 0)))
  case first =>
    have hX : Below W0.heap.size W0 W0.drew := (Below.refl _ _).drew
    have HU := Lib.hid (fun (W : World) (hB : Below W0.heap.size W0 W) => show Below w.heap.size w W from HW0.out.2.1.trans (hB.mono (by have := HW0.out.2.2.1; omega)))

    go_wp2_with fail
    refine wp_region_held_drew (S := fun W => W.cell? ⟨b, o, none⟩ = some (.int .i64 k) ∧ W.cell? ⟨b, o + 1, none⟩ = some (.slice p is.length c) ∧ W.cell? ⟨b, o + 2, none⟩ = some (.bool t)) (by kernel_rfl) ?_ (fun hHeld => ?_)
    · exact ⟨(HCl.out _ (HU.out _ hX)).1, (HCl.out _ (HU.out _ hX)).2.1, (HCl.out _ (HU.out _ hX)).2.2.1⟩
    refine tk 0 ?_ rfl (.inl ⟨by rfl, ?_⟩) ?_
    rotate_left
    · (intro w hSw; (try dsimp only at hSw); go_simp; try with_reducible rfl)
    try simp only [Act.put, List.setIfInBounds_toArray, List.set_cons_zero, List.set_cons_succ]
    refine tk 1 ?_ rfl (.inl ⟨by rfl, ?_⟩) ?_
    rotate_left
    · (intro w hSw; (try dsimp only at hSw); go_simp; try with_reducible rfl)
    try simp only [Act.put, List.setIfInBounds_toArray, List.set_cons_zero, List.set_cons_succ]
    refine tk 2 ?_ rfl (.inl ⟨by rfl, ?_⟩) ?_
    rotate_left
    · (intro w hSw; (try dsimp only at hSw); go_simp; try with_reducible rfl)
    try simp only [Act.put, List.setIfInBounds_toArray, List.set_cons_zero, List.set_cons_succ]
    refine tk 3 ?_ rfl (.inl ⟨by rfl, ?_⟩) ?_
    rotate_left
    · (intro w hSw; (try dsimp only at hSw); go_simp; try with_reducible rfl)
    try simp only [Act.put, List.setIfInBounds_toArray, List.set_cons_zero, List.set_cons_succ]
    refine tk 4 ?_ rfl (.inl ⟨by rfl, ?_⟩) ?_
    rotate_left
    · (intro w hSw; (try dsimp only at hSw); go_simp; try with_reducible rfl)
    try simp only [Act.put, List.setIfInBounds_toArray, List.set_cons_zero, List.set_cons_succ]
    refine tk 5 ?_ rfl (.inl ⟨by rfl, ?_⟩) ?_
    rotate_left
    · (intro w hSw; (try dsimp only at hSw); go_simp; try with_reducible rfl)
    try simp only [Act.put, List.setIfInBounds_toArray, List.set_cons_zero, List.set_cons_succ]
    refine tk 6 ?_ rfl (.inl ⟨by rfl, ?_⟩) ?_
    rotate_left
    · (intro w hSw; (try dsimp only at hSw); go_simp; try with_reducible rfl)
    try simp only [Act.put, List.setIfInBounds_toArray, List.set_cons_zero, List.set_cons_succ]
    refine tk 7 ?_ rfl (.inl ⟨by rfl, ?_⟩) ?_
    rotate_left
    · (intro w hSw; (try dsimp only at hSw); go_simp; try with_reducible rfl)
    try simp only [Act.put, List.setIfInBounds_toArray, List.set_cons_zero, List.set_cons_succ]
    refine tk 9 ?_ rfl (.inl ⟨by rfl, ?_⟩) ?_
    rotate_left
    · (intro w hSw; (try dsimp only at hSw); go_simp; try with_reducible rfl)
    try simp only [Act.put, List.setIfInBounds_toArray, List.set_cons_zero, List.set_cons_succ]
    refine tk 10 ?_ rfl (.inl ⟨by rfl, ?_⟩) ?_
    rotate_left
    · (intro w hSw; (try dsimp only at hSw); go_simp; try with_reducible rfl)
    try simp only [Act.put, List.setIfInBounds_toArray, List.set_cons_zero, List.set_cons_succ]
    refine tk 11 ?_ rfl (.inl ⟨by rfl, ?_⟩) ?_
    rotate_left
    · (intro w hSw; (try dsimp only at hSw); go_simp; try with_reducible rfl)
    try simp only [Act.put, List.setIfInBounds_toArray, List.set_cons_zero, List.set_cons_succ]
    refine tk 12 ?_ rfl (.inl ⟨by rfl, ?_⟩) ?_
    rotate_left
    · (intro w hSw; (try dsimp only at hSw); go_simp; try with_reducible rfl)
    try simp only [Act.put, List.setIfInBounds_toArray, List.set_cons_zero, List.set_cons_succ]
    refine wpAnyH_ready (rs := [8, 14]) (by kernel_rfl) (by simp) ?_
    refine rdy rfl (fun K hK => ?_) (rdy rfl (fun K hK => ?_) AllReadyH.nil)
    · go_simp
      refine (HI.out _ (HU.out _ hX)).mono ?_
      rintro e w1 ⟨q1, d1, rfl, hB1, hN1⟩
      replace hX := hX.trans (hB1.mono hX.size)
      refine hK.out _ _ ?_ (fun hHeld => ?_)
      · exact ⟨(HCl.out _ (HU.out _ hX)).1, (HCl.out _ (HU.out _ hX)).2.1, (HCl.out _ (HU.out _ hX)).2.2.1⟩
      clear hK K
      try simp only [Act.put, List.setIfInBounds_toArray, List.set_cons_zero, List.set_cons_succ]
      refine tk 13 ?_ rfl (.inl ⟨by rfl, ?_⟩) ?_
      rotate_left
      · (intro w hSw; (try dsimp only at hSw); go_simp; try with_reducible rfl)
      try simp only [Act.put, List.setIfInBounds_toArray, List.set_cons_zero, List.set_cons_succ]
      refine wpAnyH_ready (rs := [14]) (by kernel_rfl) (by simp) ?_
      refine rdy rfl (fun K hK => ?_) AllReadyH.nil
      go_simp
      have hX1 := hX
      replace hX := hX.alloc hX.size (.cells #[.int .i64 0, .slice none 0 0, .bool false, .slice none 0 0] 47 (0, 0))
      refine hK.out _ _ ?_ (fun hHeld => ?_)
      · exact ⟨(HCl.out _ (HU.out _ hX)).1, (HCl.out _ (HU.out _ hX)).2.1, (HCl.out _ (HU.out _ hX)).2.2.1⟩
      clear hK K
      try simp only [Act.put, List.setIfInBounds_toArray, List.set_cons_zero, List.set_cons_succ]
      refine wpAnyH_ready (rs := [15]) (by kernel_rfl) (by simp) ?_
      refine rdy rfl (fun K hK => ?_) AllReadyH.nil
      go_simp
      refine hK.out _ _ ?_ (fun hHeld => ?_)
      · exact ⟨(HCl.out _ (HU.out _ (hX1.alloc hX1.size _))).1, (HCl.out _ (HU.out _ (hX1.alloc hX1.size _))).2.1, (HCl.out _ (HU.out _ (hX1.alloc hX1.size _))).2.2.1⟩
      clear hK K
      try simp only [Act.put, List.setIfInBounds_toArray, List.set_cons_zero, List.set_cons_succ]
      refine wpAnyH_done (by kernel_rfl) ?_ _
      have HCN := Lib.hid (cn_A (k := k) (t := t) (d := d1) HW0.out.2.1 HW0.out.2.2.1 HW0.out.2.2.2 hX1 hN1)
      clear hX hX1 hB1 hN1
      go_wp2_with fail
      go_meet
      exact ⟨_, _, q1, d1, rfl, HCN⟩
    · go_simp
      replace hX := hX.alloc hX.size (.cells #[.int .i64 0, .slice none 0 0, .bool false, .slice none 0 0] 47 (0, 0))
      refine hK.out _ _ ?_ (fun hHeld => ?_)
      · exact ⟨(HCl.out _ (HU.out _ hX)).1, (HCl.out _ (HU.out _ hX)).2.1, (HCl.out _ (HU.out _ hX)).2.2.1⟩
      clear hK K
      try simp only [Act.put, List.setIfInBounds_toArray, List.set_cons_zero, List.set_cons_succ]
      refine wpAnyH_ready (rs := [8]) (by kernel_rfl) (by simp) ?_
      refine rdy rfl (fun K hK => ?_) AllReadyH.nil
      go_simp
      refine (HI.out _ (HU.out _ hX)).mono ?_
      rintro e w1 ⟨q1, d1, rfl, hB1, hN1⟩
      have HCN := Lib.hid (cn_B (k := k) (t := t) (d := d1) HW0.out.2.1 HW0.out.2.2.1 HW0.out.2.2.2 hB1 hN1)
      replace hX := hX.trans (hB1.mono hX.size)
      refine hK.out _ _ ?_ (fun hHeld => ?_)
      · exact ⟨(HCl.out _ (HU.out _ hX)).1, (HCl.out _ (HU.out _ hX)).2.1, (HCl.out _ (HU.out _ hX)).2.2.1⟩
      clear hK K
      try simp only [Act.put, List.setIfInBounds_toArray, List.set_cons_zero, List.set_cons_succ]
      refine tk 13 ?_ rfl (.inl ⟨by rfl, ?_⟩) ?_
      rotate_left
      · (intro w hSw; (try dsimp only at hSw); go_simp; try with_reducible rfl)
      try simp only [Act.put, List.setIfInBounds_toArray, List.set_cons_zero, List.set_cons_succ]
      obtain ⟨⟨z0, z1, z2, z3⟩, zf⟩ := HCN.out.1
      have f0 := zf 0
      have f1 := zf 1
      have f2 := zf 2
      have f3 := zf 3
      clear zf
      refine wpAnyH_ready (rs := [15]) (by kernel_rfl) (by simp) ?_
      refine rdy rfl (fun K hK => ?_) AllReadyH.nil
      go_simp
      refine hK.out _ _ ?_ (fun hHeld => ?_)
      · exact ⟨(HCl.out _ HCN.out.2.bel).1, (HCl.out _ HCN.out.2.bel).2.1, (HCl.out _ HCN.out.2.bel).2.2.1⟩
      clear hK K
      try simp only [Act.put, List.setIfInBounds_toArray, List.set_cons_zero, List.set_cons_succ]
      refine wpAnyH_done (by kernel_rfl) ?_ _
      replace HCN := Lib.hid HCN.out.2
      clear hX hB1 hN1 z0 z1 z2 z3 f0 f1 f2 f3
      go_wp2_with fail
      go_meet
      exact ⟨_, _, q1, d1, rfl, HCN⟩
  case rest =>
    obtain ⟨G, M, q1, d1, rfl, HCN⟩ := hcut
    have c3 := (HCl.out wc HCN.out.bel).2.2.2
    have HO0 := Lib.hid (show OutLs wc M (.slice none (Ls.nil).len 0) .nil from OutG.nil _ _ _ _ _ rfl)
    go_wp2_with fail
    clear c3
    go_loopw [5, 25] (fun s5 i wr => ∃ (ds rs : Ls) (qv : Option Addr) (cv : Nat), i = .int .i64 ds.len ∧ ds.len + rs.len = subs.len ∧ Hid (subs = ds.cat rs) ∧ Hid (CN w wr G M k is t q1 d1 (.slice qv ds.len cv)) ∧ Hid (OutLs wr M (.slice qv ds.len cv) ds)) (fun _ i _ => subs.len - (intOf i).toNat)
    case atStart => exact ⟨.nil, subs, none, 0, rfl, by simp [Ls.len], Lib.hid rfl, Lib.hid HCN.out, HO0⟩
    case round =>
      clear HCN HO0
      obtain ⟨ds, rs, qv, cv, rfl, hk, hE, HCN, HO⟩ := hrel
      obtain ⟨wp, rfl⟩ : ∃ wp : World, wp = wr := ⟨_, rfl⟩
      cases rs with
      | nil =>
        simp only [Ls.len] at hk
        have hge : ¬ ds.len < subs.len := by omega
        have hds : subs = ds := by rw [hE.out, Ls.cat_nil]
        have e0 := HCN.out.c0
        have e1 := HCN.out.c1
        have e2 := HCN.out.c2
        have e3 := HCN.out.c3
        have hres := HCN.out.res
        have r0 := cell_blk hres (j := 0) rfl
        have r1 := cell_blk hres (j := 1) rfl
        have r2 := cell_blk hres (j := 2) rfl
        have r3 := cell_blk hres (j := 3) rfl
        have rf : ∀ o, wp.frozen? ⟨w.heap.size, o, none⟩ = false := fun o => by simp [World.frozen?, hres]
        have f0 := rf 0
        have f1 := rf 1
        have f2 := rf 2
        have f3 := rf 3
        obtain ⟨W9, hW9, hc9, hf9⟩ := cn_end HCN.out HO.out (by have h1 := HNN.out.2.2; have h2 := Ls.len_wt subs; rw [hds] at h1 h2; omega)
        have HF := Lib.hid (And.intro hc9 hf9)
        have HD := Lib.hid hds
        clear hc9 hf9 hds
        clear hres rf hE HO HCN
        go_wp2_with fail
        rw [← hW9]
        obtain ⟨⟨g0, g1, g2, g3⟩, hB9, hN9⟩ := HF.out
        refine bodyPost_ret (v := .agg #[.int .i64 k, .slice q1 is.length d1, .bool t, .slice qv ds.len cv]) ?_ rfl ⟨q1, d1, qv, cv, by rw [HD.out], hB9, by rw [HD.out]; exact hN9⟩
        simp [results, Try.results30, go_sem, g0, g1, g2, g3]
      | sub l r =>
        simp only [Ls.len] at hk
        have hlt : ds.len < subs.len := by omega
        obtain ⟨bq, oq, hq, hbq, ha⟩ : ∃ bq oq, q = some ⟨bq, oq, none⟩ ∧ bq < N ∧ Ls.At wp N subs bq oq := by
          rcases (HS3.out wp HCN.out.bel).2 with h0 | ⟨bq, oq, hq, hbq, ha⟩
          · omega
          · exact ⟨bq, oq, hq, hbq, ha⟩
        subst hq
        rw [hE.out] at ha
        obtain ⟨⟨p', c', g1, s1⟩, _⟩ := Ls.At.drop ds (.sub l r) bq oq ha
        have hwl : l.wt < n ∧ l.wt ≤ 1073741824 ∧ ds.len ≤ 1073741824 := by
          have h1 := HNN.out.2
          have h2 := Ls.len_wt ds
          rw [hE.out, Ls.cat_wt] at h1
          simp only [Ls.wt] at h1
          omega
        have HL := Lib.hid hwl
        have HSl := Lib.hid (fun (W : World) (hB : Below wp.heap.size wp W) => show l.In W N p' from s1.imp (Nat.le_refl N) fun b' o' hb' ha' => Lf.At.later (hB.mono (Nat.le_trans HNN.out.1 HCN.out.bel.size)) (Nat.le_refl N) l b' o' hb' ha')
        clear ha s1 hwl
        go_upto_region 5 with fail
        have hBd : Below wp.heap.size wp wp.drew := (Below.refl _ _).drew
        have hMw := HCN.out.hG.2.2
        have hR := HCN.out.later (hBd.mono hMw)
        have HC2 := Lib.hid (IH.out l HL.out.1 HL.out.2.1 p' c' N wp.drew (HSl.out _ hBd) (Nat.le_trans HNN.out.1 (Nat.le_trans HCN.out.bel.size hBd.size)))
        have HOd := Lib.hid (show OutLs wp.drew M (.slice qv ds.len cv) ds from HO.out.keep (mono_ls ds) (fun i _ hi => hBd.block i hi) hBd.size)
        refine bgk 7 (fun W => W.cell? ⟨G, 3, none⟩ = some (.slice qv ds.len cv)) (hR.c3) (fun hHeld => ?_)
        refine tk0 0 ?_ rfl (.inl ⟨by rfl, ?_⟩) ?_
        rotate_left
        · (intro w hSw; (try dsimp only at hSw); go_simp; try with_reducible rfl)
        try simp only [Act.put, List.setIfInBounds_toArray, List.set_cons_zero, List.set_cons_succ]
        refine tkl 1 ?_ rfl (.inl ⟨by rfl, ?_⟩) ?_
        rotate_left
        · (intro w hSw; (try dsimp only at hSw); go_simp; try with_reducible rfl)
        try simp only [Act.put, List.setIfInBounds_toArray, List.set_cons_zero, List.set_cons_succ]
        refine tk0 2 ?_ rfl (.inl ⟨by rfl, ?_⟩) ?_
        rotate_left
        · (intro w hSw; (try dsimp only at hSw); go_simp; try with_reducible rfl)
        try simp only [Act.put, List.setIfInBounds_toArray, List.set_cons_zero, List.set_cons_succ]
        refine rdk 3 rfl (fun K hK => ?_)
        go_simp
        refine HC2.out.mono ?_
        rintro e w1 ⟨q5, d5, rfl, hB5, hN5⟩
        replace hR := hR.later (hB5.mono (show M ≤ wp.drew.heap.size from hMw))
        obtain ⟨qv2, cv2, w3, hrun, hO3, hgr, _⟩ := app_ls (d := d5) HOd.out (show M ≤ wp.drew.heap.size from hMw) hB5 hN5 HL.out.2.2 45
        have HRn := Lib.hid hrun
        have HO3 := Lib.hid (And.intro hO3 hgr)
        clear HC2 hB5 hN5 hrun hO3 hgr
        refine hK.out _ _ ?_ (fun hHeld => ?_)
        · exact hR.c3
        clear hK K
        try simp only [Act.put, List.setIfInBounds_toArray, List.set_cons_zero, List.set_cons_succ]
        refine rdk 4 rfl (fun K hK => ?_)
        go_simp
        refine hK.out _ _ ?_ (fun hHeld => ?_)
        · exact (hR.later ((Below.refl M w1).alloc hR.hG.2.2 _)).c3
        replace hR := hR.later ((Below.refl M w1).alloc hR.hG.2.2 (.cells #[.slice q5 l.len d5] 23 (0, 0)))
        have hrun := HRn.out
        clear hK K
        try simp only [Act.put, List.setIfInBounds_toArray, List.set_cons_zero, List.set_cons_succ]
        refine rdk 5 rfl (fun K hK => ?_)
        refine stepK_app _ _ _ rfl rfl rfl rfl HRn.out ?_
        refine hK.out _ _ ?_ (fun hHeld => ?_)
        · exact (hR.later ((Below.refl M _).grown HO3.out.2 hR.hG.2.2 (fun g hg => (HOd.out.lt hg).1))).c3
        replace hR := hR.later ((Below.refl M _).grown HO3.out.2 hR.hG.2.2 (fun g hg => (HOd.out.lt hg).1))
        clear hrun
        clear hK K
        try simp only [Act.put, List.setIfInBounds_toArray, List.set_cons_zero, List.set_cons_succ]
        refine tk0 6 ?_ rfl (.inl ⟨by rfl, ?_⟩) ?_
        rotate_left
        · (intro w hSw; (try dsimp only at hSw); go_simp; try with_reducible rfl)
        try simp only [Act.put, List.setIfInBounds_toArray, List.set_cons_zero, List.set_cons_succ]
        refine rdb 7 rfl (fun K hK => ?_)
        have f3 := hR.fz 3
        have c3 := hR.c3
        go_simp
        refine hK.out _ _ ?_
        have HCN2 := Lib.hid (hR.put (.slice qv2 (ds.len + 1) cv2))
        have HO4 := Lib.hid (show OutLs (w3.setCell ⟨G, 3, none⟩ (.slice qv2 (ds.len + 1) cv2)) M (.slice qv2 (ds.len + 1) cv2) (ds.cat (.sub l .nil)) from HO3.out.1.keep (mono_ls _) (fun i hi _ => Below.heap_setCell _ _ _ _ (by have := hR.hG.2.1; show i ≠ G; omega)) (by simp [World.setCell]))
        clear f3 c3 hR
        clear hK K
        try simp only [Act.put, List.setIfInBounds_toArray, List.set_cons_zero, List.set_cons_succ]
        refine dnk ?_ (by kernel_rfl) _
        go_wp2_with fail
        go_roundw
        case rel => exact ⟨ds.cat (.sub l .nil), r, qv2, cv2, by rw [Ls.cat_len]; simp only [Ls.len]; go_num, by rw [Ls.cat_len]; simp only [Ls.len]; omega, Lib.hid (by rw [hE.out, Ls.cat_assoc]; rfl), by rw [Ls.cat_len]; exact HCN2, by rw [Ls.cat_len]; exact HO4⟩
        case measure => simp [intOf]; omega
end Go.Proofs.Ytcadeeldogknmaa
