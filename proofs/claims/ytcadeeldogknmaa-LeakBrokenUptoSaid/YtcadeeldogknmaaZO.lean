/- ZN, ZO as one. -/
import Derived.Test.YtcadeeldogknmaaZL
import Derived.Test.YtcadeeldogknmaaZI
/- Terms made ready: where they lie. -/
namespace Go.Proofs.Ytcadeeldogknmaa
open Go.RowKit

/-- the cells of recipes -/
def Rc.Cells (v : World) (N : Nat) : Rc → List Value → Prop
  | .nil, cs => cs = []
  | .node k t ls bl subs r, cs => ∃ p c p' c' gi sz q d rest, cs = .int .i64 k :: .bool t :: .slice p ls.length c :: .int .i64 (greatestL ls) :: .int .i64 (linesW ls) :: .slice p' bl.length c' :: .int .i64 gi :: .int .i64 sz :: .slice q subs.len d :: rest ∧
    Sl N p ls.length (Plines v N ls) ∧ (k = 7 → gi = greatestL bl ∧ sz = linesW bl) ∧ Sl N p' bl.length (Plines v N bl) ∧ Sl N q subs.len (Rs.At v N subs) ∧ Rc.Cells v N r rest
def Rs.Cells (v : World) (N : Nat) : Rs → List Value → Prop
  | .nil, cs => cs = []
  | .sub l r, cs => ∃ p c rest, cs = .slice p l.len c :: rest ∧ Sl N p l.len (Rc.At v N l) ∧ Rs.Cells v N r rest
theorem Rc.Cells.le {v v' : World} {N M : Nat} (hw : Le v v') (hM : N ≤ M) : ∀ (l : Rc) (cs : List Value), l.Cells v N cs → l.Cells v' M cs
  | .nil, _, h => h
  | .node k t ls bl subs r, cs, h => by
    obtain ⟨p, c, p', c', gi, sz, q, d, rest, h0, h1, h2, h3, h4, h5⟩ := h
    exact ⟨p, c, p', c', gi, sz, q, d, rest, h0, h1.imp' hM fun b o => Plines.le hw hM ls b o, h2, h3.imp' hM fun b o => Plines.le hw hM bl b o, h4.imp' hM fun b o => Rs.At.le hw hM subs b o, Rc.Cells.le hw hM r rest h5⟩
theorem Rs.Cells.le {v v' : World} {N M : Nat} (hw : Le v v') (hM : N ≤ M) : ∀ (l : Rs) (cs : List Value), l.Cells v N cs → l.Cells v' M cs
  | .nil, _, h => h
  | .sub l r, cs, h => by
    obtain ⟨p, c, rest, h0, h1, h2⟩ := h
    exact ⟨p, c, rest, h0, h1.imp' hM fun b o => Rc.At.le hw hM l b o, Rs.Cells.le hw hM r rest h2⟩
def Rc.cat : Rc → Rc → Rc
  | .nil, m => m
  | .node k t ls bl s r, m => .node k t ls bl s (r.cat m)
def Rs.cat : Rs → Rs → Rs
  | .nil, m => m
  | .sub l r, m => .sub l (r.cat m)
theorem Rc.cat_nil : ∀ l : Rc, l.cat .nil = l
  | .nil => rfl
  | .node k t ls bl s r => by rw [Rc.cat, Rc.cat_nil r]
theorem Rs.cat_nil : ∀ l : Rs, l.cat .nil = l
  | .nil => rfl
  | .sub l r => by rw [Rs.cat, Rs.cat_nil r]
theorem Rc.cat_assoc : ∀ a b c : Rc, (a.cat b).cat c = a.cat (b.cat c)
  | .nil, _, _ => rfl
  | .node k t ls bl s r, b, c => by rw [Rc.cat, Rc.cat, Rc.cat, Rc.cat_assoc r b c]
theorem Rs.cat_assoc : ∀ a b c : Rs, (a.cat b).cat c = a.cat (b.cat c)
  | .nil, _, _ => rfl
  | .sub l r, b, c => by rw [Rs.cat, Rs.cat, Rs.cat, Rs.cat_assoc r b c]
theorem Rc.cat_len : ∀ a b : Rc, (a.cat b).len = a.len + b.len
  | .nil, b => by simp [Rc.cat, Rc.len]
  | .node k t ls bl s r, b => by rw [Rc.cat, Rc.len, Rc.len, Rc.cat_len r b]; omega
theorem Rs.cat_len : ∀ a b : Rs, (a.cat b).len = a.len + b.len
  | .nil, b => by simp [Rs.cat, Rs.len]
  | .sub l r, b => by rw [Rs.cat, Rs.len, Rs.len, Rs.cat_len r b]; omega
theorem Rc.Cells.cat {v : World} {N : Nat} {m : Rc} {ms : List Value} (hm : m.Cells v N ms) : ∀ (l : Rc) (cs : List Value), l.Cells v N cs → (l.cat m).Cells v N (cs ++ ms)
  | .nil, cs, h => by rw [show cs = [] from h]; exact hm
  | .node k t ls bl subs r, cs, h => by
    obtain ⟨p, c, p', c', gi, sz, q, d, rest, rfl, h1, h2, h3, h4, h5⟩ := h
    exact ⟨p, c, p', c', gi, sz, q, d, rest ++ ms, rfl, h1, h2, h3, h4, Rc.Cells.cat hm r rest h5⟩
theorem Rs.Cells.cat {v : World} {N : Nat} {m : Rs} {ms : List Value} (hm : m.Cells v N ms) : ∀ (l : Rs) (cs : List Value), l.Cells v N cs → (l.cat m).Cells v N (cs ++ ms)
  | .nil, cs, h => by rw [show cs = [] from h]; exact hm
  | .sub l r, cs, h => by
    obtain ⟨p, c, rest, rfl, h1, h2⟩ := h
    exact ⟨p, c, rest ++ ms, rfl, h1, Rs.Cells.cat hm r rest h2⟩
theorem Rc.At.ofCells {v W : World} {N M g : Nat} (hw : Le v W) (hM : N ≤ M) : ∀ (l : Rc) (cs : List Value) (o : Nat), l.Cells v N cs → (∀ j u, cs[j]? = some u → W.cell? ⟨g, o + j, none⟩ = some u) → l.At W M g o
  | .nil, _, _, _, _ => trivial
  | .node k t ls bl subs r, cs, o, h, H => by
    obtain ⟨p, c, p', c', gi, sz, q, d, rest, rfl, h1, h2, h3, h4, h5⟩ := h
    refine ⟨H 0 _ rfl, H 1 _ rfl, ⟨p, c, ⟨H 2 _ rfl, H 3 _ rfl, H 4 _ rfl⟩, h1.imp' hM fun b o => Plines.le hw hM ls b o⟩, ⟨p', c', gi, sz, ⟨H 5 _ rfl, H 6 _ rfl, H 7 _ rfl⟩, h2, h3.imp' hM fun b o => Plines.le hw hM bl b o⟩, ⟨q, d, H 8 _ rfl, h4.imp' hM fun b o => Rs.At.le hw hM subs b o⟩, Rc.At.ofCells hw hM r rest (o + 9) h5 fun j u hu => ?_⟩
    have := H (j + 9) u (by simpa using hu)
    rw [show o + (j + 9) = o + 9 + j by omega] at this; exact this
theorem Rs.At.ofCells {v W : World} {N M g : Nat} (hw : Le v W) (hM : N ≤ M) : ∀ (l : Rs) (cs : List Value) (o : Nat), l.Cells v N cs → (∀ j u, cs[j]? = some u → W.cell? ⟨g, o + j, none⟩ = some u) → l.At W M g o
  | .nil, _, _, _, _ => trivial
  | .sub l r, cs, o, h, H => by
    obtain ⟨p, c, rest, rfl, h1, h2⟩ := h
    refine ⟨⟨p, c, H 0 _ rfl, h1.imp' hM fun b o => Rc.At.le hw hM l b o⟩, Rs.At.ofCells hw hM r rest (o + 1) h2 fun j u hu => ?_⟩
    have := H (j + 1) u (by simpa using hu)
    rw [show o + (j + 1) = o + 1 + j by omega] at this; exact this
/-- terms made ready so far, in a row of n -/
structure RA (w wr : World) (N G n : Nat) (ds : Rc) : Prop where
  bel : Below w.heap.size w wr
  hN : N ≤ w.heap.size
  hG : w.heap.size ≤ G ∧ G < wr.heap.size
  ex : ∀ j, j < n * 9 → ∃ u, wr.cell? ⟨G, j, none⟩ = some u
  fz : ∀ j, wr.frozen? ⟨G, j, none⟩ = false
  cs : ∃ (news : List Value) (S : Nat → Bool), news.length = ds.len * 9 ∧ ds.Cells (cut S wr) wr.heap.size news ∧ (∀ j u, news[j]? = some u → wr.cell? ⟨G, j, none⟩ = some u) ∧ ∀ i, S i = true → i < N ∨ (G < i ∧ i < wr.heap.size)
theorem RA.later {w wr w1 : World} {N G n : Nat} {ds : Rc} (h : RA w wr N G n ds) (hB : Below wr.heap.size wr w1) : RA w w1 N G n ds := by
  obtain ⟨h1, hN, h2, h3, h4, ⟨news, S, n1, n2, n3, n4⟩⟩ := h
  have hc : ∀ j, w1.cell? ⟨G, j, none⟩ = wr.cell? ⟨G, j, none⟩ := fun j => hB.cell (p := ⟨G, j, none⟩) h2.2
  refine ⟨h1.trans (hB.mono h1.size), hN, ⟨h2.1, Nat.lt_of_lt_of_le h2.2 hB.size⟩, fun j hj => by obtain ⟨u, hu⟩ := h3 j hj; exact ⟨u, (hc j).trans hu⟩, fun j => (World.frozen?_of_block (hB.block G h2.2)).trans (h4 j), news, S, n1, Rc.Cells.le (Le.cut2 fun b hb => ⟨hb, fun o v hv => ?_⟩) hB.size ds news n2, fun j u hu => (hc j).trans (n3 j u hu), fun i hi => ?_⟩
  · have hl : b < wr.heap.size := by have := h1.size; rcases n4 b hb with h | h <;> omega
    exact (hB.cell hl).trans hv
  · rcases n4 i hi with h | h
    · exact .inl h
    · exact .inr ⟨h.1, Nat.lt_of_lt_of_le h.2 hB.size⟩
/-- a cell is set behind what is done -/
theorem RA.put {w wr : World} {N G n j : Nat} {ds : Rc} (h : RA w wr N G n ds) (hj : ds.len * 9 ≤ j) (u : Value) : RA w (wr.setCell ⟨G, j, none⟩ u) N G n ds := by
  obtain ⟨h1, hN, h2, h3, h4, ⟨news, S, n1, n2, n3, n4⟩⟩ := h
  have hsz : (wr.setCell ⟨G, j, none⟩ u).heap.size = wr.heap.size := by simp [World.setCell]
  have hbl : ∀ i, i ≠ G → (wr.setCell ⟨G, j, none⟩ u).heap[i]? = wr.heap[i]? := fun i hi => Below.heap_setCell _ _ _ _ hi
  refine ⟨h1.setCell (p := ⟨G, j, none⟩) h2.1 _, hN, by rw [hsz]; exact h2, fun i hi => ?_, fun i => (World.frozen?_setCells G [u] j wr ⟨G, i, none⟩).trans (h4 i), news, S, n1, Rc.Cells.le (Le.cut2 fun b hb => ⟨hb, fun o v hv => ?_⟩) (Nat.le_of_eq hsz.symm) ds news n2, fun i v hv => ?_, fun i hi => by rw [hsz]; exact n4 i hi⟩
  · obtain ⟨v, hv⟩ := h3 i hi
    by_cases e : i = j
    · subst e; exact ⟨u, World.cell?_setCell_same _ _ _ hv⟩
    · exact ⟨v, (World.cell?_setCell_other _ _ _ _ (fun h => e (by injection h with h h'; exact h'.symm ▸ rfl))).trans hv⟩
  · have := hbl b (by have := h1.size; rcases n4 b hb with h | h <;> omega)
    simp only [World.cell?] at hv ⊢
    rw [this]; exact hv
  · have hlt : i < news.length := (List.getElem?_eq_some_iff.1 hv).1
    exact (World.cell?_setCell_other _ _ _ _ (fun h => by injection h with h h'; omega)).trans (n3 i v hv)
/-- one more is done -/
theorem RA.snoc {w wr : World} {N G n : Nat} {ds : Rc} {k : Int} {t : Bool} {ls bl : List (List Pk)} {subs : Rs} {p p' q : Option Addr} {c c' d : Nat} {gi sz : Int} (h : RA w wr N G n ds)
    (c0 : wr.cell? ⟨G, ds.len * 9, none⟩ = some (.int .i64 k)) (c1 : wr.cell? ⟨G, ds.len * 9 + 1, none⟩ = some (.bool t)) (c2 : wr.cell? ⟨G, ds.len * 9 + 2, none⟩ = some (.slice p ls.length c)) (c3 : wr.cell? ⟨G, ds.len * 9 + 3, none⟩ = some (.int .i64 (greatestL ls))) (c4 : wr.cell? ⟨G, ds.len * 9 + 4, none⟩ = some (.int .i64 (linesW ls)))
    (c5 : wr.cell? ⟨G, ds.len * 9 + 5, none⟩ = some (.slice p' bl.length c')) (c6 : wr.cell? ⟨G, ds.len * 9 + 6, none⟩ = some (.int .i64 gi)) (c7 : wr.cell? ⟨G, ds.len * 9 + 7, none⟩ = some (.int .i64 sz)) (c8 : wr.cell? ⟨G, ds.len * 9 + 8, none⟩ = some (.slice q subs.len d))
    (hk : k = 7 → gi = greatestL bl ∧ sz = linesW bl) (hP : ∃ T : Nat → Bool, (Sl wr.heap.size p ls.length (Plines (cut T wr) wr.heap.size ls) ∧ Sl wr.heap.size p' bl.length (Plines (cut T wr) wr.heap.size bl) ∧ Sl wr.heap.size q subs.len (Rs.At (cut T wr) wr.heap.size subs)) ∧ ∀ i, T i = true → i < N ∨ (G < i ∧ i < wr.heap.size)) : RA w wr N G n (ds.cat (.node k t ls bl subs .nil)) := by
  obtain ⟨h1, hN, h2, h3, h4, ⟨news, S, n1, n2, n3, n4⟩⟩ := h
  obtain ⟨T, ⟨k1, k2, k3⟩, k4⟩ := hP
  have hS : Le (cut S wr) (cut (fun i => S i || T i) wr) := Le.cut2 fun b hb => ⟨by simp [hb], fun _ _ h => h⟩
  have hT : Le (cut T wr) (cut (fun i => S i || T i) wr) := Le.cut2 fun b hb => ⟨by simp [hb], fun _ _ h => h⟩
  refine ⟨h1, hN, h2, h3, h4, news ++ [.int .i64 k, .bool t, .slice p ls.length c, .int .i64 (greatestL ls), .int .i64 (linesW ls), .slice p' bl.length c', .int .i64 gi, .int .i64 sz, .slice q subs.len d], fun i => S i || T i, by rw [List.length_append, n1, Rc.cat_len]; simp [Rc.len]; omega, ?_, fun j u hu => ?_, fun i hi => ?_⟩
  · have e2 : (Rc.node k t ls bl subs .nil).Cells (cut (fun i => S i || T i) wr) wr.heap.size [.int .i64 k, .bool t, .slice p ls.length c, .int .i64 (greatestL ls), .int .i64 (linesW ls), .slice p' bl.length c', .int .i64 gi, .int .i64 sz, .slice q subs.len d] := ⟨p, c, p', c', gi, sz, q, d, [], rfl, k1.imp' (Nat.le_refl _) fun b o => Plines.le hT (Nat.le_refl _) ls b o, hk, k2.imp' (Nat.le_refl _) fun b o => Plines.le hT (Nat.le_refl _) bl b o, k3.imp' (Nat.le_refl _) fun b o => Rs.At.le hT (Nat.le_refl _) subs b o, rfl⟩
    exact Rc.Cells.cat e2 ds news (Rc.Cells.le hS (Nat.le_refl _) ds news n2)
  · rcases Nat.lt_or_ge j (ds.len * 9) with hj | hj
    · rw [List.getElem?_append_left (by omega)] at hu
      exact n3 j u hu
    · rw [List.getElem?_append_right (by omega), n1] at hu
      obtain ⟨jj, rfl⟩ : ∃ jj, j = ds.len * 9 + jj := ⟨j - ds.len * 9, by omega⟩
      rw [show ds.len * 9 + jj - ds.len * 9 = jj by omega] at hu
      rcases jj with _ | _ | _ | _ | _ | _ | _ | _ | _ | jj
      · cases hu; exact c0
      · cases hu; exact c1
      · cases hu; exact c2
      · cases hu; exact c3
      · cases hu; exact c4
      · cases hu; exact c5
      · cases hu; exact c6
      · cases hu; exact c7
      · cases hu; exact c8
      · simp at hu
  · have : S i = true ∨ T i = true := by simpa using hi
    rcases this with h | h
    · exact n4 i h
    · exact k4 i h
theorem RA.end {w wr : World} {N G : Nat} {ds : Rc} (h : RA w wr N G ds.len ds) (hl : ds.len ≤ 140737488355328) : Below w.heap.size w wr ∧ NewN N w.heap.size wr fun u M => Sl M (some ⟨G, 0, none⟩) ds.len (Rc.At u M ds) := by
  obtain ⟨h1, hN, h2, h3, h4, ⟨news, S, n1, n2, n3, n4⟩⟩ := h
  refine ⟨h1, fun i => S i || i == G, ⟨hl, .inr ⟨G, 0, rfl, h2.2, Rc.At.ofCells (Le.cut2 fun b hb => ⟨by simp [hb], fun o v hv => hv⟩) (Nat.le_refl _) ds news 0 n2 fun j u hu => ?_⟩⟩, fun i hi => ?_⟩
  · rw [cell_cut, if_pos (by simp), Nat.zero_add]; exact n3 j u hu
  · have : S i = true ∨ i = G := by simpa using hi
    rcases this with h | rfl
    · rcases n4 i h with h | h
      · exact .inl h
      · exact .inr ⟨by omega, h.2⟩
    · exact .inr h2
end Go.Proofs.Ytcadeeldogknmaa
/- Terms made ready: cells that are set, rows of lists of them. -/
namespace Go.Proofs.Ytcadeeldogknmaa
open Go.RowKit

/-- cells side by side are set -/
def setList (W : World) (G : Nat) : Nat → List Value → World
  | _, [] => W
  | o, v :: vs => setList (W.setCell ⟨G, o, none⟩ v) G (o + 1) vs
theorem setList_size (G : Nat) : ∀ (vs : List Value) (W : World) (o : Nat), (setList W G o vs).heap.size = W.heap.size
  | [], _, _ => rfl
  | v :: vs, W, o => by rw [setList, setList_size G vs]; simp [World.setCell]
theorem setList_block {G i : Nat} (hi : i ≠ G) : ∀ (vs : List Value) (W : World) (o : Nat), (setList W G o vs).heap[i]? = W.heap[i]?
  | [], _, _ => rfl
  | v :: vs, W, o => by rw [setList, setList_block hi vs]; exact Below.heap_setCell _ _ _ _ hi
theorem setList_other {G j : Nat} : ∀ (vs : List Value) (W : World) (o : Nat), (j < o ∨ o + vs.length ≤ j) → (setList W G o vs).cell? ⟨G, j, none⟩ = W.cell? ⟨G, j, none⟩
  | [], _, _, _ => rfl
  | v :: vs, W, o, h => by
    simp only [List.length_cons] at h
    rw [setList, setList_other vs _ (o + 1) (by omega)]
    exact World.cell?_setCell_other _ _ _ _ (fun e => by injection e with e e'; omega)
theorem setList_same {G : Nat} : ∀ (vs : List Value) (W : World) (o : Nat), (∀ j, j < vs.length → ∃ u, W.cell? ⟨G, o + j, none⟩ = some u) → ∀ j v, vs[j]? = some v → (setList W G o vs).cell? ⟨G, o + j, none⟩ = some v
  | [], _, _, _, j, v, h => by simp at h
  | v :: vs, W, o, H, 0, u, h => by
    obtain ⟨y, hy⟩ := H 0 (by simp)
    simp at h; subst h
    rw [setList, setList_other vs _ (o + 1) (by omega)]
    exact World.cell?_setCell_same _ _ _ hy
  | v :: vs, W, o, H, j + 1, u, h => by
    rw [setList, show o + (j + 1) = o + 1 + j by omega]
    refine setList_same vs _ (o + 1) (fun i hi => ?_) j u (by simpa using h)
    obtain ⟨y, hy⟩ := H (i + 1) (by simp; omega)
    refine ⟨y, ?_⟩
    rw [show o + (i + 1) = o + 1 + i by omega] at hy
    exact (World.cell?_setCell_other _ _ _ _ (fun e => by injection e with e e'; omega)).trans hy
theorem setList_fz {G : Nat} (b j : Nat) : ∀ (vs : List Value) (W : World) (o : Nat), (setList W G o vs).frozen? ⟨b, j, none⟩ = W.frozen? ⟨b, j, none⟩
  | [], _, _ => rfl
  | v :: vs, W, o => by rw [setList, setList_fz b j vs]; exact World.frozen?_setCells G [v] o W ⟨b, j, none⟩
theorem setList_below {G B : Nat} (hB : B ≤ G) {A : World} : ∀ (vs : List Value) (W : World) (o : Nat), Below B A W → Below B A (setList W G o vs)
  | [], _, _, h => h
  | v :: vs, W, o, h => by rw [setList]; exact setList_below hB vs _ _ (h.setCell (p := ⟨G, o, none⟩) hB _)
theorem RA.puts {w : World} {N G n : Nat} {ds : Rc} : ∀ (vs : List Value) (W : World) (o : Nat), RA w W N G n ds → ds.len * 9 ≤ o → RA w (setList W G o vs) N G n ds
  | [], _, _, h, _ => h
  | v :: vs, W, o, h, ho => by rw [setList]; exact RA.puts vs _ _ (h.put ho v) (by omega)
/-- a row of lists made ready -/
def OutR (w : World) (base N : Nat) (v : Value) (l : Rs) : Prop :=
  ∃ (news : List Value) (S : Nat → Bool), w.ownsRow base 67 1 v l.len news ∧ l.Cells (cut S w) w.heap.size news ∧ (∀ i, S i = true → i < N ∨ (base ≤ i ∧ i < w.heap.size)) ∧ ∀ g, v.ownBlock = some g → S g = false
theorem OutR.nil (w : World) (base N : Nat) : OutR w base N (.slice none 0 0) .nil := ⟨[], fun _ => false, World.ownsRow_nil _ _ _ _, rfl, (fun _ h => by cases h), fun _ _ => rfl⟩
theorem OutR.lt {w : World} {base N g : Nat} {v : Value} {l : Rs} (h : OutR w base N v l) (hv : v.ownBlock = some g) : base ≤ g ∧ g < w.heap.size := by
  obtain ⟨news, S, h1, _⟩ := h
  rcases h1.2 with ⟨rfl, _⟩ | ⟨g', cap, cur, rfl, hg, hk, _⟩
  · cases hv
  · cases hv; exact ⟨hg, lt_blk hk⟩
theorem OutR.keep {w w' : World} {base N : Nat} {v : Value} {l : Rs} (h : OutR w base N v l) (hB : ∀ i, (i < N ∨ base ≤ i) → i < w.heap.size → w'.heap[i]? = w.heap[i]?) (hN : N ≤ w.heap.size) (hs : w.heap.size ≤ w'.heap.size) : OutR w' base N v l := by
  obtain ⟨news, S, h1, h2, h3, h4⟩ := h
  refine ⟨news, S, own_keep h1 fun g _ hl hg => hB g (.inr hg) hl, Rs.Cells.le (Le.cut2 fun b hb => ⟨hb, fun o u hu => ?_⟩) hs l news h2, fun i hi => ?_, h4⟩
  · have := hB b (by rcases h3 b hb with h | h; (· exact .inl h); (· exact .inr h.1)) (by rcases h3 b hb with h | h <;> omega)
    simp only [World.cell?] at hu ⊢
    rw [this]; exact hu
  · rcases h3 i hi with h | h
    · exact .inl h
    · exact .inr ⟨h.1, Nat.lt_of_lt_of_le h.2 hs⟩
theorem OutR.in {w : World} {base N : Nat} {v : Value} {l : Rs} (h : OutR w base N v l) (hl : l.len ≤ 140737488355328) : ∃ (p : Option Addr) (c : Nat), v = .slice p l.len c ∧ ∃ T : Nat → Bool, Sl w.heap.size p l.len (Rs.At (cut T w) w.heap.size l) ∧ ∀ i, T i = true → i < N ∨ (base ≤ i ∧ i < w.heap.size) := by
  obtain ⟨news, S, h1, h2, h3, h4⟩ := h
  rcases h1 with ⟨_, ⟨rfl, h0⟩ | ⟨g, cap, cur, rfl, hg, hk, hnc, hm, hs, ht⟩⟩
  · exact ⟨none, 0, by rw [h0], fun _ => false, ⟨by omega, .inl h0⟩, fun _ h => by cases h⟩
  · have hlt : g < w.heap.size := lt_blk hk
    refine ⟨_, cap, rfl, fun i => S i || i == g, ⟨hl, .inr ⟨g, 0, rfl, hlt, Rs.At.ofCells (Le.cut2 fun b hb => ⟨by simp [hb], fun o v hv => hv⟩) (Nat.le_refl _) l news 0 h2 fun j u hu => ?_⟩⟩, fun i hi => ?_⟩
    · rw [cell_cut, if_pos (by simp), Nat.zero_add]
      rw [← ht, List.getElem?_take] at hu
      split at hu
      · exact cell_blk hk (by rw [← Array.getElem?_toList]; exact hu)
      · cases hu
    · have : S i = true ∨ i = g := by simpa using hi
      rcases this with h | rfl
      · exact h3 i h
      · exact .inr ⟨hg, hlt⟩
theorem info_recs : (Try.prog.info? 67).map (fun i => (i.zero, i.size, i.bytes)) = some (some (.slice none 0 0), 1, 24) := by kernel_rfl
/-- one more list made ready, behind a row of them -/
theorem app_rs {base N lo : Nat} {v : Value} {ds : Rs} {l : Rc} {W : World} {q : Option Addr} {d : Nat} (hO : OutR W base N v ds) (hbase : base ≤ W.heap.size) (hNb : N ≤ base) (hlo : base ≤ lo) (hN : NewN N lo W fun u M => Sl M q l.len (Rc.At u M l)) (hown : ∀ g, v.ownBlock = some g → g < lo) (hl : ds.len ≤ 1073741824) (ty : Nat) :
    ∃ qv cv W3, (Builtin.append_ #[84, 84] ty #[v, .slice (some ⟨W.heap.size, 0, none⟩) 1 1]).run Try.prog (W.alloc (.cells #[.slice q l.len d] 67 (0, 0))) = .ok (.slice qv (ds.len + 1) cv) W3 ∧ OutR W3 base N (.slice qv (ds.len + 1) cv) (ds.cat (.sub l .nil)) ∧ (W.alloc (.cells #[.slice q l.len d] 67 (0, 0))).grownBy W3 v.ownBlock := by
  obtain ⟨i0, hi, hz0, hz1, hz2⟩ := info_parts info_recs
  obtain ⟨W2, hW2⟩ : ∃ W2, W2 = W.alloc (.cells #[.slice q l.len d] 67 (0, 0)) := ⟨_, rfl⟩
  have hn : W2.heap[W.heap.size]? = some (.cells #[.slice q l.len d] 67 (0, 0)) := by rw [hW2]; exact heap_alloc_new W _
  have hA : Below W.heap.size W W2 := by rw [hW2]; exact (Below.refl _ W).alloc (Nat.le_refl _) _
  have hs2 : W2.heap.size = W.heap.size + 1 := by rw [hW2]; simp
  have hO2 := hO.keep (w' := W2) (fun i _ hl => hA.block i hl) (Nat.le_trans hNb hbase) hA.size
  obtain ⟨T, k2, k3⟩ := hN.later (fun _ _ _ _ h hl hm => Sl.imp' h hm fun b o ha => Rc.At.le hl hm l b o ha) (Nat.le_trans hNb hbase) hA
  have hlt := fun g hg => hO2.lt (g := g) hg
  obtain ⟨news, S, h1, h2, h3, h4⟩ := hO2
  rw [← hW2]
  obtain ⟨v', W3, hr, g1, g2, g3⟩ := run_app (P := Try.prog) W2 base 84 ty 67 i0 (.slice none 0 0) 1 24 Try.underlying84 hi hz0 hz1 hz2 rfl (by decide) v ds.len news h1 (some ⟨W.heap.size, 0, none⟩) 1 1 [.slice q l.len d] ⟨rfl, .inr ⟨_, _, rfl, fun j u hu => by rw [Nat.zero_add]; exact cell_blk hn (by rw [← Array.getElem?_toList]; exact hu)⟩⟩ (by simp [Value.oneCell']) (by unfold maxLen; omega) (by omega) (by omega)
  have hTv : ∀ g, v.ownBlock = some g → T g = false := fun g hg => by
    cases hT : T g with
    | false => rfl
    | true => have := hown g hg; have := (hlt g hg).1; rcases k3 g hT with h | h <;> omega
  have hin : ∀ i, S i = true ∨ T i = true → i < N ∨ (base ≤ i ∧ i < W2.heap.size) := fun i h => by
    rcases h with h | h
    · exact h3 i h
    · rcases k3 i h with h | h
      · exact .inl h
      · exact .inr ⟨by omega, h.2⟩
  have hbl : ∀ i, S i = true ∨ T i = true → ∀ o u, W2.cell? ⟨i, o, none⟩ = some u → W3.cell? ⟨i, o, none⟩ = some u := fun i hi o u hu => by
    have := g2.block i (by rcases hin i hi with h | h <;> omega) (fun e => by
      rcases hi with h | h
      · rw [h4 i e.symm] at h; cases h
      · rw [hTv i e.symm] at h; cases h)
    simp only [World.cell?] at hu ⊢
    rw [this]; exact hu
  obtain ⟨qv, cv, rfl⟩ : ∃ qv cv, v' = .slice qv (ds.len + 1) cv := by
    rcases g1.2 with ⟨h, e⟩ | ⟨g, cap, cur, e, _⟩
    · omega
    · exact ⟨_, _, e⟩
  refine ⟨qv, cv, W3, hr, ⟨news ++ [.slice q l.len d], fun i => S i || T i, by rw [Rs.cat_len]; exact g1, ?_, fun i hi => ?_, fun g hg => ?_⟩, g2⟩
  · have e2 : (Rs.sub l .nil).Cells (cut (fun i => S i || T i) W3) W3.heap.size [.slice q l.len d] := ⟨q, d, [], rfl, Sl.imp' k2 g2.size fun b o ha => Rc.At.le (Le.cut2 fun b hb => ⟨by simp [hb], hbl b (.inr hb)⟩) g2.size l b o ha, rfl⟩
    exact Rs.Cells.cat e2 ds news (Rs.Cells.le (Le.cut2 fun b hb => ⟨by simp [hb], hbl b (.inl hb)⟩) g2.size ds news h2)
  · rcases hin i (by simpa using hi) with h | h
    · exact .inl h
    · exact .inr ⟨h.1, Nat.lt_of_lt_of_le h.2 g2.size⟩
  · rcases g3 with e | e
    · rw [e] at hg; simp [h4 g hg, hTv g hg]
    · rw [e] at hg
      obtain rfl : W2.heap.size = g := by injection hg
      have a1 : S W2.heap.size = false := by
        cases hs : S W2.heap.size with
        | false => rfl
        | true => rcases h3 _ hs with h | h <;> omega
      have a2 : T W2.heap.size = false := by
        cases hs : T W2.heap.size with
        | false => rfl
        | true => rcases k3 _ hs with h | h <;> omega
      simp [a1, a2]
end Go.Proofs.Ytcadeeldogknmaa
