/- What a deed is handed. -/
import Derived.Test.YtcadeeldogknmaaZ8
namespace Go.Proofs.Ytcadeeldogknmaa
open Go.RowKit

/-- what is asked ahead of a rewriting -/
structure RwIn (g base mp m : Nat) (st : Int) (a : Lf) (v : Value) (W : Nat) (w : World) : Prop where
  r : RwS w g st mp m
  o : OutL w base v a
  hg : g < base
  hb : base ≤ w.heap.size
  mp : ∀ W', Ch g v.ownBlock w W' → W'.heap[mp]? = some (fmap deedT)
  hm : m + 2097152 * W ≤ 4611686018427387904
  ha : a.len + W + 1000001 ≤ 1000000000000 + cap6 m
  hW : W ≤ 1073741824
theorem cap6_le (m : Nat) : cap6 m ≤ 1000001 := by unfold cap6; split <;> omega
theorem RwIn.row {g base mp m W : Nat} {st : Int} {a : Lf} {v : Value} {w : World} (h : RwIn g base mp m st a v W w) : ∀ k, v.ownBlock = some k → base ≤ k := fun _k hk => (h.o.lt hk).1
theorem RwIn.ne {g base mp m W : Nat} {st : Int} {a : Lf} {v : Value} {w : World} (h : RwIn g base mp m st a v W w) : v.ownBlock ≠ some g := fun e => by have := h.row g e; have := h.hg; omega
/-- on, behind something -/
theorem RwIn.next {g base mp m m' W W' : Nat} {st : Int} {a a' : Lf} {v v' : Value} {w w' : World} (h : RwIn g base mp m st a v W w) (hr : RwS w' g st mp m') (ho : OutL w' base v' a') (hc : Ch g v.ownBlock w w') (ht : OwnTo w v v') (hm : m' + 2097152 * W' ≤ 4611686018427387904) (ha : a'.len + W' + 1000001 ≤ 1000000000000 + cap6 m') (hW : W' ≤ W) : RwIn g base mp m' st a' v' W' w' :=
  ⟨hr, ho, h.hg, Nat.le_trans h.hb hc.size, fun W2 h2 => h.mp W2 (hc.trans h2 ht), hm, ha, Nat.le_trans hW h.hW⟩
/-- a list of its own -/
theorem RwIn.inner {g base mp m W W' : Nat} {st : Int} {a : Lf} {v : Value} {w : World} (h : RwIn g base mp m st a v W w) (hW : W' ≤ W) : RwIn g w.heap.size mp m st .nil (.slice none 0 0) W' w :=
  ⟨h.r, OutG.nil _ _ _ _ _ rfl, Nat.lt_of_lt_of_le h.hg h.hb, Nat.le_refl _, fun W2 h2 => h.mp W2 (by have : Ch g none w W2 := h2; exact this.none), by have := h.hm; omega, by have := cap6_le m; have := h.ha; simp only [Lf.len]; omega, Nat.le_trans hW h.hW⟩
theorem ne_int {g b o : Nat} {row : Option Nat} {w : World} {k : Int} (h : ∀ W, Ch g row w W → W.cell? ⟨b, o, none⟩ = some (.int .i64 k)) : b ≠ g := fun e => by
  subst e
  have h1 := h w (Ch.refl _ _ _)
  have h2 := h _ (Ch.put row w o (.bool true))
  rw [World.cell?_setCell_same _ _ _ h1] at h2
  cases h2
theorem ne_sl {g b o n : Nat} {row : Option Nat} {w : World} (h : ∀ W, Ch g row w W → ∃ p c, W.cell? ⟨b, o, none⟩ = some (.slice p n c)) : b ≠ g := fun e => by
  subst e
  obtain ⟨p, c, h1⟩ := h w (Ch.refl _ _ _)
  obtain ⟨p', c', h2⟩ := h _ (Ch.put row w o (.bool true))
  rw [World.cell?_setCell_same _ _ _ h1] at h2
  cases h2
/-- a slice that lies there in all such worlds: it is the one that lies there now -/
theorem fix_sl {g b o n base : Nat} {row : Option Nat} {w : World} {A : World → Option Addr → Prop} (hb : b < base) (hw : base ≤ w.heap.size) (hr : ∀ k, row = some k → base ≤ k) (h : ∀ W, Ch g row w W → ∃ p c, W.cell? ⟨b, o, none⟩ = some (.slice p n c) ∧ A W p) :
    ∃ p c, ∀ W, Ch g row w W → W.cell? ⟨b, o, none⟩ = some (.slice p n c) ∧ A W p := by
  have hne := ne_sl (g := g) (row := row) (w := w) (b := b) (o := o) (n := n) fun W hW => by obtain ⟨p, c, h1, _⟩ := h W hW; exact ⟨p, c, h1⟩
  obtain ⟨p, c, h1, _⟩ := h w (Ch.refl _ _ _)
  refine ⟨p, c, fun W hW => ?_⟩
  obtain ⟨p', c', h2, h3⟩ := h W hW
  have h4 := hW.cell (o := o) (show b < w.heap.size by omega) hne (fun e => by have := hr b e; omega)
  rw [h2, h1] at h4
  obtain ⟨rfl, rfl⟩ : p' = p ∧ c' = c := by simpa using h4
  exact ⟨h2, h3⟩
structure NodeIn (g base : Nat) (row : Option Nat) (w : World) (k : Int) (t : Bool) (ls bl : List (List Pk)) (subs : Rs) (bt ot : Nat) (xk : Int) (xi : List Int) (xt : Bool) (xs : Ls) (bn on : Nat) : Prop where
  ht : ∀ W, Ch g row w W → (Rc.node k t ls bl subs .nil).At W base bt ot
  hx : ∀ W, Ch g row w W → (Lf.node xk xi xt xs .nil).At W base bn on
  fine : (Rc.node k t ls bl subs .nil).fine
  shaped : (Lf.node xk xi xt xs .nil).shaped = true
  hbt : bt < base
  hbn : bn < base
/-- a term's cells in all such worlds -/
structure TFix (W : World) (base : Nat) (k : Int) (t : Bool) (ls bl : List (List Pk)) (subs : Rs) (bt ot : Nat) (p p' q : Option Addr) (c c' d : Nat) (gi sz : Int) : Prop where
  c0 : W.cell? ⟨bt, ot, none⟩ = some (.int .i64 k)
  c1 : W.cell? ⟨bt, ot + 1, none⟩ = some (.bool t)
  c2 : W.cell? ⟨bt, ot + 2, none⟩ = some (.slice p ls.length c)
  c3 : W.cell? ⟨bt, ot + 3, none⟩ = some (.int .i64 (greatestL ls))
  c4 : W.cell? ⟨bt, ot + 4, none⟩ = some (.int .i64 (linesW ls))
  c5 : W.cell? ⟨bt, ot + 5, none⟩ = some (.slice p' bl.length c')
  c6 : W.cell? ⟨bt, ot + 6, none⟩ = some (.int .i64 gi)
  c7 : W.cell? ⟨bt, ot + 7, none⟩ = some (.int .i64 sz)
  c8 : W.cell? ⟨bt, ot + 8, none⟩ = some (.slice q subs.len d)
  s2 : Sl base p ls.length (Plines W base ls)
  s5 : Sl base p' bl.length (Plines W base bl)
  s8 : subs.In W base q
theorem NodeIn.tfix {g base : Nat} {row : Option Nat} {w : World} {k : Int} {t : Bool} {ls bl : List (List Pk)} {subs : Rs} {bt ot : Nat} {xk : Int} {xi : List Int} {xt : Bool} {xs : Ls} {bn on : Nat} (h : NodeIn g base row w k t ls bl subs bt ot xk xi xt xs bn on) (hw : base ≤ w.heap.size) (hr : ∀ k, row = some k → base ≤ k) :
    ∃ (p p' q : Option Addr) (c c' d : Nat) (gi sz : Int), (k = 7 → gi = greatestL bl ∧ sz = (linesW bl : Int)) ∧ ∀ W, Ch g row w W → TFix W base k t ls bl subs bt ot p p' q c c' d gi sz := by
  have hne : bt ≠ g := ne_int (row := row) (w := w) (o := ot) (k := k) fun W hW => (h.ht W hW).1
  obtain ⟨p, c, h2⟩ := fix_sl (o := ot + 2) (n := ls.length) (A := fun W p => Sl base p ls.length (Plines W base ls)) h.hbt hw hr (fun W hW => by
    obtain ⟨_, _, ⟨p, c, ⟨e, _, _⟩, s⟩, _⟩ := h.ht W hW
    exact ⟨p, c, e, s⟩)
  obtain ⟨p', c', h5⟩ := fix_sl (o := ot + 5) (n := bl.length) (A := fun W p => Sl base p bl.length (Plines W base bl)) h.hbt hw hr (fun W hW => by
    obtain ⟨_, _, _, ⟨p, c, _, _, ⟨e, _, _⟩, _, s⟩, _⟩ := h.ht W hW
    exact ⟨p, c, e, s⟩)
  obtain ⟨q, d, h8⟩ := fix_sl (o := ot + 8) (n := subs.len) (A := fun W p => subs.In W base p) h.hbt hw hr (fun W hW => by
    obtain ⟨_, _, _, _, ⟨p, c, e, s⟩, _⟩ := h.ht W hW
    exact ⟨p, c, e, s⟩)
  obtain ⟨_, _, _, ⟨_, _, gi, sz, ⟨_, e6, e7⟩, e, _⟩, _⟩ := h.ht w (Ch.refl _ _ _)
  have hlt : bt < w.heap.size := Nat.lt_of_lt_of_le h.hbt hw
  have hrb : row ≠ some bt := fun e => by have := hr bt e; have := h.hbt; omega
  refine ⟨p, p', q, c, c', d, gi, sz, e, fun W hW => ?_⟩
  obtain ⟨a0, a1, ⟨_, _, ⟨_, a3, a4⟩, _⟩, _⟩ := h.ht W hW
  exact ⟨a0, a1, (h2 W hW).1, a3, a4, (h5 W hW).1, (hW.cell hlt hne hrb).trans e6, (hW.cell hlt hne hrb).trans e7, (h8 W hW).1, (h2 W hW).2, (h5 W hW).2, (h8 W hW).2⟩
/-- a node's cells in all such worlds -/
structure XFix (W : World) (base : Nat) (xk : Int) (xi : List Int) (xt : Bool) (xs : Ls) (bn on : Nat) (p q : Option Addr) (c d : Nat) : Prop where
  c0 : W.cell? ⟨bn, on, none⟩ = some (.int .i64 xk)
  c1 : W.cell? ⟨bn, on + 1, none⟩ = some (.slice p xi.length c)
  c2 : W.cell? ⟨bn, on + 2, none⟩ = some (.bool xt)
  c3 : W.cell? ⟨bn, on + 3, none⟩ = some (.slice q xs.len d)
  s1 : Sl base p xi.length (Ints W xi)
  s3 : xs.In W base q
theorem xfix_of {g base : Nat} {row : Option Nat} {w : World} {xk : Int} {xi : List Int} {xt : Bool} {xs : Ls} {bn on : Nat} (hx : ∀ W, Ch g row w W → (Lf.node xk xi xt xs .nil).At W base bn on) (hbn : bn < base) (hw : base ≤ w.heap.size) (hr : ∀ k, row = some k → base ≤ k) :
    ∃ p q c d, ∀ W, Ch g row w W → XFix W base xk xi xt xs bn on p q c d := by
  obtain ⟨p, c, h1⟩ := fix_sl (o := on + 1) (n := xi.length) (A := fun W p => Sl base p xi.length (Ints W xi)) hbn hw hr (fun W hW => by
    obtain ⟨_, ⟨p, c, e, s⟩, _⟩ := hx W hW
    exact ⟨p, c, e, s⟩)
  obtain ⟨q, d, h3⟩ := fix_sl (o := on + 3) (n := xs.len) (A := fun W p => xs.In W base p) hbn hw hr (fun W hW => by
    obtain ⟨_, _, _, ⟨p, c, e, s⟩, _⟩ := hx W hW
    exact ⟨p, c, e, s⟩)
  refine ⟨p, q, c, d, fun W hW => ?_⟩
  obtain ⟨a0, _, a2, _⟩ := hx W hW
  exact ⟨a0, (h1 W hW).1, a2, (h3 W hW).1, (h1 W hW).2, (h3 W hW).2⟩
/-- the first sublist, in all such worlds -/
theorem first_ls {g base : Nat} {row : Option Nat} {w : World} {l : Lf} {r : Ls} {q : Option Addr} (h : ∀ W, Ch g row w W → (Ls.sub l r).In W base q) (hw : base ≤ w.heap.size) (hr : ∀ k, row = some k → base ≤ k) :
    ∃ b o p c, q = some ⟨b, o, none⟩ ∧ ∀ W, Ch g row w W → W.cell? ⟨b, o, none⟩ = some (.slice p l.len c) ∧ l.In W base p := by
  rcases (h w (Ch.refl _ _ _)).2 with h0 | ⟨b, o, rfl, hb, _⟩
  · simp [Ls.len] at h0
  · obtain ⟨p, c, h1⟩ := fix_sl (b := b) (o := o) (n := l.len) (A := fun W p => l.In W base p) hb hw hr (fun W hW => by
      rcases (h W hW).2 with h0 | ⟨b', o', e, _, h2⟩
      · simp [Ls.len] at h0
      · cases e
        obtain ⟨⟨p, c, e1, s1⟩, _⟩ := h2
        exact ⟨p, c, e1, s1⟩)
    exact ⟨b, o, p, c, rfl, h1⟩
theorem first_rs {g base : Nat} {row : Option Nat} {w : World} {l : Rc} {r : Rs} {q : Option Addr} (h : ∀ W, Ch g row w W → (Rs.sub l r).In W base q) (hw : base ≤ w.heap.size) (hr : ∀ k, row = some k → base ≤ k) :
    ∃ b o p c, q = some ⟨b, o, none⟩ ∧ ∀ W, Ch g row w W → W.cell? ⟨b, o, none⟩ = some (.slice p l.len c) ∧ l.In W base p := by
  rcases (h w (Ch.refl _ _ _)).2 with h0 | ⟨b, o, rfl, hb, _⟩
  · simp [Rs.len] at h0
  · obtain ⟨p, c, h1⟩ := fix_sl (b := b) (o := o) (n := l.len) (A := fun W p => l.In W base p) hb hw hr (fun W hW => by
      rcases (h W hW).2 with h0 | ⟨b', o', e, _, h2⟩
      · simp [Rs.len] at h0
      · cases e
        obtain ⟨⟨p, c, e1, s1⟩, _⟩ := h2
        exact ⟨p, c, e1, s1⟩)
    exact ⟨b, o, p, c, rfl, h1⟩
/-- a rewriting of a list -/
def RL (n : Nat) : Prop := ∀ (l : Lf), l.wt < n → ∀ (t : Rc) (tp lp : Option Addr) (tc lc : Nat) (br : Bool) (g base mp m : Nat) (st : Int) (a : Lf) (v : Value) (w : World), RwIn g base mp m st a v l.wt w →
    (∀ W, Ch g v.ownBlock w W → t.In W base tp) → (∀ W, Ch g v.ownBlock w W → l.In W base lp) → t.fine → l.shaped = true →
    Calls Try.prog 24 #[.pointer (some ⟨g, 0, none⟩), v, .slice tp t.len tc, .slice lp l.len lc, .bool br] w (RwEnd g base st mp a v w (if asMany t.len l.len br = true then l.go st t br m else none))
/-- a deed -/
def DeedOk (n : Nat) (k : Int) (f : Nat) : Prop := ∀ (xk : Int) (xi : List Int) (xt : Bool) (xs : Ls) (t : Bool) (ls bl : List (List Pk)) (subs : Rs) (b : Bool) (bt ot bn on g base mp m : Nat) (st : Int) (a : Lf) (v : Value) (w : World), xs.wt < n → RwIn g base mp m st a v (1 + xi.length + xs.wt) w →
    NodeIn g base v.ownBlock w k t ls bl subs bt ot xk xi xt xs bn on →
    Calls Try.prog f #[.pointer (some ⟨g, 0, none⟩), v, .pointer (some ⟨bt, ot, none⟩), .pointer (some ⟨bn, on, none⟩), .bool b] w (RwEnd g base st mp a v w (oneR st xk xi xt xs k t ls bl subs b m))
/-- lines of a node, as a deed lays them -/
theorem RwIn.lay {g base mp m W : Nat} {st : Int} {a : Lf} {v : Value} {w : World} (h : RwIn g base mp m st a v W w) (hW : 1 ≤ W) {ls : List (List Pk)} {is : List Int} {p q : Option Addr} {c d : Nat} (hls : ∀ W, Ch g v.ownBlock w W → Sl base p ls.length (Plines W base ls)) (his : ∀ W, Ch g v.ownBlock w W → Sl base q is.length (Ints W is)) (hok : picksOk ls = true) (hl : linesW ls ≤ 1048576) :
    Calls Try.prog 57 #[.pointer (some ⟨g, 0, none⟩), v, .agg #[.slice p ls.length c, .int .i64 (greatestL ls), .int .i64 (linesW ls)], .slice q is.length d] w (RwEnd g base st mp a v w (layR st ls is m)) :=
  lay_any g base mp m base st a v ls is p q c d w h.r h.o h.hg h.hb (Nat.le_refl _) hls his hok (by have := h.hm; omega) (by have := h.ha; have := cap6_le m; omega)
end Go.Proofs.Ytcadeeldogknmaa
