/- L8, R3 as one. -/
import Derived.Test.YtcadeeldogknmaaZ8
import Derived.Deep.RegionLaw
import Derived.Test.YtcadeeldogknmaaR1
import Derived.Test.YtcadeeldogknmaaVK
import Derived.Deep.RegionWith
/- Leakage as a list of what is seen: the closure. -/
namespace Go.Proofs.Ytcadeeldogknmaa
open Go.RowKit

/-- what is seen: a jump, and whether it was taken; or an address -/
inductive Sn where
  | jump (t : Bool)
  | addr (x : Int)
def Sn.cells : Sn → List Value
  | .jump t => [.bool true, .bool t, .int .u64 0]
  | .addr x => [.bool false, .bool false, .int .u64 x]
def snCells (l : List Sn) : List Value := l.flatMap Sn.cells
theorem snCells_app (a b : List Sn) : snCells (a ++ b) = snCells a ++ snCells b := by simp [snCells]

def seenOf (k : Int) (is : List Int) (t : Bool) : List Sn := is.map .addr ++ (if k = 2 then [.jump (!t)] else [])
mutual
def Lf.flat : Lf → List Sn
  | .nil => []
  | .node k is t s r => seenOf k is t ++ (s.flat ++ r.flat)
def Ls.flat : Ls → List Sn
  | .nil => []
  | .sub l r => l.flat ++ r.flat
end

/-- the captured variable c holds a slice of the call's own, with these -/
def Grows (c : Nat) (w wr : World) (xs : List Sn) : Prop :=
  Below c w wr ∧ ∃ v, wr.cell? ⟨c, 0, none⟩ = some v ∧ wr.frozen? ⟨c, 0, none⟩ = false ∧ wr.ownsRow (c + 1) 53 3 v xs.length (snCells xs) ∧ c + 1 ≤ wr.heap.size

theorem app_cell {c : Nat} {wr w1 : World} {v : Value} {e : TypeId} {sz n : Nat} {xs : List Value} {o : Obj} (hc : wr.cell? ⟨c, 0, none⟩ = some v) (hz : wr.frozen? ⟨c, 0, none⟩ = false)
    (hown : wr.ownsRow (c + 1) e sz v n xs) (hsz : c + 1 ≤ wr.heap.size) (hg : (wr.alloc o).grownBy w1 v.ownBlock) : w1.cell? ⟨c, 0, none⟩ = some v ∧ w1.frozen? ⟨c, 0, none⟩ = false := by
  have hne : some c ≠ v.ownBlock := fun e => by have := hown.lt c e.symm; omega
  have hlt : c < (wr.alloc o).heap.size := by simp; omega
  refine ⟨hg.cell (by rw [World.cell?_alloc_past _ _ _ (by omega)]; exact hc) hne, ?_⟩
  have hb := hg.block c hlt hne
  rw [Below.heap_alloc _ _ _ (by omega)] at hb
  unfold World.frozen? at hz ⊢
  simp only at hb hz ⊢
  rw [hb]; exact hz
theorem grows_app {c : Nat} {w wr w1 : World} {v v' : Value} {xs ys zs : List Sn} {o : Obj} (hbel : Below c w wr) (hc : wr.cell? ⟨c, 0, none⟩ = some v) (hz : wr.frozen? ⟨c, 0, none⟩ = false)
    (hown : wr.ownsRow (c + 1) 53 3 v xs.length (snCells xs)) (hsz : c + 1 ≤ wr.heap.size)
    (hown' : w1.ownsRow (c + 1) 53 3 v' (xs.length + ys.length) (snCells xs ++ snCells ys)) (hg : (wr.alloc o).grownBy w1 v.ownBlock) (he : zs = xs ++ ys) :
    Grows c w (w1.setCell ⟨c, 0, none⟩ v') zs := by
  have hsz1 := hg.size
  obtain ⟨hcell, hfr⟩ := app_cell hc hz hown hsz hg
  refine ⟨(((hbel.alloc (by omega) o).grown hg (by simp; omega) fun k hk => ?_).setCell (Nat.le_refl _) v'), v', ?_, ?_, ?_, ?_⟩
  · have := hown.lt k hk; omega
  · exact World.cell?_setCell_same _ _ _ hcell
  · simpa using hfr
  · rw [he, List.length_append, snCells_app]; exact ownsRow_setCell_below hown' (Nat.lt_succ_self _) v'
  · simp at hsz1 ⊢; omega

theorem step_append_own {P : Program} {ops : Array Oper} {o : Oper} {a : Act} {w : World} {K : Act → World → Prop} {Q : Exit → Act → World → Prop} {E : Prop}
    (hgd : o.guard = none) (s x : Operand) (t : TypeId)
    (ho : o.op = .call { callee := .builtin .append, args := #[s, x], argTypes := #[t, t] })
    (base : Nat) (e : TypeId) (i : TypeInfo) (z : Value) (size bytes : Nat) (ht : P.underlying t = some (.slice e)) (hi : P.info? e = some i) (hz : i.zero = some z)
    (hsize : i.size = size) (hby : i.bytes = bytes) (hzs : z.cells.size = size) (hsz : 0 < size)
    (v : Value) (n : Nat) (xs : List Value) (hs : a.eval s = v) (hown : w.ownsRow base e size v n xs)
    (ad : Addr) (m c : Nat) (news : List Value) (hx : a.eval x = .slice (some ad) m c) (hl : news.length = m * size) (hnews : ∀ j u, news[j]? = some u → w.cell? (ad.add j) = some u) (h1 : ∀ u ∈ news, u.oneCell' = true)
    (h63 : n + m ≤ maxLen) (hbytes : (n + m) * bytes ≤ 140737488355328) (hbase : base ≤ w.heap.size)
    (h : ∀ v' w', w'.ownsRow base e size v' (n + m) (xs ++ news) → w.grownBy w' v.ownBlock → K (a.put o.dst v') w') :
    if Region.wanted o (yielded ops a.tmps) = true then Oper.wp P o a w K Q else E := by
  have hw : Region.wanted o (yielded ops a.tmps) = true := by simp [Region.wanted, hgd]
  rw [if_pos hw]
  exact wp_append_own w s x t ho base e i z size bytes ht hi hz hsize hby hzs hsz v n xs hs hown ad m c news hx hl hnews h1 h63 hbytes hbase fun v' w' h2 h3 _ => h v' w' h2 h3
theorem info_seen : (Try.prog.info? 53).map (fun i => (i.zero, i.size, i.bytes)) = some (some (.agg #[.bool false, .bool false, .int .u64 0]), 3, 16) := by kernel_rfl

set_option maxHeartbeats 1600000 in
theorem flat1_any (b o c : Nat) (deep : Int) (k : Int) (is : List Int) (t : Bool) (q : Option Addr) (cp N : Nat) (w : World) (xs : List Sn) (hNc : N ≤ c) (hb : b < N)
    (h0 : w.cell? ⟨b, o, none⟩ = some (.int .i64 k)) (h1 : w.cell? ⟨b, o + 1, none⟩ = some (.slice q is.length cp)) (s1 : Sl N q is.length (Ints w is))
    (h2 : w.cell? ⟨b, o + 2, none⟩ = some (.bool t)) (hg : Grows c w w xs) (hn : xs.length + is.length + 1 ≤ 4000000) :
    Calls Try.prog 29 #[.pointer (some ⟨b, o, none⟩), .int .i64 deep, .pointer (some ⟨c, 0, none⟩)] w fun e w' => e = .returned (.bool true) ∧ Grows c w w' (xs ++ seenOf k is t) := by
  obtain ⟨i0, hi, hz0, hz1, hz2⟩ := info_parts info_seen
  have S1 := Lib.hid s1
  have hm := s1.1
  clear s1
  go_enter Try.func29, Try.ntmps29
  go_wp2_with fail
  go_loopw [13] (fun i wr => ∃ (ds rs : List Int), i = .int .i64 ds.length ∧ ds.length + rs.length = is.length ∧ Hid (is = ds ++ rs) ∧ Grows c w wr (xs ++ ds.map .addr))
    (fun i _ => is.length - (intOf i).toNat)
  case atStart => exact ⟨[], is, rfl, by simp, Lib.hid rfl, by simpa using hg⟩
  case round =>
    obtain ⟨ds, rs, rfl, hj, hE, hbel, v, hc, hz, hown, hsz⟩ := hrel
    have f0 := (hbel.cell (show b < c by omega)).trans h0
    have f2 := (hbel.cell (show b < c by omega)).trans h2
    have hln : (xs ++ ds.map Sn.addr).length + rs.length + 1 ≤ 4000000 := by simp; omega
    have HL := Lib.hid hln
    clear hln hg hn
    cases rs with
    | nil =>
      simp only [List.length_nil] at hj
      have hge : ¬ ds.length < is.length := by omega
      clear h0 h1 h2
      cases hk : k == 2 with
      | false =>
        have HG := Lib.hid (show Grows c w wr (xs ++ seenOf k is t) by
          rw [hE.out]; simp only [seenOf, List.append_nil, if_neg (beq_eq_false_iff_ne.1 hk)]; exact ⟨hbel, v, hc, hz, hown, hsz⟩)
        clear hbel hown hc hz hsz
        go_wp2_with fail
        go_ret
        exact ⟨rfl, HG.out⟩
      | true =>
        go_wp2_with fail
        have D1 : ∀ (j : Nat) (u : Value), (Sn.cells (.jump (!t)))[j]? = some u → (wr.drew.alloc (Obj.cells #[.bool true, .bool (!t), .int .u64 0] 53)).cell? ((⟨wr.heap.size, 0, none⟩ : Addr).add j) = some u := by
          intro j u hj
          match j, hj with
          | 0, hj => simp [Sn.cells] at hj; subst hj; simp [go_sem, Addr.add]
          | 1, hj => simp [Sn.cells] at hj; subst hj; simp [go_sem, Addr.add]
          | 2, hj => simp [Sn.cells] at hj; subst hj; simp [go_sem, Addr.add]
        have D2 : ∀ u ∈ Sn.cells (.jump (!t)), u.oneCell' = true := by intro u hu; simp [Sn.cells] at hu; rcases hu with rfl | rfl | rfl <;> rfl
        have D3 : (xs ++ ds.map Sn.addr).length + 1 ≤ maxLen := by have := HL.out; unfold maxLen; omega
        have D4 : ((xs ++ ds.map Sn.addr).length + 1) * 16 ≤ 140737488355328 := by have := HL.out; omega
        have D5 : c + 1 ≤ (wr.drew.alloc (Obj.cells #[.bool true, .bool (!t), .int .u64 0] 53)).heap.size := by simp; omega
        have D := Lib.hid (And.intro D1 (And.intro D2 (And.intro D3 (And.intro D4 D5))))
        clear D1 D2 D3 D4 D5
        have GA := Lib.hid (fun (w1 : World) (v' : Value) (hown' : w1.ownsRow (c + 1) 53 3 v' ((xs ++ ds.map Sn.addr).length + 1) (snCells (xs ++ ds.map Sn.addr) ++ Sn.cells (.jump (!t)))) (hgrow : (wr.drew.alloc (Obj.cells #[.bool true, .bool (!t), .int .u64 0] 53)).grownBy w1 v.ownBlock) =>
          grows_app (wr := wr.drew) (ys := [.jump (!t)]) (zs := xs ++ seenOf k is t) hbel.drew hc hz hown.drew hsz (by simpa [snCells] using hown') hgrow
          (by have hE' := hE.out; simp only [List.append_nil] at hE'; subst hE'; simp [seenOf, eq_of_beq hk]))
        have hca : (wr.alloc (Obj.cells #[.bool true, .bool (!t), .int .u64 0] 53)).cell? ⟨c, 0, none⟩ = some v := (World.cell?_alloc_past _ _ _ (by show c < wr.heap.size; omega)).trans hc
        go_region_law (refine step_append_own rfl (.tmp 28) (.tmp 35) 49 rfl (c + 1) 53 i0 (.agg #[.bool false, .bool false, .int .u64 0]) 3 16 Try.underlying49 hi hz0 hz1 hz2 rfl (by decide) v _ _ (by simp [Act.eval]) (hown.drew.alloc _) ⟨wr.heap.size, 0, none⟩ 1 1 (Sn.cells (.jump (!t))) (by simp [Act.eval]) rfl D.out.1 D.out.2.1 D.out.2.2.1 D.out.2.2.2.1 D.out.2.2.2.2 ?_; intro v' w1 hown' hgrow; obtain ⟨gg, cc, rfl⟩ := own_form hown' (by omega); obtain ⟨hc1, hz1'⟩ := app_cell (wr := wr.drew) hc hz hown.drew hsz hgrow; have HG := Lib.hid (GA.out _ _ hown' hgrow); clear hown' hgrow)
        all_goals go_wp2_with fail
        all_goals go_ret
        all_goals exact ⟨rfl, by have h := HG.out; rw [show (xs ++ ds.map Sn.addr).length = xs.length + ds.length by simp] at h; exact h⟩
    | cons y rs =>
      simp only [List.length_cons] at hj
      have hlt : ds.length < is.length := by omega
      rcases S1.out.2 with h30 | ⟨b1, o1, rfl, hb1, ha1⟩
      · omega
      rw [hE.out] at ha1
      have fy := (hbel.cell (show b1 < c by omega)).trans (Ints.drop _ _ _ _ ha1).1
      clear h0 h1 h2 ha1 S1
      go_wp2_with (at_builtin; refine wpList_append_own _ rfl _ _ 49 rfl (c + 1) 53 i0 (.agg #[.bool false, .bool false, .int .u64 0]) 3 16 Try.underlying49 hi hz0 hz1 hz2 rfl (by decide) _ _ _ rfl (hown.alloc _) ⟨wr.heap.size, 0, none⟩ 1 1 (Sn.cells (.addr y)) rfl rfl ?c1 ?c2 ?c3 ?c4 ?c5 ?_)
      case c1 => intro j u hj; match j, hj with
        | 0, hj => simp [Sn.cells] at hj; subst hj; simp [go_sem, Addr.add]
        | 1, hj => simp [Sn.cells] at hj; subst hj; simp [go_sem, Addr.add]
        | 2, hj => simp [Sn.cells] at hj; subst hj; simp [go_sem, Addr.add]
      case c2 => intro u hu; simp [Sn.cells] at hu; rcases hu with rfl | rfl <;> rfl
      case c3 => have := HL.out; unfold maxLen; omega
      case c4 => have := HL.out; omega
      case c5 => simp; omega
      intro v' w1 hown' hgrow _
      obtain ⟨gg, cc, rfl⟩ := own_form hown' (by omega)
      obtain ⟨hc1, hz1'⟩ := app_cell hc hz hown hsz hgrow
      have HG := Lib.hid (grows_app (ys := [.addr y]) hbel hc hz hown hsz (by simpa [snCells] using hown') hgrow rfl)
      clear hown' hgrow hown hc hz hbel hi hz0 hz1 hz2 f0 f2 fy hsz
      go_wp2_with fail
      go_roundw
      case rel => exact ⟨ds ++ [y], rs, by rw [List.length_append]; go_num, by simp; omega, Lib.hid (by rw [hE.out]; simp), by simpa using HG.out⟩
      case measure => simp [intOf]; omega
end Go.Proofs.Ytcadeeldogknmaa
/- Rewriting the chapter's rows: recipes. -/
namespace Go.Proofs.Ytcadeeldogknmaa
open Go.RowKit

/-- the pick of the chapter's second row -/
def pkA : Pk := ⟨3, 0, 100, true⟩
def tfA : Tf := .node 2 [[pkA]] false .nil .nil
def tfB : Tf := .node 4 [] true (.sub .nil .nil) .nil

def zRecipe : Value := .agg #[.int .i64 0, .bool false, .slice none 0 0, .int .i64 0, .int .i64 0, .slice none 0 0, .int .i64 0, .int .i64 0, .slice none 0 0]
theorem info_recipe : (Try.prog.info? 86).map (fun i => (i.zero, i.size, i.bytes)) = some (some zRecipe, 9, 120) := by kernel_rfl
/-- a recipe's cells, those that are asked for -/
structure Rec (w : World) (g : Nat) (k : Int) (t : Bool) (pv : Value) (gi sz : Int) (sv : Value) : Prop where
  c0 : w.cell? ⟨g, 0, none⟩ = some (.int .i64 k)
  c1 : w.cell? ⟨g, 1, none⟩ = some (.bool t)
  c2 : w.cell? ⟨g, 2, none⟩ = some pv
  c3 : w.cell? ⟨g, 3, none⟩ = some (.int .i64 gi)
  c4 : w.cell? ⟨g, 4, none⟩ = some (.int .i64 sz)
  c8 : w.cell? ⟨g, 8, none⟩ = some sv
theorem Rec.later {w w' : World} {g : Nat} {k : Int} {t : Bool} {pv : Value} {gi sz : Int} {sv : Value} {N : Nat} (h : Rec w g k t pv gi sz sv) (hb : Below N w w') (hg : g < N) : Rec w' g k t pv gi sz sv :=
  ⟨(hb.cell hg).trans h.c0, (hb.cell hg).trans h.c1, (hb.cell hg).trans h.c2, (hb.cell hg).trans h.c3, (hb.cell hg).trans h.c4, (hb.cell hg).trans h.c8⟩
def Made9 (w : World) (g : Nat) : Prop :=
    (w.cell? ⟨g, 0, none⟩ = some (.int .i64 0) ∧ w.cell? ⟨g, 1, none⟩ = some (.bool false) ∧ w.cell? ⟨g, 2, none⟩ = some (.slice none 0 0) ∧ w.cell? ⟨g, 3, none⟩ = some (.int .i64 0) ∧ w.cell? ⟨g, 4, none⟩ = some (.int .i64 0) ∧
     w.cell? ⟨g, 5, none⟩ = some (.slice none 0 0) ∧ w.cell? ⟨g, 6, none⟩ = some (.int .i64 0) ∧ w.cell? ⟨g, 7, none⟩ = some (.int .i64 0) ∧ w.cell? ⟨g, 8, none⟩ = some (.slice none 0 0)) ∧ ∀ j, w.frozen? ⟨g, j, none⟩ = false
theorem Made9.later {w w' : World} {g N : Nat} (h : Made9 w g) (hb : Below N w w') (hg : g < N) : Made9 w' g :=
  ⟨⟨(hb.cell hg).trans h.1.1, (hb.cell hg).trans h.1.2.1, (hb.cell hg).trans h.1.2.2.1, (hb.cell hg).trans h.1.2.2.2.1, (hb.cell hg).trans h.1.2.2.2.2.1, (hb.cell hg).trans h.1.2.2.2.2.2.1, (hb.cell hg).trans h.1.2.2.2.2.2.2.1, (hb.cell hg).trans h.1.2.2.2.2.2.2.2.1, (hb.cell hg).trans h.1.2.2.2.2.2.2.2.2⟩,
    fun j => (hb.frozen hg).trans (h.2 j)⟩
theorem made9 {w : World} {g cap : Nat} {e : TypeId} (h : w.ownsRow g e 9 (.slice (some ⟨g, 0, none⟩) 1 cap) 1 (madeCells zRecipe.cells (1 * 9)).toList) :
    Made9 w g :=
  ⟨⟨(h.cellAt 0 (by decide)).trans (by kernel_rfl), (h.cellAt 1 (by decide)).trans (by kernel_rfl), (h.cellAt 2 (by decide)).trans (by kernel_rfl), (h.cellAt 3 (by decide)).trans (by kernel_rfl), (h.cellAt 4 (by decide)).trans (by kernel_rfl), (h.cellAt 5 (by decide)).trans (by kernel_rfl), (h.cellAt 6 (by decide)).trans (by kernel_rfl), (h.cellAt 7 (by decide)).trans (by kernel_rfl), (h.cellAt 8 (by decide)).trans (by kernel_rfl)⟩, fun j => h.frozenAt j⟩

def nine (w : World) (g : Nat) (k : Int) (t : Bool) (pv : Value) (gi sz : Int) : World :=
  ((((((((w.setCell ⟨g, 0, none⟩ (.int .i64 k)).setCell ⟨g, 1, none⟩ (.bool t)).setCell ⟨g, 2, none⟩ pv).setCell ⟨g, 3, none⟩ (.int .i64 gi)).setCell ⟨g, 4, none⟩ (.int .i64 sz)).setCell ⟨g, 5, none⟩ (.slice none 0 0)).setCell ⟨g, 6, none⟩ (.int .i64 0)).setCell ⟨g, 7, none⟩ (.int .i64 0)).setCell ⟨g, 8, none⟩ (.slice none 0 0)
theorem nine_rec {w : World} {g : Nat} (h : Made9 w g) (k : Int) (t : Bool) (pv : Value) (gi sz : Int) :
    Rec (nine w g k t pv gi sz) g k t pv gi sz (.slice none 0 0) ∧ (∀ j, (nine w g k t pv gi sz).frozen? ⟨g, j, none⟩ = false) ∧ Below g w (nine w g k t pv gi sz) ∧ (∀ b j, b ≠ g → (nine w g k t pv gi sz).cell? ⟨b, j, none⟩ = w.cell? ⟨b, j, none⟩) := by
  obtain ⟨⟨m0, m1, m2, m3, m4, m5, m6, m7, m8⟩, mz⟩ := h
  have ne : ∀ {i j : Nat}, i ≠ j → (⟨g, i, none⟩ : Addr) ≠ ⟨g, j, none⟩ := fun h e => h (by injection e)
  have o : ∀ (w : World) (i j : Nat) (v : Value), i ≠ j → (w.setCell ⟨g, i, none⟩ v).cell? ⟨g, j, none⟩ = w.cell? ⟨g, j, none⟩ := fun w i j v h => World.cell?_setCell_other _ _ _ _ (ne h)
  refine ⟨⟨?_, ?_, ?_, ?_, ?_, ?_⟩, fun j => ?_, ?_, fun b j hb => ?_⟩
  · unfold nine; rw [o _ 8 0 _ (by decide), o _ 7 0 _ (by decide), o _ 6 0 _ (by decide), o _ 5 0 _ (by decide), o _ 4 0 _ (by decide), o _ 3 0 _ (by decide), o _ 2 0 _ (by decide), o _ 1 0 _ (by decide)]; exact World.cell?_setCell_same _ _ _ m0
  · unfold nine; rw [o _ 8 1 _ (by decide), o _ 7 1 _ (by decide), o _ 6 1 _ (by decide), o _ 5 1 _ (by decide), o _ 4 1 _ (by decide), o _ 3 1 _ (by decide), o _ 2 1 _ (by decide)]; exact World.cell?_setCell_same _ _ _ ((o _ 0 1 _ (by decide)).trans m1)
  · unfold nine; rw [o _ 8 2 _ (by decide), o _ 7 2 _ (by decide), o _ 6 2 _ (by decide), o _ 5 2 _ (by decide), o _ 4 2 _ (by decide), o _ 3 2 _ (by decide)]; exact World.cell?_setCell_same _ _ _ (by rw [o _ 1 2 _ (by decide), o _ 0 2 _ (by decide)]; exact m2)
  · unfold nine; rw [o _ 8 3 _ (by decide), o _ 7 3 _ (by decide), o _ 6 3 _ (by decide), o _ 5 3 _ (by decide), o _ 4 3 _ (by decide)]; exact World.cell?_setCell_same _ _ _ (by rw [o _ 2 3 _ (by decide), o _ 1 3 _ (by decide), o _ 0 3 _ (by decide)]; exact m3)
  · unfold nine; rw [o _ 8 4 _ (by decide), o _ 7 4 _ (by decide), o _ 6 4 _ (by decide), o _ 5 4 _ (by decide)]; exact World.cell?_setCell_same _ _ _ (by rw [o _ 3 4 _ (by decide), o _ 2 4 _ (by decide), o _ 1 4 _ (by decide), o _ 0 4 _ (by decide)]; exact m4)
  · unfold nine; exact World.cell?_setCell_same _ _ _ (by rw [o _ 7 8 _ (by decide), o _ 6 8 _ (by decide), o _ 5 8 _ (by decide), o _ 4 8 _ (by decide), o _ 3 8 _ (by decide), o _ 2 8 _ (by decide), o _ 1 8 _ (by decide), o _ 0 8 _ (by decide)]; exact m8)
  · unfold nine; simpa using mz j
  · unfold nine; exact ((((((((((Below.refl g w).setCell (p := ⟨g, 0, none⟩) (Nat.le_refl _) _).setCell (p := ⟨g, 1, none⟩) (Nat.le_refl _) _).setCell (p := ⟨g, 2, none⟩) (Nat.le_refl _) _).setCell (p := ⟨g, 3, none⟩) (Nat.le_refl _) _).setCell (p := ⟨g, 4, none⟩) (Nat.le_refl _) _).setCell (p := ⟨g, 5, none⟩) (Nat.le_refl _) _).setCell (p := ⟨g, 6, none⟩) (Nat.le_refl _) _).setCell (p := ⟨g, 7, none⟩) (Nat.le_refl _) _).setCell (p := ⟨g, 8, none⟩) (Nat.le_refl _) _)
  · have q : ∀ (w : World) (i : Nat) (v : Value), (w.setCell ⟨g, i, none⟩ v).cell? ⟨b, j, none⟩ = w.cell? ⟨b, j, none⟩ := fun w i v => World.cell?_setCell_other _ _ _ _ (fun e => hb (by injection e with e1 _ _; first | exact e1 | exact e1.symm))
    unfold nine; rw [q, q, q, q, q, q, q, q, q]

set_option maxHeartbeats 1600000 in
theorem recipes_nil (p : Option Addr) (cap : Nat) (w : World) :
    Calls Try.prog 25 #[.slice p 0 cap] w fun e w' => (∃ q c, e = .returned (.slice q 0 c)) ∧ Below w.heap.size w w' := by
  obtain ⟨i0, hi, hz0, hz1, hz2⟩ := info_parts info_recipe
  have hz2' : i0.bytes * 0 ≤ 281474976710656 := by omega
  have IZ := Lib.hid (And.intro hi (And.intro hz0 (And.intro hz1 hz2)))
  clear hi hz0 hz1 hz2 hz2'
  go_enter Try.func25, Try.ntmps25
  go_wp2_with (at_make; refine wpList_make_full _ rfl _ _ 67 rfl w.heap.size 86 i0 zRecipe 9 Try.underlying67 IZ.out.1 IZ.out.2.1 IZ.out.2.2.1 .i64 .i64 0 0 0 rfl rfl rfl rfl (by omega) (by decide) (Nat.le_refl _) ?_; intro w1 hown hgr)
  have hB := Lib.hid ((Below.refl w.heap.size w).grown hgr (Nat.le_refl _) (by intro k hk; cases hk))
  clear hown hgr
  go_loopw [14] (fun i wr => i = .int .i64 0 ∧ wr = w1) (fun i _ => 0)
  case atStart => exact ⟨rfl, rfl⟩
  case round =>
    obtain ⟨rfl, rfl⟩ := hrel
    go_wp2_with fail
    go_ret
    exact ⟨⟨_, _, rfl⟩, hB.out⟩
end Go.Proofs.Ytcadeeldogknmaa
