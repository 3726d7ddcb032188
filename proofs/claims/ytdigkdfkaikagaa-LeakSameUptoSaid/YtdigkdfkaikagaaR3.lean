/- Rewriting the chapter's rows: recipes. -/
import Derived.Test.YtdigkdfkaikagaaR1
import Derived.Test.YtdigkdfkaikagaaR2
import Derived.Test.YtdigkdfkaikagaaL8
import Derived.Deep.RegionWith
namespace Go.Proofs.Ytdigkdfkaikagaa
open Go.RowKit

/-- the pick of the chapter's second row -/
def pkA : Pk := ⟨3, 0, 100, true⟩
def tfA : Tf := .node 2 [[pkA]] false .nil .nil
def tfB : Tf := .node 4 [] true (.sub .nil .nil) .nil

def zRecipe : Value := .agg #[.int .i64 0, .bool false, .slice none 0 0, .int .i64 0, .int .i64 0, .slice none 0 0, .int .i64 0, .int .i64 0, .slice none 0 0]
theorem info_recipe : (Try.prog.info? 93).map (fun i => (i.zero, i.size, i.bytes)) = some (some zRecipe, 9, 120) := by kernel_rfl
/-- a recipe's cells, those that are asked for -/
structure Rec (w : World) (g : Nat) (k : Int) (t : Bool) (pv : Value) (gi sz : Int) (sv : Value) : Prop where
  c0 : w.cell? ⟨g, 0, none⟩ = some (.int .i64 k)
  c1 : w.cell? ⟨g, 1, none⟩ = some (.bool t)
  c2 : w.cell? ⟨g, 2, none⟩ = some pv
  c3 : w.cell? ⟨g, 3, none⟩ = some (.int .i64 gi)
  c4 : w.cell? ⟨g, 4, none⟩ = some (.int .i64 sz)
  c8 : w.cell? ⟨g, 8, none⟩ = some sv
theorem Rec.later {w w' : World} {g : Nat} {k : Int} {t : Bool} {pv : Value} {gi sz : Int} {sv : Value} {N : Nat} (h : Rec w g k t pv gi sz sv) (hb : Below N w w') (hg : g < N) : Rec w' g k t pv gi sz sv :=
  ⟨(hb.cell hg).trans h.c0, (hb.cell hg).trans h.c1, (hb.cell hg).trans h.c2, (hb.cell hg).trans h.c3, (hb.cell hg).trans h.c4, (hb.cell hg).trans h.c8⟩
def Made9 (w : World) (g : Nat) : Prop :=
    (w.cell? ⟨g, 0, none⟩ = some (.int .i64 0) ∧ w.cell? ⟨g, 1, none⟩ = some (.bool false) ∧ w.cell? ⟨g, 2, none⟩ = some (.slice none 0 0) ∧ w.cell? ⟨g, 3, none⟩ = some (.int .i64 0) ∧ w.cell? ⟨g, 4, none⟩ = some (.int .i64 0) ∧
     w.cell? ⟨g, 5, none⟩ = some (.slice none 0 0) ∧ w.cell? ⟨g, 6, none⟩ = some (.int .i64 0) ∧ w.cell? ⟨g, 7, none⟩ = some (.int .i64 0) ∧ w.cell? ⟨g, 8, none⟩ = some (.slice none 0 0)) ∧ ∀ j, w.frozen? ⟨g, j, none⟩ = false
theorem Made9.later {w w' : World} {g N : Nat} (h : Made9 w g) (hb : Below N w w') (hg : g < N) : Made9 w' g :=
  ⟨⟨(hb.cell hg).trans h.1.1, (hb.cell hg).trans h.1.2.1, (hb.cell hg).trans h.1.2.2.1, (hb.cell hg).trans h.1.2.2.2.1, (hb.cell hg).trans h.1.2.2.2.2.1, (hb.cell hg).trans h.1.2.2.2.2.2.1, (hb.cell hg).trans h.1.2.2.2.2.2.2.1, (hb.cell hg).trans h.1.2.2.2.2.2.2.2.1, (hb.cell hg).trans h.1.2.2.2.2.2.2.2.2⟩,
    fun j => (hb.frozen hg).trans (h.2 j)⟩
theorem made9 {w : World} {g cap : Nat} {e : TypeId} (h : w.ownsRow g e 9 (.slice (some ⟨g, 0, none⟩) 1 cap) 1 (madeCells zRecipe.cells (1 * 9)).toList) :
    Made9 w g :=
  ⟨⟨(h.cellAt 0 (by decide)).trans (by kernel_rfl), (h.cellAt 1 (by decide)).trans (by kernel_rfl), (h.cellAt 2 (by decide)).trans (by kernel_rfl), (h.cellAt 3 (by decide)).trans (by kernel_rfl), (h.cellAt 4 (by decide)).trans (by kernel_rfl), (h.cellAt 5 (by decide)).trans (by kernel_rfl), (h.cellAt 6 (by decide)).trans (by kernel_rfl), (h.cellAt 7 (by decide)).trans (by kernel_rfl), (h.cellAt 8 (by decide)).trans (by kernel_rfl)⟩, fun j => h.frozenAt j⟩

def nine (w : World) (g : Nat) (k : Int) (t : Bool) (pv : Value) (gi sz : Int) : World :=
  ((((((((w.setCell ⟨g, 0, none⟩ (.int .i64 k)).setCell ⟨g, 1, none⟩ (.bool t)).setCell ⟨g, 2, none⟩ pv).setCell ⟨g, 3, none⟩ (.int .i64 gi)).setCell ⟨g, 4, none⟩ (.int .i64 sz)).setCell ⟨g, 5, none⟩ (.slice none 0 0)).setCell ⟨g, 6, none⟩ (.int .i64 0)).setCell ⟨g, 7, none⟩ (.int .i64 0)).setCell ⟨g, 8, none⟩ (.slice none 0 0)
theorem nine_rec {w : World} {g : Nat} (h : Made9 w g) (k : Int) (t : Bool) (pv : Value) (gi sz : Int) :
    Rec (nine w g k t pv gi sz) g k t pv gi sz (.slice none 0 0) ∧ (∀ j, (nine w g k t pv gi sz).frozen? ⟨g, j, none⟩ = false) ∧ Below g w (nine w g k t pv gi sz) ∧ (∀ b j, b ≠ g → (nine w g k t pv gi sz).cell? ⟨b, j, none⟩ = w.cell? ⟨b, j, none⟩) := by
  obtain ⟨⟨m0, m1, m2, m3, m4, m5, m6, m7, m8⟩, mz⟩ := h
  have ne : ∀ {i j : Nat}, i ≠ j → (⟨g, i, none⟩ : Addr) ≠ ⟨g, j, none⟩ := fun h e => h (by injection e)
  have o : ∀ (w : World) (i j : Nat) (v : Value), i ≠ j → (w.setCell ⟨g, i, none⟩ v).cell? ⟨g, j, none⟩ = w.cell? ⟨g, j, none⟩ := fun w i j v h => World.cell?_setCell_other _ _ _ _ (ne h)
  refine ⟨⟨?_, ?_, ?_, ?_, ?_, ?_⟩, fun j => ?_, ?_, fun b j hb => ?_⟩
  · unfold nine; rw [o _ 8 0 _ (by decide), o _ 7 0 _ (by decide), o _ 6 0 _ (by decide), o _ 5 0 _ (by decide), o _ 4 0 _ (by decide), o _ 3 0 _ (by decide), o _ 2 0 _ (by decide), o _ 1 0 _ (by decide)]; exact World.cell?_setCell_same _ _ _ m0
  · unfold nine; rw [o _ 8 1 _ (by decide), o _ 7 1 _ (by decide), o _ 6 1 _ (by decide), o _ 5 1 _ (by decide), o _ 4 1 _ (by decide), o _ 3 1 _ (by decide), o _ 2 1 _ (by decide)]; exact World.cell?_setCell_same _ _ _ ((o _ 0 1 _ (by decide)).trans m1)
  · unfold nine; rw [o _ 8 2 _ (by decide), o _ 7 2 _ (by decide), o _ 6 2 _ (by decide), o _ 5 2 _ (by decide), o _ 4 2 _ (by decide), o _ 3 2 _ (by decide)]; exact World.cell?_setCell_same _ _ _ (by rw [o _ 1 2 _ (by decide), o _ 0 2 _ (by decide)]; exact m2)
  · unfold nine; rw [o _ 8 3 _ (by decide), o _ 7 3 _ (by decide), o _ 6 3 _ (by decide), o _ 5 3 _ (by decide), o _ 4 3 _ (by decide)]; exact World.cell?_setCell_same _ _ _ (by rw [o _ 2 3 _ (by decide), o _ 1 3 _ (by decide), o _ 0 3 _ (by decide)]; exact m3)
  · unfold nine; rw [o _ 8 4 _ (by decide), o _ 7 4 _ (by decide), o _ 6 4 _ (by decide), o _ 5 4 _ (by decide)]; exact World.cell?_setCell_same _ _ _ (by rw [o _ 3 4 _ (by decide), o _ 2 4 _ (by decide), o _ 1 4 _ (by decide), o _ 0 4 _ (by decide)]; exact m4)
  · unfold nine; exact World.cell?_setCell_same _ _ _ (by rw [o _ 7 8 _ (by decide), o _ 6 8 _ (by decide), o _ 5 8 _ (by decide), o _ 4 8 _ (by decide), o _ 3 8 _ (by decide), o _ 2 8 _ (by decide), o _ 1 8 _ (by decide), o _ 0 8 _ (by decide)]; exact m8)
  · unfold nine; simpa using mz j
  · unfold nine; exact ((((((((((Below.refl g w).setCell (p := ⟨g, 0, none⟩) (Nat.le_refl _) _).setCell (p := ⟨g, 1, none⟩) (Nat.le_refl _) _).setCell (p := ⟨g, 2, none⟩) (Nat.le_refl _) _).setCell (p := ⟨g, 3, none⟩) (Nat.le_refl _) _).setCell (p := ⟨g, 4, none⟩) (Nat.le_refl _) _).setCell (p := ⟨g, 5, none⟩) (Nat.le_refl _) _).setCell (p := ⟨g, 6, none⟩) (Nat.le_refl _) _).setCell (p := ⟨g, 7, none⟩) (Nat.le_refl _) _).setCell (p := ⟨g, 8, none⟩) (Nat.le_refl _) _)
  · have q : ∀ (w : World) (i : Nat) (v : Value), (w.setCell ⟨g, i, none⟩ v).cell? ⟨b, j, none⟩ = w.cell? ⟨b, j, none⟩ := fun w i v => World.cell?_setCell_other _ _ _ _ (fun e => hb (by injection e with e1 _ _; first | exact e1 | exact e1.symm))
    unfold nine; rw [q, q, q, q, q, q, q, q, q]

set_option maxHeartbeats 1600000 in
theorem recipes_nil (p : Option Addr) (cap : Nat) (w : World) :
    Calls Try.prog 38 #[.slice p 0 cap] w fun e w' => (∃ q c, e = .returned (.slice q 0 c)) ∧ Below w.heap.size w w' := by
  obtain ⟨i0, hi, hz0, hz1, hz2⟩ := info_parts info_recipe
  have hz2' : i0.bytes * 0 ≤ 281474976710656 := by omega
  have IZ := Lib.hid (And.intro hi (And.intro hz0 (And.intro hz1 hz2)))
  clear hi hz0 hz1 hz2 hz2'
  go_enter Try.func38, Try.ntmps38
  go_wp2_with (at_make; refine wpList_make_full _ rfl _ _ 73 rfl w.heap.size 93 i0 zRecipe 9 Try.underlying73 IZ.out.1 IZ.out.2.1 IZ.out.2.2.1 .i64 .i64 0 0 0 rfl rfl rfl rfl (by omega) (by decide) (Nat.le_refl _) ?_; intro w1 hown hgr)
  have hB := Lib.hid ((Below.refl w.heap.size w).grown hgr (Nat.le_refl _) (by intro k hk; cases hk))
  clear hown hgr
  go_loopw [14] (fun i wr => i = .int .i64 0 ∧ wr = w1) (fun i _ => 0)
  case atStart => exact ⟨rfl, rfl⟩
  case round =>
    obtain ⟨rfl, rfl⟩ := hrel
    go_wp2_with fail
    go_ret
    exact ⟨⟨_, _, rfl⟩, hB.out⟩
end Go.Proofs.Ytdigkdfkaikagaa
