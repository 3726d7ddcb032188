/- A memory of noughts has no words to tell. -/
import Derived.Test.YtigkjmjkpjjjkaaNT
import Derived.Test.YtigkjmjkpjjjkaaC2
namespace Go.Proofs.Ytigkjmjkpjjjkaa
open Go.RowKit

set_option maxHeartbeats 1600000 in
theorem filled_0 (l : List Rg) (B g : Nat) (w : World) (h : MemIs w B g l (fun _ => 0)) :
    Calls Try.prog 62 #[.pointer (some ⟨g, 0, none⟩)] w fun e w' => e = .returned (.slice none 0 0) ∧ w = w' := by
  have HI := Lib.hid h.isn
  have HM := Lib.hid h
  clear h
  go_enter Try.func62, Try.ntmps62
  go_wp2_with (first | (go_at_call 46; (with_reducible refine HI.out.mono ?_); rintro e w' ⟨rfl, rfl⟩))
  go_loopw [3, 13] (fun x i wr => ∃ k : Nat, i = .int .i64 k ∧ k ≤ 8192 ∧ x = .slice none 0 0 ∧ wr = w) (fun _ i _ => 8192 - (intOf i).toNat)
  case atStart => exact ⟨0, rfl, by omega, rfl, rfl⟩
  case round =>
    obtain ⟨k, rfl, hk, rfl, rfl⟩ := hrel
    by_cases hlt : k < 8192
    · have hc := (HM.out.cell k hlt).1
      have i0 : (0 : Int) ≤ (k : Int) := by omega
      have i1 : (k : Int) < 8192 := by omega
      go_wp2_with fail
      go_roundw
      case rel => exact ⟨k + 1, by go_num, by omega, rfl, trivial⟩
      case measure => simp [intOf]; omega
    · obtain rfl : k = 8192 := by omega
      go_wp2_with fail
      go_ret
      exact ⟨rfl, rfl⟩
set_option maxHeartbeats 800000 in
theorem all_0 (l : List Rg) (B g : Nat) (w : World) (h : MemIs w B g l (fun _ => 0)) :
    Calls Try.prog 42 #[.pointer (some ⟨g, 0, none⟩)] w fun e w' => e = .returned (.func (.func 63) #[] #[.pointer (some ⟨w.heap.size, 0, none⟩)]) ∧ w'.cell? ⟨w.heap.size, 0, none⟩ = some (.slice none 0 0) ∧ Below w.heap.size w w' := by
  have HP := Lib.hid h
  clear h
  go_enter Try.func42, Try.ntmps42
  go_wp2_with fail
  refine (filled_0 l B g w HP.out).mono ?_
  rintro e w' ⟨rfl, rfl⟩
  go_wp2_with fail
  go_ret
  exact ⟨rfl, by simp [go_sem], (Below.refl _ _).alloc (Nat.le_refl _) _⟩
theorem word_0 (a : Nat) : wordAt (fun _ => 0) a = 0 := by
  have : ∀ n a, wordFrom (fun _ => 0) a n = 0 := by
    intro n
    induction n with
    | zero => intro a; rfl
    | succ n ih => intro a; rw [wordFrom, ih]
  exact this 8 a
set_option maxHeartbeats 1600000 in
theorem full_0 (l : List Rg) (B g : Nat) (w : World) (h : RefIs w B g l (fun _ => 0)) :
    Calls Try.prog 52 #[.pointer (some ⟨g, 0, none⟩)] w fun e w' => e = .returned (.slice none 0 0) ∧ w = w' := by
  have HM := Lib.hid h
  clear h
  go_enter Try.func52, Try.ntmps52
  go_wp2_with fail
  go_loopw [3, 4] (fun x i wr => ∃ (k : Nat) (z : Int), i = .int .i64 z ∧ z = 8 * k ∧ k ≤ 8192 ∧ x = .slice none 0 0 ∧ wr = w) (fun _ i _ => 65536 - (intOf i).toNat)
  case atStart => exact ⟨0, 0, rfl, rfl, by omega, rfl, rfl⟩
  case round =>
    obtain ⟨k, z, rfl, hz, hk, rfl, rfl⟩ := hrel
    by_cases hlt : k < 8192
    · have HGt := Lib.hid (get_any l (fun _ => 0) B g (8 * k) wr HM.out (by omega))
      rw [word_0] at HGt
      simp only [Int.natCast_mul, Int.cast_ofNat_Int] at HGt
      rw [← hz] at HGt
      have i1 : z < 65536 := by omega
      have i0 : 0 ≤ z := by omega
      have HZ := Lib.hid hz
      clear hz
      go_wp2_with fail
      refine HGt.out.mono ?_
      rintro e w' ⟨rfl, rfl⟩
      go_wp2_with fail
      go_roundw
      case rel => exact ⟨k + 1, z + 8, rfl, by have := HZ.out; omega, by omega, rfl, trivial⟩
      case measure => simp [intOf]; omega
    · obtain rfl : z = 65536 := by omega
      clear hz
      go_wp2_with fail
      go_ret
      exact ⟨rfl, rfl⟩

theorem range_none2 {α : Type} {F : Fence} {n : Nat} {P : Program} {g : Operand} {ps : Array Tmp} {assign body : Code} {Q : Exit → Act → World → Prop} {a : Act} {w : World}
    (hro : F.round = none) (h1 : 1 ≤ n) {gf : Nat} {lb : Array Value} (hg : a.eval g = .func (.func gf) #[] lb) (hFg : F.fn gf) (eg : ∀ args w, (callFunc gf args).run P w = .ok (.enter gf args) w)
    {encs : α → Array Value} {n₀ : Nat} (hn : n₀ ≤ w.heap.size) (hseq : SeqStopsK F (n - 1) P gf lb encs (Below n₀) (fun xs => xs = []) (fun _ => False) 0 w) (hps : ∀ x, (encs x).size = ps.size)
    (I : World → Prop) (hI : OwnFrom w.heap.size (fun (_ : List α) W => I W)) (h0 : I w) (a₁ : α → Act)
    (hassign : ∀ (l : Nat) (x : α) (W : World) (K : Act → World → Prop), K (a₁ x) W → assign.wpIn (F.inRound l) (n - 1 - 1) P (Exit.then K (fun _ _ _ => False)) { tmps := (ps.zip (encs x)).foldl (fun t (p, v) => t.setIfInBounds p v) a.tmps, defers := [] } W)
    (hdone : ∀ (D : Nat) (W : World), w.heap.size ≤ D → I W → W.heap[D]? = some (.deferred (some [])) → Q .normal { a with defers := { target := .collected D, args := #[] } :: a.defers } W) :
    (Code.rangeFunc g ps assign body).wpIn F n P Q a w :=
  wpIn_rangeFunc_ownF hro h1 hg hFg eg hseq belowK_t (belowK_b hn) (Below.refl _ _) hps (fun _ W => I W) (fun _ _ _ => False) hI (fun _ _ _ _ _ hs _ _ => hs) h0
    a₁ hassign (fun _ _ _ _ _ h => absurd h (Nat.not_lt_zero _)) (fun D _ W hD _ hi hK => hdone D W hD hi hK) (fun _ _ _ _ _ _ h _ => h.elim)

attribute [local go_sem] Oper.semAt_some
set_option maxRecDepth 100000 in
set_option maxHeartbeats 3200000 in
theorem once_0 (l k : List Rg) (B g B2 g2 : Nat) (w : World) (h : MemIs w B g l (fun _ => 0)) (h2 : RefIs w B2 g2 k (fun _ => 0)) :
    Calls Try.prog 24 #[.pointer (some ⟨g, 0, none⟩), .pointer (some ⟨g2, 0, none⟩), .int .i64 0] w fun e w' => e = .returned (.bool true) ∧ Below w.heap.size w w' := by
  have HM := Lib.hid h
  have HR := Lib.hid h2
  clear h h2
  refine (callsIn_wide (n := 4)).1 ?_
  refine callsIn_of_wp_marks Try.func24 rfl trivial ?_ rfl
  simp only [Try.ntmps24, List.size_toArray, List.length_cons, List.length_nil, Nat.reduceAdd, Nat.reduceSub, Array.replicate_succ, Array.replicate_zero, List.push_toArray, List.append_toArray, List.nil_append, List.cons_append]
  gi_wp2_with fail
  obtain ⟨W0, hW0⟩ : ∃ W0, ((((w.alloc (.cells #[.pointer (some ⟨g2, 0, none⟩)] 31 (0, 0))).alloc (.cells #[.int .i64 0] 3 (0, 0))).alloc (.cells #[.bool false] 4 (0, 0))).alloc (.cells #[.int .i64 0] 3 (0, 0))) = W0 := ⟨_, rfl⟩
  have c0 : W0.cell? ⟨w.heap.size, 0, none⟩ = some (.pointer (some ⟨g2, 0, none⟩)) := by rw [← hW0]; simp [go_sem]
  have c2 : W0.cell? ⟨w.heap.size + 2, 0, none⟩ = some (.bool false) := by rw [← hW0]; simp [go_sem]
  have z2 : W0.frozen? ⟨w.heap.size + 2, 0, none⟩ = false := by rw [← hW0]; simp [go_sem]
  have c3 : W0.cell? ⟨w.heap.size + 3, 0, none⟩ = some (.int .i64 0) := by rw [← hW0]; simp [go_sem]
  have hs0 : W0.heap.size = w.heap.size + 4 := by rw [← hW0]; simp
  have HB0 := Lib.hid (show Below w.heap.size w W0 by rw [← hW0]; exact ((((Below.refl _ w).alloc (Nat.le_refl _) _).alloc (by simp) _).alloc (by simp; omega) _).alloc (by simp; omega) _)
  have HS0 := Lib.hid hs0
  rw [hW0]
  clear hW0 hs0
  refine ⟨trivial, ?_⟩
  refine (callsIn_wide.2 (all_0 l B g W0 (HM.out.later HB0.out))).mono ?_
  rintro e w1 ⟨rfl, hc1, hB1⟩
  have q0 : ∀ (q : Addr) (w : World), (binOp .eql 80 (.func (.func 63) #[] #[.pointer (some q)]) .nilFunc).run Try.prog w = .ok (.bool false) w := fun _ _ => by kernel_rfl
  have d0 := (hB1.cell (p := ⟨w.heap.size, 0, none⟩) (by show w.heap.size < _; have := HS0.out; omega)).trans c0
  have d2 := (hB1.cell (p := ⟨w.heap.size + 2, 0, none⟩) (by show w.heap.size + 2 < _; have := HS0.out; omega)).trans c2
  have y2 := (hB1.frozen (p := ⟨w.heap.size + 2, 0, none⟩) (by show w.heap.size + 2 < _; have := HS0.out; omega)).trans z2
  have d3 := (hB1.cell (p := ⟨w.heap.size + 3, 0, none⟩) (by show w.heap.size + 3 < _; have := HS0.out; omega)).trans c3
  have HC1 := Lib.hid hc1
  have HB1 := Lib.hid (HB0.out.trans (hB1.mono HB0.out.size))
  have hz1 : W0.heap.size < w1.heap.size := World.block_lt_of_cell? w1 _ hc1
  have D := Lib.hid (And.intro d2 (And.intro y2 d3))
  clear hc1 hB1 c0 c2 z2 c3 d2 y2 d3
  gi_wp2_with fail
  refine ⟨trivial, ?_⟩
  refine (callsIn_wide.2 (full_0 k B2 g2 w1 (HR.out.later HB1.out))).mono ?_
  rintro e w' ⟨rfl, rfl⟩
  gi_wp2_with fail
  obtain ⟨w2, hw2⟩ : ∃ w2, w1.alloc (.cells #[.slice none 0 0] 59 (0, 0)) = w2 := ⟨_, rfl⟩
  have hz2 : w2.heap.size = w1.heap.size + 1 := by rw [← hw2]; simp
  have HB2 := Lib.hid (show Below w.heap.size w w2 by rw [← hw2]; exact HB1.out.alloc HB1.out.size _)
  have hb12 : Below w1.heap.size w1 w2 := by rw [← hw2]; exact (Below.refl _ _).alloc (Nat.le_refl _) _
  have hsz := HS0.out
  have e2 := (hb12.cell (p := ⟨w.heap.size + 2, 0, none⟩) (by show w.heap.size + 2 < w1.heap.size; omega)).trans D.out.1
  have x2 := (hb12.frozen (p := ⟨w.heap.size + 2, 0, none⟩) (by show w.heap.size + 2 < w1.heap.size; omega)).trans D.out.2.1
  have e3 := (hb12.cell (p := ⟨w.heap.size + 3, 0, none⟩) (by show w.heap.size + 3 < w1.heap.size; omega)).trans D.out.2.2
  have ec := (hb12.cell (p := ⟨W0.heap.size, 0, none⟩) hz1).trans HC1.out
  have e9 : w2.cell? ⟨w1.heap.size, 0, none⟩ = some (.slice none 0 0) := by rw [← hw2]; simp [go_sem]
  rw [hw2]
  have HI := Lib.hid (show (w2.cell? ⟨w.heap.size + 3, 0, none⟩ = some (.int .i64 0) ∧ w2.cell? ⟨w1.heap.size, 0, none⟩ = some (.slice none 0 0) ∧ w2.cell? ⟨w.heap.size + 2, 0, none⟩ = some (.bool false) ∧ w2.frozen? ⟨w.heap.size + 2, 0, none⟩ = false) ∧ Below w.heap.size w w2 from ⟨⟨e3, e9, e2, x2⟩, HB2.out⟩)
  have hlt : W0.heap.size < w2.heap.size := by omega
  have hn0 : W0.heap.size ≤ w2.heap.size := by omega
  have hwz : w.heap.size ≤ w2.heap.size := HB2.out.size
  clear hw2 hb12 e2 x2 e3 e9 hz2 d0 D HB1 HS0
  refine range_none2 (α := Nat × Nat) rfl (by omega) (gf := 63) (lb := #[.pointer (some ⟨W0.heap.size, 0, none⟩)]) rfl trivial (enters_of Try.func63 (by kernel_rfl) rfl) (n₀ := W0.heap.size) hn0
    (all1_nil Fence.wide _ trivial rfl W0.heap.size w2 ec hlt) (fun _ => rfl)
    (fun W => (W.cell? ⟨w.heap.size + 3, 0, none⟩ = some (.int .i64 0) ∧ W.cell? ⟨w1.heap.size, 0, none⟩ = some (.slice none 0 0) ∧ W.cell? ⟨w.heap.size + 2, 0, none⟩ = some (.bool false) ∧ W.frozen? ⟨w.heap.size + 2, 0, none⟩ = false) ∧ Below w.heap.size w W)
    (OwnFrom.and (fun s A B row hs hg hr => ⟨cell_kept hs.1 hg (fun r e => (hr r e).2), cell_kept hs.2.1 hg (fun r e => (hr r e).2), cell_kept hs.2.2.1 hg (fun r e => (hr r e).2), (frozen_kept hs.2.2.1 hg (fun r e => (hr r e).2)).trans hs.2.2.2⟩) (ownFrom_below (Nat.le_refl _) hwz))
    HI.out ?_ ?_ ?_
  rotate_left
  · intro l x W K hK
    gi_wp2
    exact hK
  · rintro D W hD ⟨⟨h3, h9, h2, y2⟩, hB⟩ hK
    have HBW := Lib.hid hB
    have HKD := Lib.hid hK
    have HH := Lib.hid h2
    have hne : w.heap.size + 2 ≠ D := by omega
    clear hB hK
    gi_wp2_with fail
    have hK' : (W.setCell ⟨w.heap.size + 2, 0, none⟩ (.bool true)).heap[D]? = some (.deferred (some [])) := (Below.heap_setCell W _ _ D (Ne.symm hne)).trans HKD.out
    have hc' : (W.setCell ⟨w.heap.size + 2, 0, none⟩ (.bool true)).cell? ⟨w.heap.size + 2, 0, none⟩ = some (.bool true) := World.cell?_setCell_same _ _ _ HH.out
    have hc2 := cell_kept hc' (grownBy_putObj' _ D (.deferred none)) (fun r e => by cases e; exact ⟨_, hK', rfl⟩)
    have hwW := HBW.out.size
    have hBs := Lib.hid (HBW.out.setCell (p := ⟨w.heap.size + 2, 0, none⟩) (by show w.heap.size ≤ w.heap.size + 2; omega) (.bool true))
    have hDs : D < (W.setCell ⟨w.heap.size + 2, 0, none⟩ (.bool true)).heap.size := (Array.getElem?_eq_some_iff.1 hK').1
    refine ⟨by simp, .inl ⟨_, _, rfl, run_takeDeferred hK', ?_⟩⟩
    refine ⟨.bool true, ?_, rfl, hBs.out.trans (belowK_b (w := w) (Nat.le_refl _) _ D _ _ (by omega) hK' rfl rfl)⟩
    simp [results, Try.results24, go_sem, hc2]
end Go.Proofs.Ytigkjmjkpjjjkaa
