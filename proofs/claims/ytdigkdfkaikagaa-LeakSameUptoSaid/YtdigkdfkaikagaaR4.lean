/- Rewriting the chapter's rows: the recipes of the second row. -/
import Derived.Test.YtdigkdfkaikagaaR3
import Derived.Deep.CutRange
namespace Go.Proofs.Ytdigkdfkaikagaa
open Go.RowKit

set_option maxHeartbeats 1600000 in
theorem recipes_A (p : Option Addr) (cap N : Nat) (w : World) (h : tfA.In w N p) (hN : N ≤ w.heap.size) :
    Calls Try.prog 38 #[.slice p 1 cap] w fun e w' => ∃ c2, e = .returned (.slice (some ⟨w.heap.size, 0, none⟩) 1 c2) ∧ Below w.heap.size w w' ∧ ∃ q c, Sl N q 1 (Plines w N [[pkA]]) ∧ Rec w' w.heap.size 2 false (.slice q 1 c) 0 2 (.slice none 0 0) := by
  obtain ⟨i0, hi, hz0, hz1, hz2⟩ := info_parts info_recipe
  have IZ := Lib.hid (And.intro hi (And.intro hz0 (And.intro hz1 hz2)))
  have hb2 : i0.bytes * 1 ≤ 281474976710656 := by omega
  have IB := Lib.hid hb2
  clear hi hz0 hz1 hz2 hb2
  obtain ⟨hm, h | ⟨b, o, rfl, hb, ha⟩⟩ := h
  · simp [tfA, Tf.len] at h
  obtain ⟨g0, ⟨q, c, g1, s1⟩, g2, ⟨q3, d, g3, s3⟩, _⟩ := ha
  go_enter Try.func38, Try.ntmps38
  go_wp2_with (at_make; refine wpList_make_full _ rfl _ _ 73 rfl w.heap.size 93 i0 zRecipe 9 Try.underlying73 IZ.out.1 IZ.out.2.1 IZ.out.2.2.1 .i64 .i64 1 1 1 rfl rfl rfl rfl IB.out (by decide) (Nat.le_refl _) ?_; intro w1 hown hgr)
  have hB := (Below.refl w.heap.size w).grown hgr (Nat.le_refl _) (by intro k hk; cases hk)
  have HB := Lib.hid hB
  have f0 := (hB.cell (show b < w.heap.size by omega)).trans g0
  have f1 := (hB.cell (show b < w.heap.size by omega)).trans g1
  have f2 := (hB.cell (show b < w.heap.size by omega)).trans g2
  have f3 := (hB.cell (show b < w.heap.size by omega)).trans g3
  have HO := Lib.hid hown
  clear hB g0 g1 g2 g3 hown hgr
  have HLn := Lib.hid (fun (w2 : World) (hb2 : Below w.heap.size w w2) => linesOf_any [[pkA]] q c N w2 (s1.imp (Nat.le_refl _) fun b' o' hb' ha' => Plines.later (hb2.mono hN) (Nat.le_refl _) _ _ _ hb' ha') (Nat.le_trans hN hb2.size) (by decide))
  have S1 := Lib.hid s1
  clear s1 s3
  go_loopw [14] (fun i wr => (i = .int .i64 0 ∧ Hid (wr = w1)) ∨ (i = .int .i64 1 ∧ Hid (Below w.heap.size w wr ∧ Rec wr w.heap.size 2 false (.slice q 1 c) 0 2 (.slice none 0 0)))) (fun i _ => 1 - (intOf i).toNat)
  case atStart => exact .inl ⟨rfl, Lib.hid rfl⟩
  case round =>
    rcases hrel with ⟨rfl, hw⟩ | ⟨rfl, hR⟩
    · obtain rfl := hw.out
      have hsw : w.heap.size < wr.heap.size := by have := World.block_lt_of_cell? _ _ (made9 HO.out).1.1; exact this
      have HD := Lib.hid (fun (o : Obj) => (HB.out.alloc HB.out.size o).drew)
      have HM := Lib.hid (show ∀ (n3 : Nat) (w2 : World), Below (wr.alloc (Obj.cells #[.int .i64 2, .slice q 1 c, .bool false, .slice q3 n3 d] 37)).heap.size (wr.alloc (Obj.cells #[.int .i64 2, .slice q 1 c, .bool false, .slice q3 n3 d] 37)).drew w2 →
          Made9 w2 w.heap.size ∧ (w2.cell? ⟨wr.heap.size, 0, none⟩ = some (.int .i64 2) ∧ w2.cell? ⟨wr.heap.size, 2, none⟩ = some (.bool false) ∧ w2.cell? ⟨wr.heap.size, 3, none⟩ = some (.slice q3 n3 d)) from fun n3 w2 hb2 =>
        ⟨(((made9 HO.out).later ((Below.refl wr.heap.size wr).alloc (Nat.le_refl _) _) hsw).later ((Below.refl _ _).drew.trans hb2) (by simp; omega)),
         (hb2.cell (by simp)).trans (by simp [go_sem]), (hb2.cell (by simp)).trans (by simp [go_sem]), (hb2.cell (by simp)).trans (by simp [go_sem])⟩)
      clear hw
      go_wp2_with fail
      go_cut [] from 19 to 29 (fun wx => Hid (Below w.heap.size w wx ∧ Rec wx w.heap.size 2 false (.slice q 1 c) 0 2 (.slice none 0 0) ∧ (∀ j, wx.frozen? ⟨w.heap.size, j, none⟩ = false) ∧ wx.cell? ⟨wr.heap.size, 0, none⟩ = some (.int .i64 2) ∧ wx.cell? ⟨wr.heap.size, 3, none⟩ = some (.slice q3 Ts.nil.len d)))
      case first =>
        go_region_with (go_at_call 64; refine (HLn.out _ (HD.out _)).mono ?_; rintro e w2 ⟨rfl, hB2⟩; obtain ⟨⟨⟨m0, m1, m2, m3, m4, m5, m6, m7, m8⟩, mz⟩, x0, x2, x3⟩ := HM.out _ _ hB2; have z0 := mz 0; have z1 := mz 1; have z2 := mz 2; have z3 := mz 3; have z4 := mz 4; have z5 := mz 5; have z6 := mz 6; have z7 := mz 7; have z8 := mz 8; clear mz)
        all_goals
          show Exit.then _ _ _ _ (nine w2 w.heap.size 2 false (.slice q 1 c) (greatestL [[pkA]]) (linesW [[pkA]] : Int))
          obtain ⟨hr, hz, hb, ho⟩ := nine_rec (HM.out _ _ hB2).1 2 false (.slice q 1 c) (greatestL [[pkA]]) (linesW [[pkA]] : Int)
          have x0' := (ho wr.heap.size 0 (by omega)).trans x0
          have x3' := (ho wr.heap.size 3 (by omega)).trans x3
          have HBN := Lib.hid ((HD.out _).trans ((hB2.mono (by simp; omega)).trans hb))
          have HRN := Lib.hid hr
          have HZN := Lib.hid hz
          clear hr hz hb ho x0 x2 x3 m0 m1 m2 m3 m4 m5 m6 m7 m8 z0 z1 z2 z3 z4 z5 z6 z7 z8 hB2
          have hl0 : Ts.nil.len = 0 := rfl
          generalize nine w2 w.heap.size 2 false (.slice q 1 c) (greatestL [[pkA]]) (linesW [[pkA]] : Int) = wN at x0' x3' HBN HRN HZN ⊢
          go_wp2_with fail
          go_meet
          exact Lib.hid ⟨HBN.out, by have h := HRN.out; rw [show greatestL [[pkA]] = 0 by decide, show linesW [[pkA]] = 2 by decide] at h; exact h, HZN.out, x0', x3'⟩
      case rest =>
        have HBN := Lib.hid hcut.out.1
        have HRN := Lib.hid hcut.out.2.1
        have HZN := Lib.hid hcut.out.2.2.1
        have x0' := hcut.out.2.2.2.1
        have x3' := hcut.out.2.2.2.2
        have hl0 : Ts.nil.len = 0 := rfl
        go_wp2_with fail
        go_loopw [48] (fun i wr => i = .int .i64 0 ∧ wr = wc) (fun i _ => 0)
        case atStart => exact ⟨rfl, rfl⟩
        case round =>
          obtain ⟨rfl, rfl⟩ := hrel
          go_wp2_with fail
          go_roundw
          case rel => exact .inr ⟨by go_num, Lib.hid ⟨HBN.out, HRN.out⟩⟩
          case measure => simp [intOf]
    · go_wp2_with fail
      go_ret
      exact ⟨_, rfl, hR.out.1, q, c, S1.out, hR.out.2⟩
end Go.Proofs.Ytdigkdfkaikagaa
