/- R8, R9, RA, R4, RB as one. -/
import Derived.Test.YtcadeeldogknmaaR7
import Derived.Test.YtcadeeldogknmaaC1
import Derived.StillTailTactics
import Derived.Test.YtcadeeldogknmaaR3
import Derived.Deep.CutRange
import Derived.Test.YtcadeeldogknmaaR5
/- Rewriting the chapter's rows: lists. -/
namespace Go.Proofs.Ytcadeeldogknmaa
open Go.RowKit

set_option maxRecDepth 100000 in
set_option maxHeartbeats 3200000 in
theorem onlyLines_A (g m N gr bl ol : Nat) (q : Option Addr) (c b o c2 : Nat) (br : Bool) (sv : Value) (w : World) (hr : RwAt w g 1000 m 0) (hN : N ≤ g) (hb : b < N) (h : w.cell? ⟨b, o, none⟩ = some (.int .u64 2)) (hp : PickA w N q)
    (hrec : Rec w gr 2 false (.slice q 1 c) 0 2 sv) (h1 : w.cell? ⟨bl, ol + 1, none⟩ = some (.slice (some ⟨b, o, none⟩) 1 c2)) :
    Calls Try.prog 37 #[.pointer (some ⟨g, 0, none⟩), .slice none 0 0, .pointer (some ⟨gr, 0, none⟩), .pointer (some ⟨bl, ol, none⟩), .bool br] w fun e w' =>
      (∃ v, e = .returned v ∧ ∃ b2 cc, v = .slice (some ⟨b2, 0, none⟩) 1 cc ∧ (Lf.node 1 [1116] false .nil .nil).In w' w'.heap.size (some ⟨b2, 0, none⟩)) ∧ OnlyG g w w' ∧ RwAt w' g 1000 m 2 := by
  obtain ⟨c0, c1, d2, d3, d4, _⟩ := hrec
  have HL := Lib.hid (fun (w1 : World) (hb1 : Below w.heap.size w w1) => lay_A g m N q c b o c2 w1 (hr.later hb1 hr.lt) hN hb ((hb1.cell (World.block_lt_of_cell? _ _ h)).trans h) (hp.imp (Nat.le_refl _) fun b' o' hb' ha' => Plines.later (hb1.mono (Nat.le_trans hN (Nat.le_of_lt hr.lt))) (Nat.le_refl _) _ _ _ hb' ha'))
  have HBd := Lib.hid (Below.refl w.heap.size w).drew
  have HBe := Lib.hid (Below.refl w.heap.size w)
  have hgl := hr.lt
  clear hr h hp
  go_enter Try.func37, Try.ntmps37
  go_wp2_with fail
  go_region_with (go_at_call 57; refine (HL.out _ (by first | exact HBd.out | exact HBe.out)).mono ?_; rintro e w' ⟨⟨v, rfl, hv⟩, hB, hR⟩)
  all_goals go_wp2_with fail
  all_goals go_ret
  all_goals exact ⟨⟨_, rfl, hv⟩, OnlyG.after HBd.out (Nat.le_of_lt hgl) hB, hR⟩
end Go.Proofs.Ytcadeeldogknmaa
/- Rewriting the chapter's rows: lists, and the closure that rewrites. -/
namespace Go.Proofs.Ytcadeeldogknmaa
open Go.RowKit

set_option maxRecDepth 100000 in
set_option maxHeartbeats 3200000 in
theorem list_A (g m N gr c9 bl ol cl : Nat) (q : Option Addr) (c b o c2 : Nat) (sv : Value) (w : World) (hr : RwAt w g 1000 m 0) (hN : N ≤ g) (hb : b < N) (h : w.cell? ⟨b, o, none⟩ = some (.int .u64 2)) (hp : PickA w N q)
    (hrec : Rec w gr 2 false (.slice q 1 c) 0 2 sv) (h1 : w.cell? ⟨bl, ol + 1, none⟩ = some (.slice (some ⟨b, o, none⟩) 1 c2)) (hm : w.heap[m]? = some (fmap deedT)) :
    Calls Try.prog 24 #[.pointer (some ⟨g, 0, none⟩), .slice none 0 0, .slice (some ⟨gr, 0, none⟩) 1 c9, .slice (some ⟨bl, ol, none⟩) 1 cl, .bool false] w fun e w' =>
      (∃ v, e = .returned v ∧ ∃ b2 cc, v = .slice (some ⟨b2, 0, none⟩) 1 cc ∧ (Lf.node 1 [1116] false .nil .nil).In w' w'.heap.size (some ⟨b2, 0, none⟩)) ∧ OnlyG g w w' ∧ RwAt w' g 1000 m 2 := by
  have HL := Lib.hid (fun (w1 : World) (hb1 : Below w.heap.size w w1) => onlyLines_A g m N gr bl ol q c b o c2 false sv w1 (hr.later hb1 hr.lt) hN hb ((hb1.cell (World.block_lt_of_cell? _ _ h)).trans h) (hp.imp (Nat.le_refl _) fun b' o' hb' ha' => Plines.later (hb1.mono (Nat.le_trans hN (Nat.le_of_lt hr.lt))) (Nat.le_refl _) _ _ _ hb' ha') (hrec.later hb1 (World.block_lt_of_cell? _ _ hrec.c0)) ((hb1.cell (World.block_lt_of_cell? _ _ h1)).trans h1))
  have HM := Lib.hid (asMany_same 1 false w)
  have hlk := run_look1_fmap Try.underlying61 Try.underlying34 deed_zero deedT hm 2
  have hlk2 := run_look1_fmap Try.underlying61 Try.underlying34 deed_zero deedT (w := w.drew) hm 2
  have hlk3 := run_look1_fmap Try.underlying61 Try.underlying34 deed_zero deedT (w := { heap := w.heap, tape := w.tape, drawn := w.drawn + 1, os := w.os, output := w.output }) hm 2
  simp only [show fval deedT 2 = .func (.func 37) #[] #[] from rfl] at hlk hlk2 hlk3
  have hgl := hr.lt
  obtain ⟨c0, c1, c2', z2⟩ := hr
  obtain ⟨d0, d1, d2, d3, d4, d8⟩ := hrec
  clear h hp h1 hm
  go_enter Try.func24, Try.ntmps24
  go_wp2_with (go_at_call 46; refine HM.out.mono ?_; rintro e w' ⟨rfl, rfl⟩)
  go_loopw [1, 20] (fun v i wr => (v = .slice none 0 0 ∧ i = .int .i64 0 ∧ Hid (wr = w)) ∨ (i = .int .i64 1 ∧ Hid ((∃ b2 cc, v = .slice (some ⟨b2, 0, none⟩) 1 cc ∧ (Lf.node 1 [1116] false .nil .nil).In wr wr.heap.size (some ⟨b2, 0, none⟩)) ∧ OnlyG g w wr ∧ RwAt wr g 1000 m 2)))
      (fun _ i _ => 1 - (intOf i).toNat)
  case atStart => exact .inl ⟨rfl, rfl, Lib.hid rfl⟩
  case round =>
    rcases hrel with ⟨rfl, rfl, hw⟩ | ⟨rfl, hF⟩
    · obtain rfl := hw.out
      clear hw HM
      go_wp2_with fail
      go_still_tail 26, (by kernel_rfl)
      change wpList _ _ _ _ _ wr.drew
      go_wp2_with (go_at_call 37; refine (HL.out _ (Below.refl _ _).drew).mono ?_; rintro e w' ⟨⟨v, rfl, ⟨b2, cc, rfl, hin⟩⟩, hB, hR⟩; have HF := Lib.hid (And.intro hin (And.intro hB hR)); clear hin hB hR)
      all_goals go_roundw
      all_goals first
        | (simp [intOf]; done)
        | exact .inr ⟨by go_num, Lib.hid ⟨⟨_, _, rfl, HF.out.1⟩, OnlyG.after (Below.refl _ _).drew (Nat.le_of_lt hgl) HF.out.2.1, HF.out.2.2⟩⟩
    · obtain ⟨⟨b2, cc, rfl, hin⟩, hb9, hr9⟩ := hF.out
      clear hF
      go_wp2_with fail
      go_ret
      exact ⟨⟨_, rfl, b2, cc, rfl, hin⟩, hb9, hr9⟩
end Go.Proofs.Ytcadeeldogknmaa
/- Rewriting the chapter's rows: lists, and the closure that rewrites. -/
namespace Go.Proofs.Ytcadeeldogknmaa
open Go.RowKit

set_option maxRecDepth 100000 in
set_option maxHeartbeats 3200000 in
theorem list_B (g m gr c9 bl ol cl : Nat) (st laid : Int) (pv : Value) (gi sz : Int) (sv : Value) (w : World) (hr : RwAt w g st m laid)
    (hrec : Rec w gr 4 true pv gi sz sv) (h0 : w.cell? ⟨bl, ol, none⟩ = some (.int .i64 2)) (h2 : w.cell? ⟨bl, ol + 2, none⟩ = some (.bool false)) (hm : w.heap[m]? = some (fmap deedT)) :
    Calls Try.prog 24 #[.pointer (some ⟨g, 0, none⟩), .slice none 0 0, .slice (some ⟨gr, 0, none⟩) 1 c9, .slice (some ⟨bl, ol, none⟩) 1 cl, .bool false] w fun e w' => e = panicked 2 ∧ Below w.heap.size w w' := by
  have HL := Lib.hid (fun (w1 : World) (hb1 : Below w.heap.size w w1) => way_B g m gr bl ol none 0 0 false (.slice none 0 0) pv gi sz sv w1 (hrec.later hb1 (World.block_lt_of_cell? _ _ hrec.c0)) ((hb1.cell (World.block_lt_of_cell? _ _ h0)).trans h0) ((hb1.cell (World.block_lt_of_cell? _ _ h2)).trans h2))
  have HM := Lib.hid (asMany_same 1 false w)
  have hlk := run_look1_fmap Try.underlying61 Try.underlying34 deed_zero deedT hm 4
  have hlk2 := run_look1_fmap Try.underlying61 Try.underlying34 deed_zero deedT (w := w.drew) hm 4
  have hlk3 := run_look1_fmap Try.underlying61 Try.underlying34 deed_zero deedT (w := { heap := w.heap, tape := w.tape, drawn := w.drawn + 1, os := w.os, output := w.output }) hm 4
  simp only [show fval deedT 4 = .func (.func 39) #[] #[] from rfl] at hlk hlk2 hlk3
  obtain ⟨c0, c1, c2', z2⟩ := hr
  obtain ⟨d0, d1, d2, d3, d4, d8⟩ := hrec
  clear h0 h2 hm
  go_enter Try.func24, Try.ntmps24
  go_wp2_with (go_at_call 46; refine HM.out.mono ?_; rintro e w' ⟨rfl, rfl⟩)
  go_loopw [1, 20] (fun v i wr => v = .slice none 0 0 ∧ i = .int .i64 0 ∧ Hid (wr = w)) (fun _ i _ => 1 - (intOf i).toNat)
  case atStart => exact ⟨rfl, rfl, Lib.hid rfl⟩
  case round =>
    obtain ⟨rfl, rfl, hw⟩ := hrel
    obtain rfl := hw.out
    clear hw HM
    go_wp2_with fail
    go_still_tail 26, (by kernel_rfl)
    change wpList _ _ _ _ _ wr.drew
    go_wp2_with (go_at_call 39; refine (HL.out _ (Below.refl _ _).drew).mono ?_; rintro e w' ⟨rfl, hB⟩)
    exact ⟨rfl, rfl, (Below.refl _ _).drew.trans hB⟩
end Go.Proofs.Ytcadeeldogknmaa
/- Rewriting the chapter's rows: the recipes of the second row. -/
namespace Go.Proofs.Ytcadeeldogknmaa
open Go.RowKit

set_option maxHeartbeats 1600000 in
theorem recipes_A (p : Option Addr) (cap N : Nat) (w : World) (h : tfA.In w N p) (hN : N ≤ w.heap.size) :
    Calls Try.prog 25 #[.slice p 1 cap] w fun e w' => ∃ c2, e = .returned (.slice (some ⟨w.heap.size, 0, none⟩) 1 c2) ∧ Below w.heap.size w w' ∧ ∃ q c, Sl N q 1 (Plines w N [[pkA]]) ∧ Rec w' w.heap.size 2 false (.slice q 1 c) 0 2 (.slice none 0 0) := by
  obtain ⟨i0, hi, hz0, hz1, hz2⟩ := info_parts info_recipe
  have IZ := Lib.hid (And.intro hi (And.intro hz0 (And.intro hz1 hz2)))
  have hb2 : i0.bytes * 1 ≤ 281474976710656 := by omega
  have IB := Lib.hid hb2
  clear hi hz0 hz1 hz2 hb2
  obtain ⟨hm, h | ⟨b, o, rfl, hb, ha⟩⟩ := h
  · simp [tfA, Tf.len] at h
  obtain ⟨g0, ⟨q, c, g1, s1⟩, g2, ⟨q3, d, g3, s3⟩, _⟩ := ha
  go_enter Try.func25, Try.ntmps25
  go_wp2_with (at_make; refine wpList_make_full _ rfl _ _ 67 rfl w.heap.size 86 i0 zRecipe 9 Try.underlying67 IZ.out.1 IZ.out.2.1 IZ.out.2.2.1 .i64 .i64 1 1 1 rfl rfl rfl rfl IB.out (by decide) (Nat.le_refl _) ?_; intro w1 hown hgr)
  have hB := (Below.refl w.heap.size w).grown hgr (Nat.le_refl _) (by intro k hk; cases hk)
  have HB := Lib.hid hB
  have f0 := (hB.cell (show b < w.heap.size by omega)).trans g0
  have f1 := (hB.cell (show b < w.heap.size by omega)).trans g1
  have f2 := (hB.cell (show b < w.heap.size by omega)).trans g2
  have f3 := (hB.cell (show b < w.heap.size by omega)).trans g3
  have HO := Lib.hid hown
  clear hB g0 g1 g2 g3 hown hgr
  have HLn := Lib.hid (fun (w2 : World) (hb2 : Below w.heap.size w w2) => linesOf_any [[pkA]] q c N w2 (s1.imp (Nat.le_refl _) fun b' o' hb' ha' => Plines.later (hb2.mono hN) (Nat.le_refl _) _ _ _ hb' ha') (Nat.le_trans hN hb2.size) (by decide))
  have S1 := Lib.hid s1
  clear s1 s3
  go_loopw [14] (fun i wr => (i = .int .i64 0 ∧ Hid (wr = w1)) ∨ (i = .int .i64 1 ∧ Hid (Below w.heap.size w wr ∧ Rec wr w.heap.size 2 false (.slice q 1 c) 0 2 (.slice none 0 0)))) (fun i _ => 1 - (intOf i).toNat)
  case atStart => exact .inl ⟨rfl, Lib.hid rfl⟩
  case round =>
    rcases hrel with ⟨rfl, hw⟩ | ⟨rfl, hR⟩
    · obtain rfl := hw.out
      have hsw : w.heap.size < wr.heap.size := by have := World.block_lt_of_cell? _ _ (made9 HO.out).1.1; exact this
      have HD := Lib.hid (fun (o : Obj) => (HB.out.alloc HB.out.size o).drew)
      have HM := Lib.hid (show ∀ (n3 : Nat) (w2 : World), Below (wr.alloc (Obj.cells #[.int .i64 2, .slice q 1 c, .bool false, .slice q3 n3 d] 37)).heap.size (wr.alloc (Obj.cells #[.int .i64 2, .slice q 1 c, .bool false, .slice q3 n3 d] 37)).drew w2 →
          Made9 w2 w.heap.size ∧ (w2.cell? ⟨wr.heap.size, 0, none⟩ = some (.int .i64 2) ∧ w2.cell? ⟨wr.heap.size, 2, none⟩ = some (.bool false) ∧ w2.cell? ⟨wr.heap.size, 3, none⟩ = some (.slice q3 n3 d)) from fun n3 w2 hb2 =>
        ⟨(((made9 HO.out).later ((Below.refl wr.heap.size wr).alloc (Nat.le_refl _) _) hsw).later ((Below.refl _ _).drew.trans hb2) (by simp; omega)),
         (hb2.cell (by simp)).trans (by simp [go_sem]), (hb2.cell (by simp)).trans (by simp [go_sem]), (hb2.cell (by simp)).trans (by simp [go_sem])⟩)
      clear hw
      go_wp2_with fail
      go_cut [] from 19 to 29 (fun wx => Hid (Below w.heap.size w wx ∧ Rec wx w.heap.size 2 false (.slice q 1 c) 0 2 (.slice none 0 0) ∧ (∀ j, wx.frozen? ⟨w.heap.size, j, none⟩ = false) ∧ wx.cell? ⟨wr.heap.size, 0, none⟩ = some (.int .i64 2) ∧ wx.cell? ⟨wr.heap.size, 3, none⟩ = some (.slice q3 Ts.nil.len d)))
      case first =>
        go_region_with (go_at_call 47; refine (HLn.out _ (HD.out _)).mono ?_; rintro e w2 ⟨rfl, hB2⟩; obtain ⟨⟨⟨m0, m1, m2, m3, m4, m5, m6, m7, m8⟩, mz⟩, x0, x2, x3⟩ := HM.out _ _ hB2; have z0 := mz 0; have z1 := mz 1; have z2 := mz 2; have z3 := mz 3; have z4 := mz 4; have z5 := mz 5; have z6 := mz 6; have z7 := mz 7; have z8 := mz 8; clear mz)
        all_goals
          show Exit.then _ _ _ _ (nine w2 w.heap.size 2 false (.slice q 1 c) (greatestL [[pkA]]) (linesW [[pkA]] : Int))
          obtain ⟨hr, hz, hb, ho⟩ := nine_rec (HM.out _ _ hB2).1 2 false (.slice q 1 c) (greatestL [[pkA]]) (linesW [[pkA]] : Int)
          have x0' := (ho wr.heap.size 0 (by omega)).trans x0
          have x3' := (ho wr.heap.size 3 (by omega)).trans x3
          have HBN := Lib.hid ((HD.out _).trans ((hB2.mono (by simp; omega)).trans hb))
          have HRN := Lib.hid hr
          have HZN := Lib.hid hz
          clear hr hz hb ho x0 x2 x3 m0 m1 m2 m3 m4 m5 m6 m7 m8 z0 z1 z2 z3 z4 z5 z6 z7 z8 hB2
          have hl0 : Ts.nil.len = 0 := rfl
          generalize nine w2 w.heap.size 2 false (.slice q 1 c) (greatestL [[pkA]]) (linesW [[pkA]] : Int) = wN at x0' x3' HBN HRN HZN ⊢
          go_wp2_with fail
          go_meet
          exact Lib.hid ⟨HBN.out, by have h := HRN.out; rw [show greatestL [[pkA]] = 0 by decide, show linesW [[pkA]] = 2 by decide] at h; exact h, HZN.out, x0', x3'⟩
      case rest =>
        have HBN := Lib.hid hcut.out.1
        have HRN := Lib.hid hcut.out.2.1
        have HZN := Lib.hid hcut.out.2.2.1
        have x0' := hcut.out.2.2.2.1
        have x3' := hcut.out.2.2.2.2
        have hl0 : Ts.nil.len = 0 := rfl
        go_wp2_with fail
        go_loopw [48] (fun i wr => i = .int .i64 0 ∧ wr = wc) (fun i _ => 0)
        case atStart => exact ⟨rfl, rfl⟩
        case round =>
          obtain ⟨rfl, rfl⟩ := hrel
          go_wp2_with fail
          go_roundw
          case rel => exact .inr ⟨by go_num, Lib.hid ⟨HBN.out, HRN.out⟩⟩
          case measure => simp [intOf]
    · go_wp2_with fail
      go_ret
      exact ⟨_, rfl, hR.out.1, q, c, S1.out, hR.out.2⟩
end Go.Proofs.Ytcadeeldogknmaa
/- Rewriting the chapter's rows: the closure that rewrites. -/
namespace Go.Proofs.Ytcadeeldogknmaa
open Go.RowKit

set_option maxRecDepth 100000 in
set_option maxHeartbeats 3200000 in
theorem rewrite1_A (g m N bt bk bb bo bl ol cl ct : Nat) (p : Option Addr) (b o c2 : Nat) (w : World) (hr : RwAt w g 1000 m 0) (hm : w.heap[m]? = some (fmap deedT)) (_hmg : m ≠ g) (hN : N ≤ g) (hb : b < N)
    (ht : w.cell? ⟨bt, 0, none⟩ = some (.slice p 1 ct)) (hk : w.cell? ⟨bk, 0, none⟩ = some (.slice (some ⟨bl, ol, none⟩) 1 cl)) (hbb : w.cell? ⟨bb, 0, none⟩ = some (.bool false)) (ho : w.cell? ⟨bo, 0, none⟩ = some (.slice none 0 0)) (hoz : w.frozen? ⟨bo, 0, none⟩ = false) (hog : bo ≠ g)
    (_hbk : bk ≠ g) (_hbbg : bb ≠ g)
    (hT : tfA.In w N p) (h1 : w.cell? ⟨bl, ol + 1, none⟩ = some (.slice (some ⟨b, o, none⟩) 1 c2)) (h : w.cell? ⟨b, o, none⟩ = some (.int .u64 2)) :
    Calls Try.prog 23 #[.pointer (some ⟨g, 0, none⟩), .pointer (some ⟨bt, 0, none⟩), .pointer (some ⟨bk, 0, none⟩), .pointer (some ⟨bb, 0, none⟩), .pointer (some ⟨bo, 0, none⟩)] w fun e w' =>
      e = .returned (.tuple #[]) ∧ ∃ w1 b2 cc, OnlyG g w w1 ∧ RwAt w1 g 1000 m 2 ∧ (Lf.node 1 [1116] false .nil .nil).In w1 w1.heap.size (some ⟨b2, 0, none⟩) ∧ w' = w1.setCell ⟨bo, 0, none⟩ (.slice (some ⟨b2, 0, none⟩) 1 cc) := by
  have hgl := hr.lt
  have HP := Lib.hid (fun (w1 : World) (hb1 : Below w.heap.size w w1) => recipes_A p ct N w1 (Tf.In_later hT hb1 (Nat.le_trans hN (Nat.le_of_lt hgl))) (Nat.le_trans (Nat.le_trans hN (Nat.le_of_lt hgl)) hb1.size))
  have HL := Lib.hid (fun (w1 : World) (hb1 : Below w.heap.size w w1) (gr c9 c cl' : Nat) (q : Option Addr) (sv : Value) (wz : World) (hbz : Below N wz w1) (hs : Sl N q 1 (Plines wz N [[pkA]])) (hrec : Rec w1 gr 2 false (.slice q 1 c) 0 2 sv) =>
    list_A g m N gr c9 bl ol cl' q c b o c2 sv w1 (hr.later hb1 hgl) hN hb ((hb1.cell (World.block_lt_of_cell? _ _ h)).trans h) (hs.imp (Nat.le_refl _) fun b' o' hb' ha' => Plines.later hbz (Nat.le_refl _) _ _ _ hb' ha') hrec ((hb1.cell (World.block_lt_of_cell? _ _ h1)).trans h1)
      ((hb1.block m (by have := (Array.getElem?_eq_some_iff.1 hm).1; exact this)).trans hm))
  have hol : bo < w.heap.size := World.block_lt_of_cell? _ _ ho
  have HK := Lib.hid (fun (w1 : World) (hb1 : Below w.heap.size w w1) => (show w1.cell? ⟨bk, 0, none⟩ = some (.slice (some ⟨bl, ol, none⟩) 1 cl) ∧ w1.cell? ⟨bb, 0, none⟩ = some (.bool false) from ⟨(hb1.cell (World.block_lt_of_cell? _ _ hk)).trans hk, (hb1.cell (World.block_lt_of_cell? _ _ hbb)).trans hbb⟩))
  have HO := Lib.hid (fun (w1 : World) (hb1 : OnlyG g w w1) => (show w1.cell? ⟨bo, 0, none⟩ = some (.slice none 0 0) ∧ w1.frozen? ⟨bo, 0, none⟩ = false from ⟨(hb1.cell hog hol).trans ho, (hb1.frozen hog hol).trans hoz⟩))
  clear hr hm h1 h hT ho hoz
  go_enter Try.func23, Try.ntmps23
  go_wp2_with fail
  have HD := Lib.hid (Below.refl w.heap.size w).drew
  have hNw : N ≤ w.heap.size := Nat.le_trans hN (Nat.le_of_lt hgl)
  go_region_with (first | (go_at_call 25; refine (HP.out _ HD.out).mono ?_; rintro e w2 ⟨c9, rfl, hB2, q, c, hs, hrec⟩; have hbw := HD.out.trans (hB2.mono HD.out.size); obtain ⟨k1, k2⟩ := HK.out _ hbw; have HS := Lib.hid (And.intro hs hrec); clear hs hrec) | (go_at_call 24; refine (HL.out _ hbw _ _ _ _ _ _ _ (hB2.mono (Nat.le_trans hNw HD.out.size)) HS.out.1 HS.out.2).mono ?_; rintro e w3 ⟨⟨v, rfl, b2, cc, rfl, hin⟩, hG, hR⟩; have hGw := OnlyG.after hbw (Nat.le_of_lt hgl) hG; obtain ⟨o1, o2⟩ := HO.out _ hGw; have HF := Lib.hid (And.intro hGw (And.intro hR hin)); clear hin hG hR hGw))
  all_goals go_end0
  all_goals exact ⟨rfl, _, b2, cc, HF.out.1, HF.out.2.1, HF.out.2.2, rfl⟩
end Go.Proofs.Ytcadeeldogknmaa
