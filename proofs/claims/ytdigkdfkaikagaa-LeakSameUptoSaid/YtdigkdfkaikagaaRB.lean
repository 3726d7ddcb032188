/- Rewriting the chapter's rows: the closure that rewrites. -/
import Derived.Test.YtdigkdfkaikagaaR9
import Derived.Test.YtdigkdfkaikagaaRA
import Derived.Test.YtdigkdfkaikagaaR4
import Derived.Test.YtdigkdfkaikagaaR5
namespace Go.Proofs.Ytdigkdfkaikagaa
open Go.RowKit

set_option maxRecDepth 100000 in
set_option maxHeartbeats 3200000 in
theorem rewrite1_A (g m N bt bk bb bo bl ol cl ct : Nat) (p : Option Addr) (b o c2 : Nat) (w : World) (hr : RwAt w g 1000 m 0) (hm : w.heap[m]? = some (fmap deedT)) (_hmg : m ≠ g) (hN : N ≤ g) (hb : b < N)
    (ht : w.cell? ⟨bt, 0, none⟩ = some (.slice p 1 ct)) (hk : w.cell? ⟨bk, 0, none⟩ = some (.slice (some ⟨bl, ol, none⟩) 1 cl)) (hbb : w.cell? ⟨bb, 0, none⟩ = some (.bool false)) (ho : w.cell? ⟨bo, 0, none⟩ = some (.slice none 0 0)) (hoz : w.frozen? ⟨bo, 0, none⟩ = false) (hog : bo ≠ g)
    (_hbk : bk ≠ g) (_hbbg : bb ≠ g)
    (hT : tfA.In w N p) (h1 : w.cell? ⟨bl, ol + 1, none⟩ = some (.slice (some ⟨b, o, none⟩) 1 c2)) (h : w.cell? ⟨b, o, none⟩ = some (.int .u64 2)) :
    Calls Try.prog 36 #[.pointer (some ⟨g, 0, none⟩), .pointer (some ⟨bt, 0, none⟩), .pointer (some ⟨bk, 0, none⟩), .pointer (some ⟨bb, 0, none⟩), .pointer (some ⟨bo, 0, none⟩)] w fun e w' =>
      e = .returned (.tuple #[]) ∧ ∃ w1 b2 cc, OnlyG g w w1 ∧ RwAt w1 g 1000 m 2 ∧ (Lf.node 1 [1116] false .nil .nil).In w1 w1.heap.size (some ⟨b2, 0, none⟩) ∧ w' = w1.setCell ⟨bo, 0, none⟩ (.slice (some ⟨b2, 0, none⟩) 1 cc) := by
  have hgl := hr.lt
  have HP := Lib.hid (fun (w1 : World) (hb1 : Below w.heap.size w w1) => recipes_A p ct N w1 (Tf.In_later hT hb1 (Nat.le_trans hN (Nat.le_of_lt hgl))) (Nat.le_trans (Nat.le_trans hN (Nat.le_of_lt hgl)) hb1.size))
  have HL := Lib.hid (fun (w1 : World) (hb1 : Below w.heap.size w w1) (gr c9 c cl' : Nat) (q : Option Addr) (sv : Value) (wz : World) (hbz : Below N wz w1) (hs : Sl N q 1 (Plines wz N [[pkA]])) (hrec : Rec w1 gr 2 false (.slice q 1 c) 0 2 sv) =>
    list_A g m N gr c9 bl ol cl' q c b o c2 sv w1 (hr.later hb1 hgl) hN hb ((hb1.cell (World.block_lt_of_cell? _ _ h)).trans h) (hs.imp (Nat.le_refl _) fun b' o' hb' ha' => Plines.later hbz (Nat.le_refl _) _ _ _ hb' ha') hrec ((hb1.cell (World.block_lt_of_cell? _ _ h1)).trans h1)
      ((hb1.block m (by have := (Array.getElem?_eq_some_iff.1 hm).1; exact this)).trans hm))
  have hol : bo < w.heap.size := World.block_lt_of_cell? _ _ ho
  have HK := Lib.hid (fun (w1 : World) (hb1 : Below w.heap.size w w1) => (show w1.cell? ⟨bk, 0, none⟩ = some (.slice (some ⟨bl, ol, none⟩) 1 cl) ∧ w1.cell? ⟨bb, 0, none⟩ = some (.bool false) from ⟨(hb1.cell (World.block_lt_of_cell? _ _ hk)).trans hk, (hb1.cell (World.block_lt_of_cell? _ _ hbb)).trans hbb⟩))
  have HO := Lib.hid (fun (w1 : World) (hb1 : OnlyG g w w1) => (show w1.cell? ⟨bo, 0, none⟩ = some (.slice none 0 0) ∧ w1.frozen? ⟨bo, 0, none⟩ = false from ⟨(hb1.cell hog hol).trans ho, (hb1.frozen hog hol).trans hoz⟩))
  clear hr hm h1 h hT ho hoz
  go_enter Try.func36, Try.ntmps36
  go_wp2_with fail
  have HD := Lib.hid (Below.refl w.heap.size w).drew
  have hNw : N ≤ w.heap.size := Nat.le_trans hN (Nat.le_of_lt hgl)
  go_region_with (first | (go_at_call 38; refine (HP.out _ HD.out).mono ?_; rintro e w2 ⟨c9, rfl, hB2, q, c, hs, hrec⟩; have hbw := HD.out.trans (hB2.mono HD.out.size); obtain ⟨k1, k2⟩ := HK.out _ hbw; have HS := Lib.hid (And.intro hs hrec); clear hs hrec) | (go_at_call 37; refine (HL.out _ hbw _ _ _ _ _ _ _ (hB2.mono (Nat.le_trans hNw HD.out.size)) HS.out.1 HS.out.2).mono ?_; rintro e w3 ⟨⟨v, rfl, b2, cc, rfl, hin⟩, hG, hR⟩; have hGw := OnlyG.after hbw (Nat.le_of_lt hgl) hG; obtain ⟨o1, o2⟩ := HO.out _ hGw; have HF := Lib.hid (And.intro hGw (And.intro hR hin)); clear hin hG hR hGw))
  all_goals go_end0
  all_goals exact ⟨rfl, _, b2, cc, HF.out.1, HF.out.2.1, HF.out.2.2, rfl⟩
end Go.Proofs.Ytdigkdfkaikagaa
