/- Rewriting the chapter's rows: the closure that rewrites. -/
import Derived.Test.YtdigkdfkaikagaaR6
import Derived.Test.YtdigkdfkaikagaaRA
import Derived.Test.YtdigkdfkaikagaaR5
namespace Go.Proofs.Ytdigkdfkaikagaa
open Go.RowKit

set_option maxRecDepth 100000 in
set_option maxHeartbeats 3200000 in
theorem rewrite1_B (g m N bt bk bb bo bl ol cl ct : Nat) (p : Option Addr) (st : Int) (w : World) (hr : RwAt w g st m 0) (hm : w.heap[m]? = some (fmap deedT)) (hN : N ≤ g)
    (ht : w.cell? ⟨bt, 0, none⟩ = some (.slice p 1 ct)) (hk : w.cell? ⟨bk, 0, none⟩ = some (.slice (some ⟨bl, ol, none⟩) 1 cl)) (hbb : w.cell? ⟨bb, 0, none⟩ = some (.bool false)) (ho : w.cell? ⟨bo, 0, none⟩ = some (.slice none 0 0)) (hoz : w.frozen? ⟨bo, 0, none⟩ = false) (hog : bo ≠ g)
    (_hbk : bk ≠ g) (_hbbg : bb ≠ g)
    (hT : tfB.In w N p) (h0 : w.cell? ⟨bl, ol, none⟩ = some (.int .i64 2)) (h2 : w.cell? ⟨bl, ol + 2, none⟩ = some (.bool false)) :
    Calls Try.prog 36 #[.pointer (some ⟨g, 0, none⟩), .pointer (some ⟨bt, 0, none⟩), .pointer (some ⟨bk, 0, none⟩), .pointer (some ⟨bb, 0, none⟩), .pointer (some ⟨bo, 0, none⟩)] w fun e w' =>
      e = panicked 2 ∧ OnlyG g w w' := by
  have hgl := hr.lt
  have HP := Lib.hid (fun (w1 : World) (hb1 : Below w.heap.size w w1) => recipes_B p ct N w1 (Tf.In_later hT hb1 (Nat.le_trans hN (Nat.le_of_lt hgl))) (Nat.le_trans (Nat.le_trans hN (Nat.le_of_lt hgl)) hb1.size))
  have HL := Lib.hid (fun (w1 : World) (hb1 : Below w.heap.size w w1) (gr c9 cl' : Nat) (pv sv : Value) (gi sz : Int) (hrec : Rec w1 gr 4 true pv gi sz sv) =>
    list_B g m gr c9 bl ol cl' st 0 pv gi sz sv w1 (hr.later hb1 hgl) hrec ((hb1.cell (World.block_lt_of_cell? _ _ h0)).trans h0) ((hb1.cell (World.block_lt_of_cell? _ _ h2)).trans h2)
      ((hb1.block m (by have := (Array.getElem?_eq_some_iff.1 hm).1; exact this)).trans hm))
  have HB9 := Lib.hid (fun (w1 : World) (hb1 : Below w.heap.size w w1) => OnlyG.on (g := g) (w := w) (w1 := w) ⟨Below.refl _ _, fun _ _ _ => rfl⟩ (Nat.le_of_lt hgl) hb1)
  have hol : bo < w.heap.size := World.block_lt_of_cell? _ _ ho
  have HK := Lib.hid (fun (w1 : World) (hb1 : Below w.heap.size w w1) => (show w1.cell? ⟨bk, 0, none⟩ = some (.slice (some ⟨bl, ol, none⟩) 1 cl) ∧ w1.cell? ⟨bb, 0, none⟩ = some (.bool false) from ⟨(hb1.cell (World.block_lt_of_cell? _ _ hk)).trans hk, (hb1.cell (World.block_lt_of_cell? _ _ hbb)).trans hbb⟩))
  have HO := Lib.hid (fun (w1 : World) (hb1 : OnlyG g w w1) => (show w1.cell? ⟨bo, 0, none⟩ = some (.slice none 0 0) ∧ w1.frozen? ⟨bo, 0, none⟩ = false from ⟨(hb1.cell hog hol).trans ho, (hb1.frozen hog hol).trans hoz⟩))
  clear hr hm h0 h2 hT ho hoz
  go_enter Try.func36, Try.ntmps36
  go_wp2_with fail
  have HD := Lib.hid (Below.refl w.heap.size w).drew
  have hNw : N ≤ w.heap.size := Nat.le_trans hN (Nat.le_of_lt hgl)
  go_region_law (first | (refine step_call_panic (by simp [Region.wanted, go_sem]) 37 #[.pointer (some ⟨g, 0, none⟩), .slice none 0 0, .slice (some ⟨w.heap.size, 0, none⟩) 1 c9, .slice (some ⟨bl, ol, none⟩) 1 cl, .bool false] (by simp [Act.eval, go_sem]) (HL.out _ hbw _ _ _ _ _ _ _ hrec.out) (by rintro e w' ⟨rfl, hB⟩; exact ⟨_, rfl, rfl, rfl, HB9.out _ (hbw.trans (hB.mono hbw.size))⟩) ?_) | (refine step_call_fn rfl 38 #[.slice p 1 ct] (by simp [Act.eval, go_sem]) (HP.out _ HD.out) ?_; rintro e w2 ⟨c9, rfl, hB2, q, c, sv, hrec⟩; refine ⟨_, rfl, ?_⟩; have hrec := Lib.hid hrec; have hbw := HD.out.trans (hB2.mono HD.out.size); obtain ⟨k1, k2⟩ := HK.out _ hbw))
  all_goals trivial
end Go.Proofs.Ytdigkdfkaikagaa
