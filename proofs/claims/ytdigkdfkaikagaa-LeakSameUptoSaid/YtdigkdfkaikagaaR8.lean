/- Rewriting the chapter's rows: lists. -/
import Derived.Test.YtdigkdfkaikagaaR6
namespace Go.Proofs.Ytdigkdfkaikagaa
open Go.RowKit

set_option maxRecDepth 100000 in
set_option maxHeartbeats 3200000 in
theorem onlyLines_A (g m N gr bl ol : Nat) (q : Option Addr) (c b o c2 : Nat) (br : Bool) (sv : Value) (w : World) (hr : RwAt w g 1000 m 0) (hN : N ≤ g) (hb : b < N) (h : w.cell? ⟨b, o, none⟩ = some (.int .u64 2)) (hp : PickA w N q)
    (hrec : Rec w gr 2 false (.slice q 1 c) 0 2 sv) (h1 : w.cell? ⟨bl, ol + 1, none⟩ = some (.slice (some ⟨b, o, none⟩) 1 c2)) :
    Calls Try.prog 54 #[.pointer (some ⟨g, 0, none⟩), .slice none 0 0, .pointer (some ⟨gr, 0, none⟩), .pointer (some ⟨bl, ol, none⟩), .bool br] w fun e w' =>
      (∃ v, e = .returned v ∧ ∃ b2 cc, v = .slice (some ⟨b2, 0, none⟩) 1 cc ∧ (Lf.node 1 [1116] false .nil .nil).In w' w'.heap.size (some ⟨b2, 0, none⟩)) ∧ OnlyG g w w' ∧ RwAt w' g 1000 m 2 := by
  obtain ⟨c0, c1, d2, d3, d4, _⟩ := hrec
  have HL := Lib.hid (fun (w1 : World) (hb1 : Below w.heap.size w w1) => lay_A g m N q c b o c2 w1 (hr.later hb1 hr.lt) hN hb ((hb1.cell (World.block_lt_of_cell? _ _ h)).trans h) (hp.imp (Nat.le_refl _) fun b' o' hb' ha' => Plines.later (hb1.mono (Nat.le_trans hN (Nat.le_of_lt hr.lt))) (Nat.le_refl _) _ _ _ hb' ha'))
  have HBd := Lib.hid (Below.refl w.heap.size w).drew
  have HBe := Lib.hid (Below.refl w.heap.size w)
  have hgl := hr.lt
  clear hr h hp
  go_enter Try.func54, Try.ntmps54
  go_wp2_with fail
  go_region_with (go_at_call 73; refine (HL.out _ (by first | exact HBd.out | exact HBe.out)).mono ?_; rintro e w' ⟨⟨v, rfl, hv⟩, hB, hR⟩)
  all_goals go_wp2_with fail
  all_goals go_ret
  all_goals exact ⟨⟨_, rfl, hv⟩, OnlyG.after HBd.out (Nat.le_of_lt hgl) hB, hR⟩
end Go.Proofs.Ytdigkdfkaikagaa
