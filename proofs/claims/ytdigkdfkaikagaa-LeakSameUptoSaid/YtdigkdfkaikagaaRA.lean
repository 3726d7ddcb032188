/- Rewriting the chapter's rows: lists, and the closure that rewrites. -/
import Derived.Test.YtdigkdfkaikagaaR7
import Derived.Test.YtdigkdfkaikagaaL10
import Derived.StillTailTactics
namespace Go.Proofs.Ytdigkdfkaikagaa
open Go.RowKit

set_option maxRecDepth 100000 in
set_option maxHeartbeats 3200000 in
theorem list_B (g m gr c9 bl ol cl : Nat) (st laid : Int) (pv : Value) (gi sz : Int) (sv : Value) (w : World) (hr : RwAt w g st m laid)
    (hrec : Rec w gr 4 true pv gi sz sv) (h0 : w.cell? ⟨bl, ol, none⟩ = some (.int .i64 2)) (h2 : w.cell? ⟨bl, ol + 2, none⟩ = some (.bool false)) (hm : w.heap[m]? = some (fmap deedT)) :
    Calls Try.prog 37 #[.pointer (some ⟨g, 0, none⟩), .slice none 0 0, .slice (some ⟨gr, 0, none⟩) 1 c9, .slice (some ⟨bl, ol, none⟩) 1 cl, .bool false] w fun e w' => e = panicked 2 ∧ Below w.heap.size w w' := by
  have HL := Lib.hid (fun (w1 : World) (hb1 : Below w.heap.size w w1) => way_B g m gr bl ol none 0 0 false (.slice none 0 0) pv gi sz sv w1 (hrec.later hb1 (World.block_lt_of_cell? _ _ hrec.c0)) ((hb1.cell (World.block_lt_of_cell? _ _ h0)).trans h0) ((hb1.cell (World.block_lt_of_cell? _ _ h2)).trans h2))
  have HM := Lib.hid (asMany_same 1 false w)
  have hlk := run_look1_fmap Try.underlying67 Try.underlying34 deed_zero deedT hm 4
  have hlk2 := run_look1_fmap Try.underlying67 Try.underlying34 deed_zero deedT (w := w.drew) hm 4
  have hlk3 := run_look1_fmap Try.underlying67 Try.underlying34 deed_zero deedT (w := { heap := w.heap, tape := w.tape, drawn := w.drawn + 1, os := w.os, output := w.output }) hm 4
  simp only [show fval deedT 4 = .func (.func 56) #[] #[] from rfl] at hlk hlk2 hlk3
  obtain ⟨c0, c1, c2', z2⟩ := hr
  obtain ⟨d0, d1, d2, d3, d4, d8⟩ := hrec
  clear h0 h2 hm
  go_enter Try.func37, Try.ntmps37
  go_wp2_with (go_at_call 63; refine HM.out.mono ?_; rintro e w' ⟨rfl, rfl⟩)
  go_loopw [1, 20] (fun v i wr => v = .slice none 0 0 ∧ i = .int .i64 0 ∧ Hid (wr = w)) (fun _ i _ => 1 - (intOf i).toNat)
  case atStart => exact ⟨rfl, rfl, Lib.hid rfl⟩
  case round =>
    obtain ⟨rfl, rfl, hw⟩ := hrel
    obtain rfl := hw.out
    clear hw HM
    go_wp2_with fail
    go_still_tail 26, (by kernel_rfl)
    change wpList _ _ _ _ _ wr.drew
    go_wp2_with (go_at_call 56; refine (HL.out _ (Below.refl _ _).drew).mono ?_; rintro e w' ⟨rfl, hB⟩)
    exact ⟨rfl, rfl, (Below.refl _ _).drew.trans hB⟩
end Go.Proofs.Ytdigkdfkaikagaa
