/- Rewriting the chapter's rows: lists, and the closure that rewrites. -/
import Derived.Test.YtdigkdfkaikagaaR7
import Derived.Test.YtdigkdfkaikagaaR8
import Derived.Test.YtdigkdfkaikagaaL10
import Derived.StillTailTactics
namespace Go.Proofs.Ytdigkdfkaikagaa
open Go.RowKit

set_option maxRecDepth 100000 in
set_option maxHeartbeats 3200000 in
theorem list_A (g m N gr c9 bl ol cl : Nat) (q : Option Addr) (c b o c2 : Nat) (sv : Value) (w : World) (hr : RwAt w g 1000 m 0) (hN : N ≤ g) (hb : b < N) (h : w.cell? ⟨b, o, none⟩ = some (.int .u64 2)) (hp : PickA w N q)
    (hrec : Rec w gr 2 false (.slice q 1 c) 0 2 sv) (h1 : w.cell? ⟨bl, ol + 1, none⟩ = some (.slice (some ⟨b, o, none⟩) 1 c2)) (hm : w.heap[m]? = some (fmap deedT)) :
    Calls Try.prog 37 #[.pointer (some ⟨g, 0, none⟩), .slice none 0 0, .slice (some ⟨gr, 0, none⟩) 1 c9, .slice (some ⟨bl, ol, none⟩) 1 cl, .bool false] w fun e w' =>
      (∃ v, e = .returned v ∧ ∃ b2 cc, v = .slice (some ⟨b2, 0, none⟩) 1 cc ∧ (Lf.node 1 [1116] false .nil .nil).In w' w'.heap.size (some ⟨b2, 0, none⟩)) ∧ OnlyG g w w' ∧ RwAt w' g 1000 m 2 := by
  have HL := Lib.hid (fun (w1 : World) (hb1 : Below w.heap.size w w1) => onlyLines_A g m N gr bl ol q c b o c2 false sv w1 (hr.later hb1 hr.lt) hN hb ((hb1.cell (World.block_lt_of_cell? _ _ h)).trans h) (hp.imp (Nat.le_refl _) fun b' o' hb' ha' => Plines.later (hb1.mono (Nat.le_trans hN (Nat.le_of_lt hr.lt))) (Nat.le_refl _) _ _ _ hb' ha') (hrec.later hb1 (World.block_lt_of_cell? _ _ hrec.c0)) ((hb1.cell (World.block_lt_of_cell? _ _ h1)).trans h1))
  have HM := Lib.hid (asMany_same 1 false w)
  have hlk := run_look1_fmap Try.underlying67 Try.underlying34 deed_zero deedT hm 2
  have hlk2 := run_look1_fmap Try.underlying67 Try.underlying34 deed_zero deedT (w := w.drew) hm 2
  have hlk3 := run_look1_fmap Try.underlying67 Try.underlying34 deed_zero deedT (w := { heap := w.heap, tape := w.tape, drawn := w.drawn + 1, os := w.os, output := w.output }) hm 2
  simp only [show fval deedT 2 = .func (.func 54) #[] #[] from rfl] at hlk hlk2 hlk3
  have hgl := hr.lt
  obtain ⟨c0, c1, c2', z2⟩ := hr
  obtain ⟨d0, d1, d2, d3, d4, d8⟩ := hrec
  clear h hp h1 hm
  go_enter Try.func37, Try.ntmps37
  go_wp2_with (go_at_call 63; refine HM.out.mono ?_; rintro e w' ⟨rfl, rfl⟩)
  go_loopw [1, 20] (fun v i wr => (v = .slice none 0 0 ∧ i = .int .i64 0 ∧ Hid (wr = w)) ∨ (i = .int .i64 1 ∧ Hid ((∃ b2 cc, v = .slice (some ⟨b2, 0, none⟩) 1 cc ∧ (Lf.node 1 [1116] false .nil .nil).In wr wr.heap.size (some ⟨b2, 0, none⟩)) ∧ OnlyG g w wr ∧ RwAt wr g 1000 m 2)))
      (fun _ i _ => 1 - (intOf i).toNat)
  case atStart => exact .inl ⟨rfl, rfl, Lib.hid rfl⟩
  case round =>
    rcases hrel with ⟨rfl, rfl, hw⟩ | ⟨rfl, hF⟩
    · obtain rfl := hw.out
      clear hw HM
      go_wp2_with fail
      go_still_tail 26, (by kernel_rfl)
      change wpList _ _ _ _ _ wr.drew
      go_wp2_with (go_at_call 54; refine (HL.out _ (Below.refl _ _).drew).mono ?_; rintro e w' ⟨⟨v, rfl, ⟨b2, cc, rfl, hin⟩⟩, hB, hR⟩; have HF := Lib.hid (And.intro hin (And.intro hB hR)); clear hin hB hR)
      all_goals go_roundw
      all_goals first
        | (simp [intOf]; done)
        | exact .inr ⟨by go_num, Lib.hid ⟨⟨_, _, rfl, HF.out.1⟩, OnlyG.after (Below.refl _ _).drew (Nat.le_of_lt hgl) HF.out.2.1, HF.out.2.2⟩⟩
    · obtain ⟨⟨b2, cc, rfl, hin⟩, hb9, hr9⟩ := hF.out
      clear hF
      go_wp2_with fail
      go_ret
      exact ⟨⟨_, rfl, b2, cc, rfl, hin⟩, hb9, hr9⟩
end Go.Proofs.Ytdigkdfkaikagaa
