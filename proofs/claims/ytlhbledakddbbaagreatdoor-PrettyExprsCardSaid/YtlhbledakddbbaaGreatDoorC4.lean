/- The lines of a program with a function f alone. -/
import Derived.Test.YtlhbledakddbbaaGreatDoorC3
namespace Go.Proofs.YtlhbledakddbbaaGreatDoor
open Go.RowKit
attribute [local go_sem] Oper.semAt_some

/-- the program lies at bp, its function at b -/
def PrAt (W : World) (bp b : Nat) : Prop := FnAt W b ∧ W.heap[bp]? = some (.cells #[.slice none 0 0, .slice (some ⟨b, 0, none⟩) 1 1] 39 (0, 0))
theorem PrAt.cells {W : World} {bp b : Nat} (h : PrAt W bp b) : W.cell? ⟨bp, 0, none⟩ = some (.slice none 0 0) ∧ W.cell? ⟨bp, 1, none⟩ = some (.slice (some ⟨b, 0, none⟩) 1 1) := by
  have h := h.2
  refine ⟨?_, ?_⟩ <;> simp [World.cell?, h]

set_option maxRecDepth 100000 in
set_option maxHeartbeats 3200000 in
theorem programLines1_own (bp b n : Nat) (w0 : World) :
    SeqOwn (fun W => PrAt W bp b) Fence.wide n Tryz.prog 84 #[.pointer (some ⟨bp, 0, none⟩)] encL lf w0 := by
  intro l J Jx W hW hJ hJx hG hY h0
  refine callsIn_wide.2 ?_
  have HS := Lib.hid (fun w hN h => showFunc_f b l J Jx W.heap.size (n - 1) w hN hJ hJx (fun k A h => (hG k A h).1) hY h)
  have HG := Lib.hid (fun k A h => (hG k A h).cells)
  have HJ0 := Lib.hid h0
  clear hJ hJx hG hY h0 hW
  show Calls Tryz.prog 84 #[.func (.yield l) #[] #[], .pointer (some ⟨bp, 0, none⟩)] W _
  obtain ⟨c0, c1⟩ := HG.out 0 W HJ0.out
  go_enter Tryz.func84, Tryz.ntmps84
  go_wp2_with fail
  go_loopw [9] (fun i wr => i = .int .i64 0 ∧ wr = W) (fun _ _ => 0)
  case atStart => exact ⟨rfl, rfl⟩
  case round =>
    obtain ⟨rfl, rfl⟩ := hrel
    go_wp2_with fail
    go_loopw [22] (fun i w2 => (i = .int .i64 0 ∧ w2 = wr) ∨ (i = .int .i64 1 ∧ Hid (J 2 w2))) (fun i _ => 1 - (intOf i).toNat)
    case atStart => exact .inl ⟨rfl, rfl⟩
    case round =>
      rcases hrel with ⟨rfl, rfl⟩ | ⟨rfl, hj⟩
      · go_wp2_with fail
        refine (HS.out _ (Nat.le_refl _) HJ0.out).mono ?_
        rintro e w3 (⟨rfl, h⟩ | ⟨rfl, h⟩)
        · have HH := Lib.hid h
          clear h
          go_wp2_with fail
          go_roundw
          case rel => exact .inr ⟨rfl, HH⟩
          case measure => simp [intOf]
        · have HH := Lib.hid h
          clear h
          go_wp2_with fail
          refine bodyPost_ret (results_none rfl _ _ _) rfl ?_
          obtain ⟨k, hk, h⟩ := HH.out
          exact ⟨⟨_, rfl⟩, .inr ⟨k, hk, h⟩⟩
      · go_wp2_with fail
        go_end0
        exact ⟨⟨_, rfl⟩, .inl hj.out⟩
theorem programLines_any (x y : Value) (w : World) : Calls Tryz.prog 44 #[.agg #[x, y]] w fun e w' => ∃ bp, e = .returned (.func (.func 84) #[] #[.pointer (some ⟨bp, 0, none⟩)]) ∧ w'.heap[bp]? = some (.cells #[x, y] 39 (0, 0)) ∧ w.heap.size ≤ bp ∧ Below w.heap.size w w' := by
  go_enter Tryz.func44, Tryz.ntmps44
  go_wp2_with fail
  go_ret
  exact ⟨_, rfl, heap_alloc_new w _, Nat.le_refl _, (Below.refl _ w).alloc (Nat.le_refl _) _⟩
end Go.Proofs.YtlhbledakddbbaaGreatDoor
