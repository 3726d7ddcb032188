/- The lines of a function without anything. -/
import Derived.Test.YtkjhofnkgcjcoaaDoorP12
import Derived.RangeFuncBound
import Derived.RangeFuncLeaves
import Derived.OwnWalkIn
import Derived.TacticsInMore
import Derived.LoopIn
import Derived.LoopNIn
import Derived.RangeFuncNested
import Derived.Shelf.Abstract
import Derived.Shelf.RegionOpen
import Derived.Laws.EntriesVeiled
namespace Go.Proofs.YtkjhofnkgcjcoaaDoor
open Go.RowKit
attribute [local go_sem] Oper.semAt_some

/-- a line and the tabs ahead, as they are handed on -/
def encL (x : Nat × List UInt8) : Array Value := #[.int .i64 x.1, .string (str x.2)]
theorem show0 (p2 p3 p4 : Value) (w : World) : Calls Tryd.prog 74 #[.slice none 0 0, .int .i64 0, p2, p3, p4] w fun e w' => e = .returned (.bool true) ∧ w = w' := by
  go_enter Tryd.func74, Tryd.ntmps74
  go_wp2_with fail
  go_loopw [12] (fun i wr => i = .int .i64 0 ∧ wr = w) (fun _ _ => 0)
  case atStart => exact ⟨rfl, rfl⟩
  case round =>
    obtain ⟨rfl, rfl⟩ := hrel
    go_wp2_with fail
    go_ret
    exact ⟨rfl, rfl⟩
theorem stmtLines0 (w : World) : Calls Tryd.prog 48 #[.slice none 0 0] w fun e w' => ∃ bx, e = .returned (.func (.func 73) #[] #[.pointer (some ⟨bx, 0, none⟩)]) ∧ w'.heap[bx]? = some (.cells #[.slice none 0 0] 33 (0, 0)) ∧ w.heap.size ≤ bx ∧ Below w.heap.size w w' := by
  go_enter Tryd.func48, Tryd.ntmps48
  go_wp2_with fail
  go_ret
  exact ⟨_, rfl, heap_alloc_new w _, Nat.le_refl _, (Below.refl _ w).alloc (Nat.le_refl _) _⟩

set_option maxRecDepth 100000 in
set_option maxHeartbeats 3200000 in
theorem stmtLines1_own (bx n : Nat) (G : World → Prop) (w0 : World) (hx : w0.heap[bx]? = some (.cells #[.slice none 0 0] 33 (0, 0))) :
    SeqOwn G Fence.wide n Tryd.prog 73 #[.pointer (some ⟨bx, 0, none⟩)] encL [] w0 := by
  intro l J Jx W hW hJ _ _ _ h0
  refine callsIn_wide.2 ?_
  have hbz := Nat.lt_of_lt_of_le (lt_of_block hx) hW.size
  have HX := Lib.hid ((hW.block _ (lt_of_block hx)).trans hx)
  have HJ := Lib.hid (fun W' (h : Below W.heap.size W W') => hJ 0 W W' h0 (Rn.of_below h (Nat.le_refl _)))
  have HT := Lib.hid (newTeller_any (W.alloc (.cells #[.func (.yield l) #[] #[]] 94)))
  clear hJ h0 hx hW
  show Calls Tryd.prog 73 #[.func (.yield l) #[] #[], .pointer (some ⟨bx, 0, none⟩)] W _
  go_enter Tryd.func73, Tryd.ntmps73
  go_wp2_with fail
  refine HT.out.mono ?_
  rintro e w2 ⟨m, rfl, _, hB2⟩
  have HB2 := Lib.hid (((Below.refl _ W).alloc (Nat.le_refl _) _).trans (hB2.mono (by simp)))
  have cx := cell_of_one ((HB2.out.block bx hbz).trans HX.out)
  have hbz2 : bx < w2.heap.size := Nat.lt_of_lt_of_le hbz HB2.out.size
  clear hB2
  have cv : ((w2.alloc (.cells #[.map (some m)] 58)).alloc (.cells #[.nilFunc] 132)).cell? ⟨w2.heap.size + 1, 0, none⟩ = some .nilFunc := World.cell?_alloc2_new _ _ _ _
  have fv : ((w2.alloc (.cells #[.map (some m)] 58)).alloc (.cells #[.nilFunc] 132)).frozen? ⟨w2.heap.size + 1, 0, none⟩ = false := World.frozen?_alloc2_new _ _ _ _
  go_wp2_with fail
  refine (show0 _ _ _ _).mono ?_
  rintro e w' ⟨rfl, rfl⟩
  go_wp2_with fail
  go_end0
  refine ⟨⟨_, rfl⟩, .inl (HJ.out _ ((HB2.out.alloc HB2.out.size _).alloc (by simp; exact Nat.le_succ_of_le HB2.out.size) _))⟩
end Go.Proofs.YtkjhofnkgcjcoaaDoor
