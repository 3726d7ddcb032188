/- A text's tokens, handed on one by one. -/
import Derived.Test.YtgffiggnmklcoaaGreatDoorF5
import Derived.Great.Walk
namespace Go.Proofs.YtgffiggnmklcoaaGreatDoor
open Go.RowKit

set_option maxRecDepth 100000 in
theorem tokens1_own (s : ByteArray) (bt n : Nat) (w0 : World) (hs : s.size ≤ 65536) (ht : w0.heap[bt]? = some (.cells #[.string s] 9 (0, 0))) :
    SeqOwn Glob Fence.wide n Tryz.prog 49 #[.pointer (some ⟨bt, 0, none⟩)] encT (lexAll s.data.toList).1 w0 := by
  intro l J Jx W hW hJ _ hG hY h0
  refine callsIn_wide.2 ?_
  have cT := cell_of_one ((hW.block _ (lt_of_block ht)).trans ht)
  have HS := Lib.hid (scanYield_any s l J Jx W.heap.size (n - 1) W hs (Nat.le_refl _) hJ hG hY h0)
  clear hJ hG hY h0 ht hW
  show Calls Tryz.prog 49 #[.func (.yield l) #[] #[], .pointer (some ⟨bt, 0, none⟩)] W _
  go_enter Tryz.func49, Tryz.ntmps49
  go_wp2_with fail
  refine HS.out.mono ?_
  rintro e w2 ⟨⟨v, rfl⟩, h⟩
  go_wp2_with fail
  go_end0
  exact ⟨⟨_, rfl⟩, h⟩

theorem tokens_any (s : ByteArray) (w : World) :
    Calls Tryz.prog 29 #[.string s] w fun e w' => ∃ bt, e = .returned (.func (.func 49) #[] #[.pointer (some ⟨bt, 0, none⟩)]) ∧ w'.heap[bt]? = some (.cells #[.string s] 9 (0, 0)) ∧ w.heap.size ≤ bt ∧ Below w.heap.size w w' := by
  go_enter Tryz.func29, Tryz.ntmps29
  go_wp2_with fail
  go_ret
  exact ⟨_, rfl, heap_alloc_new w _, Nat.le_refl _, (Below.refl _ w).alloc (Nat.le_refl _) _⟩
end Go.Proofs.YtgffiggnmklcoaaGreatDoor
