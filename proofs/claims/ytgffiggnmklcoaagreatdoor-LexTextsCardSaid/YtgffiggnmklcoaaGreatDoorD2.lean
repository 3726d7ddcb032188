/- The map of signs. -/
import Derived.Test.YtgffiggnmklcoaaGreatDoorC4
import Derived.Test.YtgffiggnmklcoaaGreatDoorD1
namespace Go.Proofs.YtgffiggnmklcoaaGreatDoor
open Go.RowKit

/-- the signs -/
def signT : List (List UInt8) := [[40], [41], [123], [125], [91], [93], [44], [59], [61], [43], [45], [42], [38], [124], [94], [126], [60], [60, 60], [60, 60, 60], [60, 61], [62], [62, 62], [62, 62, 62], [62, 62, 62, 62], [61, 61], [33, 61], [45, 62]]
/-- What a call hands back that makes the map: it lies in a new block. -/
def MapAt (w : World) (e : Ending) (w' : World) : Prop := ∃ b, e = .returned (.map (some b)) ∧ w'.heap[b]? = some (smap signT) ∧ w.heap.size ≤ b ∧ Below w.heap.size w w'
theorem mapAt_new (w : World) : MapAt w (.returned (.map (some w.heap.size))) (w.alloc (stb signT 27)) := by
  refine ⟨_, rfl, ?_, Nat.le_refl _, (Below.refl _ _).alloc (Nat.le_refl _) _⟩
  rw [(MapKept.heap_alloc w _).1, stb, List.take_of_length_le (by decide)]
theorem stb_0 : (Obj.map #[] 0) = stb signT 0 := rfl
set_option maxRecDepth 100000 in
set_option maxHeartbeats 3200000 in
theorem signs_any (w : World) : Calls Tryz.prog 51 #[] w (MapAt w) := by
  have hmm := @run_makeMap Tryz.prog
  have i0 : ∀ wx : World, (Instr.mapUpdate 77 (.map (some wx.heap.size)) (.string ⟨#[40]⟩) (.agg #[])).run Tryz.prog (wx.alloc (.map #[] 0)) = .ok () (wx.alloc (stb signT 1)) := fun wx => run_put_stb Tryz.underlying77 Tryz.underlying9 signT 0 [40] rfl (by decide) wx
  have i1 := fun wx => run_put_stb Tryz.underlying77 Tryz.underlying9 signT 1 [41] rfl (by decide) wx
  have i2 := fun wx => run_put_stb Tryz.underlying77 Tryz.underlying9 signT 2 [123] rfl (by decide) wx
  have i3 := fun wx => run_put_stb Tryz.underlying77 Tryz.underlying9 signT 3 [125] rfl (by decide) wx
  have i4 := fun wx => run_put_stb Tryz.underlying77 Tryz.underlying9 signT 4 [91] rfl (by decide) wx
  have i5 := fun wx => run_put_stb Tryz.underlying77 Tryz.underlying9 signT 5 [93] rfl (by decide) wx
  have i6 := fun wx => run_put_stb Tryz.underlying77 Tryz.underlying9 signT 6 [44] rfl (by decide) wx
  have i7 := fun wx => run_put_stb Tryz.underlying77 Tryz.underlying9 signT 7 [59] rfl (by decide) wx
  have i8 := fun wx => run_put_stb Tryz.underlying77 Tryz.underlying9 signT 8 [61] rfl (by decide) wx
  have i9 := fun wx => run_put_stb Tryz.underlying77 Tryz.underlying9 signT 9 [43] rfl (by decide) wx
  have i10 := fun wx => run_put_stb Tryz.underlying77 Tryz.underlying9 signT 10 [45] rfl (by decide) wx
  have i11 := fun wx => run_put_stb Tryz.underlying77 Tryz.underlying9 signT 11 [42] rfl (by decide) wx
  have i12 := fun wx => run_put_stb Tryz.underlying77 Tryz.underlying9 signT 12 [38] rfl (by decide) wx
  have i13 := fun wx => run_put_stb Tryz.underlying77 Tryz.underlying9 signT 13 [124] rfl (by decide) wx
  have i14 := fun wx => run_put_stb Tryz.underlying77 Tryz.underlying9 signT 14 [94] rfl (by decide) wx
  have i15 := fun wx => run_put_stb Tryz.underlying77 Tryz.underlying9 signT 15 [126] rfl (by decide) wx
  have i16 := fun wx => run_put_stb Tryz.underlying77 Tryz.underlying9 signT 16 [60] rfl (by decide) wx
  have i17 := fun wx => run_put_stb Tryz.underlying77 Tryz.underlying9 signT 17 [60, 60] rfl (by decide) wx
  have i18 := fun wx => run_put_stb Tryz.underlying77 Tryz.underlying9 signT 18 [60, 60, 60] rfl (by decide) wx
  have i19 := fun wx => run_put_stb Tryz.underlying77 Tryz.underlying9 signT 19 [60, 61] rfl (by decide) wx
  have i20 := fun wx => run_put_stb Tryz.underlying77 Tryz.underlying9 signT 20 [62] rfl (by decide) wx
  have i21 := fun wx => run_put_stb Tryz.underlying77 Tryz.underlying9 signT 21 [62, 62] rfl (by decide) wx
  have i22 := fun wx => run_put_stb Tryz.underlying77 Tryz.underlying9 signT 22 [62, 62, 62] rfl (by decide) wx
  have i23 := fun wx => run_put_stb Tryz.underlying77 Tryz.underlying9 signT 23 [62, 62, 62, 62] rfl (by decide) wx
  have i24 := fun wx => run_put_stb Tryz.underlying77 Tryz.underlying9 signT 24 [61, 61] rfl (by decide) wx
  have i25 := fun wx => run_put_stb Tryz.underlying77 Tryz.underlying9 signT 25 [33, 61] rfl (by decide) wx
  have i26 := fun wx => run_put_stb Tryz.underlying77 Tryz.underlying9 signT 26 [45, 62] rfl (by decide) wx
  go_enter Tryz.func51, Tryz.ntmps51
  go_wp2
  go_ret
  exact mapAt_new w
end Go.Proofs.YtgffiggnmklcoaaGreatDoor
