/- The document's memory: Load, LoadByte. -/
import Derived.Test.YtajjpaabkdgjbaaD3
import Derived.Test.YtajjpaabkdgjbaaBA
namespace Go.Proofs.Ytajjpaabkdgjbaa
open Go.RowKit

/-- what the document's Load answers -/
def refLoadV (l : List Rg) (bt : Nat → Nat) (a : Nat) : Nat := if errW l a = 0 then wordAt bt a else 0
set_option maxHeartbeats 400000 in
theorem refLoad_any (l : List Rg) (bt : Nat → Nat) (B g a : Nat) (w : World) (h : RefIs w B g l bt) (hok : l.all Rg.ok = true) (ha : a < 18446744073709551616) :
    Calls Try.prog 14 #[.pointer (some ⟨g, 0, none⟩), .int .u64 a] w fun e w' => e = .returned (.tuple #[.int .u64 (refLoadV l bt a : Nat), .int .i64 (errW l a)]) ∧ Below w.heap.size w w' := by
  have HC := Lib.hid (ask_any l bt B g a w h hok ha)
  have HR := Lib.hid h
  by_cases h0 : errW l a = 0
  · have ha8 : a < 65536 := errB_lt hok (errW_0 h0).2
    have ham := (errW_0 h0).1
    have hwi := wrap_i (a : Int) (by omega) (by omega)
    rw [refLoadV, if_pos h0, h0]
    rw [h0] at HC
    clear h h0
    go_enter Try.func14, Try.ntmps14
    go_wp2_with (first | (go_at_call 39; refine HC.out.mono ?_; rintro e w1 ⟨rfl, hB⟩; have HB := Lib.hid hB; clear hB) | (go_at_call 40; refine (get_any l bt B g a _ (HR.out.later HB.out) (by omega)).mono ?_; rintro e w2 ⟨rfl, rfl⟩))
    go_ret2
    exact ⟨rfl, HB.out⟩
  · have d0 : (errW l a != 0) = true := by simpa using h0
    rw [refLoadV, if_neg h0]
    generalize errW l a = z at HC d0 ⊢
    clear h h0
    go_enter Try.func14, Try.ntmps14
    go_wp2_with (first | (go_at_call 39; refine HC.out.mono ?_; rintro e w' ⟨rfl, hB⟩))
    go_ret2
    exact ⟨rfl, hB⟩
/-- what the document's LoadByte answers -/
def refLoadBV (l : List Rg) (bt : Nat → Nat) (a : Nat) : Nat := if errB l a = 0 then bt a else 0
set_option maxHeartbeats 400000 in
theorem refLoadB_any (l : List Rg) (bt : Nat → Nat) (B g a : Nat) (w : World) (h : RefIs w B g l bt) (hok : l.all Rg.ok = true) (ha : a < 18446744073709551616) :
    Calls Try.prog 16 #[.pointer (some ⟨g, 0, none⟩), .int .u64 a] w fun e w' => e = .returned (.tuple #[.int .u8 (refLoadBV l bt a : Nat), .int .i64 (errB l a)]) ∧ Below w.heap.size w w' := by
  have HP := Lib.hid (refPlace_any l bt B g a w h hok ha)
  obtain ⟨q, h2, h3, h4, h5⟩ := h.ptr
  have HR := Lib.hid h
  have H2 := Lib.hid h2
  clear h h2
  by_cases h0 : errB l a = 0
  · have ha8 : a < 65536 := errB_lt hok h0
    rw [refLoadBV, if_pos h0, h0]
    unfold errB at h0
    generalize placeOf l a = z at HP h0
    obtain ⟨z1, z2⟩ := z
    have hz : ¬ z1 = -2 := fun hz => by rw [if_pos hz] at h0; cases h0
    have dz : (z1 == -2) = false := by simpa using hz
    obtain ⟨y, hy⟩ : ∃ y, bt a = y := ⟨_, rfl⟩
    rw [hy]
    have HY := Lib.hid hy
    clear h0 hz hy
    go_enter Try.func16, Try.ntmps16
    go_wp2_with (first | (go_at_call 18; refine HP.out.mono ?_; rintro e w1 ⟨rfl, hB⟩; have k2 := (hB.cell (p := ⟨g, 1, none⟩) h5).trans H2.out; have kc := ((HR.out.later hB).byt k2 a ha8).1; rw [HY.out] at kc; have HB := Lib.hid hB; clear hB))
    go_ret2
    exact ⟨rfl, HB.out⟩
  · rw [refLoadBV, if_neg h0]
    unfold errB at h0 ⊢
    generalize placeOf l a = z at HP h0 ⊢
    obtain ⟨z1, z2⟩ := z
    by_cases hz : z1 = -2
    · subst hz
      go_enter Try.func16, Try.ntmps16
      go_wp2_with (first | (go_at_call 18; refine HP.out.mono ?_; rintro e w' ⟨rfl, hB⟩))
      go_ret2
      exact ⟨rfl, hB⟩
    · exact absurd (if_neg hz) h0
/-- both load alike -/
theorem refLoadV_eq {l : List Rg} {f bt : Nat → Nat} (hok : l.all Rg.ok = true) (hr : RelWB f bt) (hb : ∀ j, bt j < 256) (hf : ∀ j, f j < 18446744073709551616) (a : Nat) : refLoadV l bt a = loadV l f a := by
  unfold refLoadV loadV
  split
  · rename_i h
    have h8 := errB_lt hok (errW_0 h).2
    have hm := (errW_0 h).1
    have := word_eq hr hb hf (a / 8) (by omega)
    rw [← this]; congr 1; omega
  · rfl
theorem refLoadBV_eq {l : List Rg} {f bt : Nat → Nat} (hok : l.all Rg.ok = true) (hr : RelWB f bt) (a : Nat) : refLoadBV l bt a = loadB l f a := by
  unfold refLoadBV loadB
  split
  · rename_i h
    exact hr a (errB_lt hok h)
  · rfl
end Go.Proofs.Ytajjpaabkdgjbaa
