/- The document's memory: ask, Store, StoreByte. -/
import Derived.Test.YtajjpaabkdgjbaaD2
namespace Go.Proofs.Ytajjpaabkdgjbaa
open Go.RowKit

theorem refPlace_any (l : List Rg) (bt : Nat → Nat) (B g a : Nat) (w : World) (h : RefIs w B g l bt) (hok : l.all Rg.ok = true) (ha : a < 18446744073709551616) :
    Calls Try.prog 18 #[.pointer (some ⟨g, 0, none⟩), .int .u64 a] w fun e w' => e = .returned (.tuple #[.int .i64 (placeOf l a).1, .int .i64 (placeOf l a).2]) ∧ Below w.heap.size w w' := by
  rcases Nat.lt_or_ge a 49152 with h1 | h1
  · exact refPlace_low l bt B g a w h hok h1
  · rcases Nat.lt_or_ge a 65536 with h2 | h2
    · exact refPlace_stack l bt B g a w h h2 h1
    · exact refPlace_top l bt B g a w h hok ha h2

set_option maxHeartbeats 400000 in
theorem ask_any (l : List Rg) (bt : Nat → Nat) (B g a : Nat) (w : World) (h : RefIs w B g l bt) (hok : l.all Rg.ok = true) (ha : a < 18446744073709551616) :
    Calls Try.prog 39 #[.pointer (some ⟨g, 0, none⟩), .int .u64 a] w fun e w' => e = .returned (.int .i64 (errW l a)) ∧ Below w.heap.size w w' := by
  have HP := Lib.hid (refPlace_any l bt B g a w h hok ha)
  clear h
  by_cases h8 : a % 8 = 0
  · rw [errW, if_pos h8, errB]
    have d0 : ((a : Int) % 8 != 0) = false := by simp; omega
    generalize placeOf l a = z at HP ⊢
    clear h8
    obtain ⟨z1, z2⟩ := z
    by_cases hz : z1 = -2
    · subst hz
      go_enter Try.func39, Try.ntmps39
      go_wp2_with (first | (go_at_call 18; refine HP.out.mono ?_; rintro e w' ⟨rfl, hB⟩))
      go_ret
      exact ⟨rfl, hB⟩
    · have dz : (z1 == -2) = false := by simpa using hz
      rw [if_neg hz]
      go_enter Try.func39, Try.ntmps39
      go_wp2_with (first | (go_at_call 18; refine HP.out.mono ?_; rintro e w' ⟨rfl, hB⟩))
      go_ret
      exact ⟨rfl, hB⟩
  · rw [errW, if_neg h8]
    have d0 : ((a : Int) % 8 != 0) = true := by simp; omega
    clear h8 HP
    go_enter Try.func39, Try.ntmps39
    go_wp2_with fail
    go_ret
    exact ⟨rfl, Below.refl _ _⟩
set_option maxHeartbeats 400000 in
theorem refStore_no (l : List Rg) (bt : Nat → Nat) (B g a x : Nat) (w : World) (h : RefIs w B g l bt) (hok : l.all Rg.ok = true) (ha : a < 18446744073709551616) (h0 : errW l a ≠ 0) :
    Calls Try.prog 57 #[.pointer (some ⟨g, 0, none⟩), .int .u64 a, .int .u64 x] w fun e w' => e = .returned (.int .i64 (errW l a)) ∧ Below w.heap.size w w' := by
  have HC := Lib.hid (ask_any l bt B g a w h hok ha)
  have d0 : (errW l a != 0) = true := by simpa using h0
  generalize errW l a = z at HC d0 ⊢
  clear h h0
  go_enter Try.func57, Try.ntmps57
  go_wp2_with (first | (go_at_call 39; refine HC.out.mono ?_; rintro e w' ⟨rfl, hB⟩))
  go_ret
  exact ⟨rfl, hB⟩
set_option maxHeartbeats 400000 in
theorem refStore_yes (l : List Rg) (bt : Nat → Nat) (B g a x : Nat) (w : World) (h : RefIs w B g l bt) (hok : l.all Rg.ok = true) (h0 : errW l a = 0) (hx : x < 18446744073709551616) :
    Calls Try.prog 57 #[.pointer (some ⟨g, 0, none⟩), .int .u64 a, .int .u64 x] w fun e w' => e = .returned (.int .i64 0) ∧ RefIs w' B g l (putN bt a x 8) ∧ AgX B g w w' := by
  have ha8 : a < 65536 := errB_lt hok (errW_0 h0).2
  have ham := (errW_0 h0).1
  have HC := Lib.hid (ask_any l bt B g a w h hok (by omega))
  have HR := Lib.hid h
  have hwi := wrap_i (a : Int) (by omega) (by omega)
  rw [h0] at HC
  clear h h0
  go_enter Try.func57, Try.ntmps57
  go_wp2_with (first | (go_at_call 39; refine HC.out.mono ?_; rintro e w1 ⟨rfl, hB⟩; have HB := Lib.hid hB; clear hB) | (go_at_call 56; refine (put_any l bt B g a x _ (HR.out.later HB.out) (by omega) hx).mono ?_; rintro e w2 ⟨rfl, hR, hA⟩))
  go_ret
  exact ⟨rfl, hR, (AgX.of HB.out).trans hA⟩
set_option maxHeartbeats 400000 in
theorem refStoreB_no (l : List Rg) (bt : Nat → Nat) (B g a x : Nat) (w : World) (h : RefIs w B g l bt) (hok : l.all Rg.ok = true) (ha : a < 18446744073709551616) (h0 : errB l a ≠ 0) :
    Calls Try.prog 59 #[.pointer (some ⟨g, 0, none⟩), .int .u64 a, .int .u8 x] w fun e w' => e = .returned (.int .i64 (errB l a)) ∧ Below w.heap.size w w' := by
  have HP := Lib.hid (refPlace_any l bt B g a w h hok ha)
  clear h
  unfold errB at h0 ⊢
  generalize placeOf l a = z at HP h0 ⊢
  obtain ⟨z1, z2⟩ := z
  by_cases hz : z1 = -2
  · subst hz
    go_enter Try.func59, Try.ntmps59
    go_wp2_with (first | (go_at_call 18; refine HP.out.mono ?_; rintro e w' ⟨rfl, hB⟩))
    go_ret
    exact ⟨rfl, hB⟩
  · exact absurd (if_neg hz) h0
set_option maxHeartbeats 800000 in
theorem refStoreB_yes (l : List Rg) (bt : Nat → Nat) (B g a x : Nat) (w : World) (h : RefIs w B g l bt) (hok : l.all Rg.ok = true) (h0 : errB l a = 0) (hx : x < 256) :
    Calls Try.prog 59 #[.pointer (some ⟨g, 0, none⟩), .int .u64 a, .int .u8 x] w fun e w' => e = .returned (.int .i64 0) ∧ RefIs w' B g l (upd bt a x) ∧ AgX B g w w' := by
  have ha8 : a < 65536 := errB_lt hok h0
  have HP := Lib.hid (refPlace_any l bt B g a w h hok (by omega))
  obtain ⟨q, h2, h3, h4, h5⟩ := h.ptr
  have HR := Lib.hid h
  have H2 := Lib.hid h2
  have hwi := wrap_i (a : Int) (by omega) (by omega)
  clear h h2
  unfold errB at h0
  generalize placeOf l a = z at HP h0
  obtain ⟨z1, z2⟩ := z
  have hz : ¬ z1 = -2 := fun hz => by rw [if_pos hz] at h0; cases h0
  have dz : (z1 == -2) = false := by simpa using hz
  clear h0 hz
  go_enter Try.func59, Try.ntmps59
  go_wp2_with (first | (go_at_call 18; refine HP.out.mono ?_; rintro e w1 ⟨rfl, hB⟩; have k2 := (hB.cell (p := ⟨g, 1, none⟩) h5).trans H2.out; obtain ⟨kc, kz⟩ := (HR.out.later hB).byt k2 a ha8; generalize bt a = y0 at kc; have HB := Lib.hid hB; clear hB))
  go_ret
  exact ⟨rfl, (HR.out.later HB.out).set ((HB.out.cell (p := ⟨g, 1, none⟩) h5).trans H2.out) a x ha8 hx, (AgX.of HB.out).trans (AgX.setCell _ h3 (by omega))⟩
end Go.Proofs.Ytajjpaabkdgjbaa
