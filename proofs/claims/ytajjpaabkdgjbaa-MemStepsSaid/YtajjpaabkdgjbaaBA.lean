/- LoadByte, StoreByte. -/
import Derived.Test.YtajjpaabkdgjbaaB9
import Derived.StillTailTactics
import Derived.Test.YtajjpaabkdgjbaaN1
namespace Go.Proofs.Ytajjpaabkdgjbaa
open Go.RowKit

set_option maxHeartbeats 400000 in
theorem shiftOf_any (a : Nat) (w : World) (ha : a < 18446744073709551616) :
    Calls Try.prog 61 #[.int .u64 a] w fun e w' => e = .returned (.int .u64 ((a % 8 * 8 : Nat) : Int)) ∧ w = w' := by
  go_enter Try.func61, Try.ntmps61
  go_wp2_with fail
  go_ret
  exact ⟨ret_int (by simp), rfl⟩

set_option maxHeartbeats 1600000 in
theorem byteAt_any (l : List Rg) (f : Nat → Nat) (B g a : Nat) (w : World) (h : MemIs w B g l f) (ha : a < 65536) :
    Calls Try.prog 42 #[.pointer (some ⟨g, 0, none⟩), .int .u64 a] w fun e w' => e = .returned (.int .u8 ((byteOf (f (a / 8)) (a % 8) : Nat) : Int)) ∧ Below w.heap.size w w' := by
  obtain ⟨j, hj⟩ : ∃ j, a / 8 = j := ⟨_, rfl⟩
  have hlt : j < 8192 := by omega
  obtain ⟨hc, hz⟩ := h.cell j hlt
  have hT : (a : Int).tdiv 8 = (j : Int) := by rw [Int.tdiv_eq_ediv_of_nonneg (by omega)]; omega
  have i0 : (0 : Int) ≤ (j : Int) := by omega
  have hU : IntKind.u64.wrap (j : Int) = (j : Int) := wrap_u _ (by omega) (by omega)
  have i1 : (j : Int) < 8192 := by omega
  clear h
  unfold byteOf
  rw [hj]
  generalize f j = v at hc ⊢
  obtain ⟨k, hk⟩ : ∃ k, a % 8 * 8 = k := ⟨_, rfl⟩
  have CS := shiftOf_any a
  rw [hk] at CS
  have HK := Lib.hid (And.intro hk hj)
  have hk2 : k ≤ 56 := by omega
  have CS := Lib.hid CS
  clear hk hj
  go_enter Try.func42, Try.ntmps42
  go_wp2_with fail
  go_quiet ((go_at_call 61; exact Calls.quiet_of_same ((CS.out _ (by omega)).mono fun e w1 h => ⟨h.1, h.2.symm⟩)))
  go_wp2_with fail
  go_ret
  rw [HK.out.1]
  exact ⟨ret_int (by simp), below_drewN (Below.refl _ _) _⟩

/-- what LoadByte answers -/
def loadB (l : List Rg) (f : Nat → Nat) (a : Nat) : Nat := if errB l a = 0 then byteOf (f (a / 8)) (a % 8) else 0
set_option maxHeartbeats 400000 in
theorem loadByte_any (l : List Rg) (f : Nat → Nat) (B g a : Nat) (w : World) (h : MemIs w B g l f) (hok : l.all Rg.ok = true) (ha : a < 18446744073709551616) :
    Calls Try.prog 15 #[.pointer (some ⟨g, 0, none⟩), .int .u64 a] w fun e w' => e = .returned (.tuple #[.int .u8 (loadB l f a), .int .i64 (errB l a)]) ∧ Below w.heap.size w w' := by
  have HC := Lib.hid (checkByte_any l f B g a w h hok ha)
  have HM := Lib.hid h
  by_cases h0 : errB l a = 0
  · have ha8 : a < 65536 := errB_lt hok h0
    rw [loadB, if_pos h0, h0]
    rw [h0] at HC
    clear h h0
    generalize hz : byteOf (f (a / 8)) (a % 8) = z
    have HZ := Lib.hid hz
    clear hz
    go_enter Try.func15, Try.ntmps15
    go_wp2_with (first | (go_at_call 41; refine HC.out.mono ?_; rintro e w' ⟨rfl, hB⟩; have HY := Lib.hid (byteAt_any l f B g a w' (HM.out.later hB) ha8); have HB := Lib.hid hB; clear hB) | (go_at_call 42; refine HY.out.mono ?_; rw [HZ.out]; rintro e w2 ⟨rfl, hB2⟩))
    go_ret2
    exact ⟨rfl, HB.out.trans (hB2.mono HB.out.size)⟩
  · have d0 : (errB l a != 0) = true := by simpa using h0
    rw [loadB, if_neg h0]
    generalize errB l a = z at HC d0 ⊢
    clear h h0
    go_enter Try.func15, Try.ntmps15
    go_wp2_with (first | (go_at_call 41; refine HC.out.mono ?_; rintro e w' ⟨rfl, hB⟩))
    go_ret2
    exact ⟨rfl, hB⟩
end Go.Proofs.Ytajjpaabkdgjbaa
