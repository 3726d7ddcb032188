/- StoreByte. -/
import Derived.Test.YtajjpaabkdgjbaaBA
namespace Go.Proofs.Ytajjpaabkdgjbaa
open Go.RowKit

set_option maxHeartbeats 400000 in
theorem storeB_no (l : List Rg) (f : Nat → Nat) (B g a x : Nat) (w : World) (h : MemIs w B g l f) (hok : l.all Rg.ok = true) (ha : a < 18446744073709551616) (h0 : errB l a ≠ 0) :
    Calls Try.prog 58 #[.pointer (some ⟨g, 0, none⟩), .int .u64 a, .int .u8 x] w fun e w' => e = .returned (.int .i64 (errB l a)) ∧ Below w.heap.size w w' := by
  have HC := Lib.hid (checkByte_any l f B g a w h hok ha)
  have d0 : (errB l a != 0) = true := by simpa using h0
  generalize errB l a = z at HC d0 ⊢
  clear h h0
  go_enter Try.func58, Try.ntmps58
  go_wp2_with (first | (go_at_call 41; refine HC.out.mono ?_; rintro e w' ⟨rfl, hB⟩))
  go_ret
  exact ⟨rfl, hB⟩
set_option maxHeartbeats 1600000 in
theorem storeB_yes (l : List Rg) (f : Nat → Nat) (B g a x : Nat) (w : World) (h : MemIs w B g l f) (hok : l.all Rg.ok = true) (h0 : errB l a = 0) (hx : x < 256) :
    Calls Try.prog 58 #[.pointer (some ⟨g, 0, none⟩), .int .u64 a, .int .u8 x] w fun e w' => e = .returned (.int .i64 0) ∧ MemIs w' B g l (upd f (a / 8) (setByte (f (a / 8)) (a % 8) x)) ∧ Agr g w w' := by
  have ha8 : a < 65536 := errB_lt hok h0
  have HC := Lib.hid (checkByte_any l f B g a w h hok (by omega))
  have HM := Lib.hid h
  have hv64 := h.lt (a / 8)
  rw [h0] at HC
  clear h h0
  obtain ⟨j, hj⟩ : ∃ j, a / 8 = j := ⟨_, rfl⟩
  have hlt : j < 8192 := by omega
  have hT : (a : Int).tdiv 8 = (j : Int) := by rw [Int.tdiv_eq_ediv_of_nonneg (by omega)]; omega
  have i0 : (0 : Int) ≤ (j : Int) := by omega
  have hU : IntKind.u64.wrap (j : Int) = (j : Int) := wrap_u _ (by omega) (by omega)
  have i1 : (j : Int) < 8192 := by omega
  rw [hj] at hv64 ⊢
  obtain ⟨k, hk⟩ : ∃ k, a % 8 * 8 = k := ⟨_, rfl⟩
  have CS := shiftOf_any a
  rw [hk] at CS
  have HK := Lib.hid (And.intro hk hj)
  have hk2 : k ≤ 56 := by omega
  have CS := Lib.hid CS
  clear hk hj
  obtain ⟨v, hv⟩ : ∃ v, f j = v := ⟨_, rfl⟩
  have HV := Lib.hid hv
  clear hv
  go_enter Try.func58, Try.ntmps58
  go_wp2_with (first | (go_at_call 41; refine HC.out.mono ?_; rintro e w' ⟨rfl, hB⟩; obtain ⟨hc, hz⟩ := (HM.out.later hB).cell j hlt; rw [HV.out] at hc; have HB := Lib.hid hB; clear hB))
  go_quiet ((go_at_call 61; exact Calls.quiet_of_same ((CS.out _ (by omega)).mono fun e w1 h => ⟨h.1, h.2.symm⟩)))
  go_wp2_with fail
  go_ret
  have hs : bits .or .u64 (bits .andNot .u64 (v : Int) (IntKind.u64.wrap (255 * 2 ^ k))) (IntKind.u64.wrap ((x : Int) * 2 ^ k)) = ((setByte (f j) (a % 8) x : Nat) : Int) := by
    rw [HV.out, ← HK.out.1]; exact set_is v (a % 8) x (by omega) hx (by rw [← HV.out]; exact hv64)
  rw [hs]
  exact ⟨rfl, ((HM.out.later HB.out).drewN).set _ _ hlt (set_lt _ _ _ (by omega) hx hv64), (Agr.of HB.out).trans (Agr.drewN.trans (Agr.setCell _))⟩
end Go.Proofs.Ytajjpaabkdgjbaa
