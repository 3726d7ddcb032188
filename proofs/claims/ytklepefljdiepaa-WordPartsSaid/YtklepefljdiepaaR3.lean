import Derived.Test.YtklepefljdiepaaR2
namespace Go.Proofs.Ytklepefljdiepaa
open Go.RowKit
/-- a word's low part, with the top bit in the bits from k to j -/
def sgV (k L j : Nat) : Nat := L + (2 ^ j - 2 ^ k)
theorem sgV_top {k L j : Nat} (h1 : 1 ≤ k) (hj : k ≤ j) (hL : L < 2 ^ k) (ht : WM.top k L = true) : WM.top k (sgV k L j) = true := by
  have e : 2 ^ j - 2 ^ k = 2 ^ k * (2 ^ (j - k) - 1) := by
    rw [Nat.mul_sub, ← Nat.pow_add, show k + (j - k) = j by omega, Nat.mul_one]
  rw [← WM.top_low _ h1, show WM.low k (sgV k L j) = L from by unfold WM.low sgV; rw [e, Nat.add_mul_mod_self_left, Nat.mod_eq_of_lt hL]]
  exact ht
theorem sgV_succ {k L j : Nat} (hj : k ≤ j) (hj2 : j < 64) (hL : L < 2 ^ k) : IntKind.u64.wrap (((sgV k L j : Nat) : Int) + IntKind.u64.wrap ((2 : Int) ^ j)) = ((sgV k L (j + 1) : Nat) : Int) ∧ sgV k L (j + 1) < 18446744073709551616 := by
  have hp : 2 ^ k ≤ 2 ^ j := Nat.pow_le_pow_right (by decide) hj
  have hq : 2 ^ (j + 1) ≤ 18446744073709551616 := WM.pow_le64 (by omega)
  have e : ((2 : Int) ^ j) = ((2 ^ j : Nat) : Int) := by rw [Int.natCast_pow]; rfl
  rw [e, IntKind.wrap_u64, IntKind.wrap_u64]
  unfold sgV
  rw [Nat.pow_succ] at hq ⊢
  generalize 2 ^ j = J at *
  generalize 2 ^ k = K at *
  omega
set_option maxHeartbeats 800000 in
theorem refSig_any (k a : Nat) (w : World) (hk : k = 8 ∨ k = 16 ∨ k = 32 ∨ k = 64) (ha : a < 18446744073709551616) :
    Calls Try.prog 25 #[.int .i64 k, .int .u64 a] w fun e w' => e = .returned (.int .u64 ((WM.sig k a : Nat) : Int)) ∧ w = w' := by
  have h1 : 1 ≤ k := by omega
  have h64 : k ≤ 64 := by omega
  have hL := WM.low_lt k a
  obtain ⟨L, hLe⟩ : ∃ L, WM.low k a = L := ⟨_, rfl⟩
  have hS : WM.sig k a = if WM.top k L = true then sgV k L 64 else L := by
    unfold WM.sig sgV; rw [← hLe, WM.top_low a h1, WM.two64]
  rw [hLe] at hL
  have CL := Lib.hid (refLow_any k a · hk ha)
  rw [hLe] at CL
  have hL64 : L < 18446744073709551616 := Nat.lt_of_lt_of_le hL (WM.pow_le64 h64)
  rw [hS]
  clear hS hLe hk ha
  cases ht : WM.top k L with
  | false =>
    have CT := Lib.hid (refTop_any k L · h1 h64)
    rw [ht] at CT
    have HL := Lib.hid hL
    clear hL ht hL64
    rw [if_neg (by decide)]
    by_cases hk : k = 64
    · subst hk
      go_enter Try.func25, Try.ntmps25
      go_wp2_with fail
      refine (CL.out _).mono ?_
      rintro e w' ⟨rfl, rfl⟩
      go_wp2_with fail
      refine wp_loop_rounds 1 ?_
      rw [rounds_succ]
      go_wp2_with fail
      go_ret
      exact ⟨rfl, rfl⟩
    · have d1 : decide ((k : Int) < 64) = true := decide_eq_true (by omega)
      clear hk
      go_enter Try.func25, Try.ntmps25
      go_wp2_with fail
      refine (CL.out _).mono ?_
      rintro e w' ⟨rfl, rfl⟩
      go_wp2_with fail
      refine wp_loop_rounds 1 ?_
      rw [rounds_succ]
      go_wp2_with (go_at_call 43; refine (CT.out _).mono ?_; rintro e w' ⟨rfl, rfl⟩)
      go_ret
      exact ⟨rfl, rfl⟩
  | true =>
    rw [if_pos rfl]
    go_enter Try.func25, Try.ntmps25
    go_wp2_with fail
    refine (CL.out _).mono ?_
    rintro e w' ⟨rfl, rfl⟩
    have HL := Lib.hid hL
    have HT := Lib.hid ht
    clear hL ht hL64
    go_wp2_with fail
    go_loopw [1, 5] (fun v i wr => ∃ j : Nat, k ≤ j ∧ j ≤ 64 ∧ i = .int .i64 j ∧ v = .int .u64 ((sgV k L j : Nat) : Int) ∧ w = wr) (fun _ i _ => 64 - (intOf i).toNat)
    case atStart => exact ⟨k, Nat.le_refl _, h64, rfl, by unfold sgV; simp, rfl⟩
    case round =>
      obtain ⟨j, hj1, hj2, rfl, rfl, rfl⟩ := hrel
      by_cases hlt : j < 64
      · have d1 : decide ((j : Int) < 64) = true := decide_eq_true (by omega)
        have CT := Lib.hid (refTop_any k (sgV k L j) · h1 h64)
        rw [sgV_top h1 hj1 HL.out HT.out] at CT
        have hs := Lib.hid (sgV_succ hj1 hlt HL.out)
        have hw : IntKind.u64.wrap (j : Int) = (j : Int) := by rw [IntKind.wrap_u64]; omega
        go_wp2_with (go_at_call 43; refine (CT.out _).mono ?_; rintro e w' ⟨rfl, rfl⟩)
        exact ⟨⟨j + 1, by omega, by omega, by go_num, congrArg _ hs.out.1, trivial⟩, by simp [intOf]; omega⟩
      · obtain rfl : j = 64 := by omega
        go_wp2_with fail
        go_ret
        exact ⟨rfl, rfl⟩
end Go.Proofs.Ytklepefljdiepaa
