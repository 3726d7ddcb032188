import Derived.Test.YtklepefljdiepaaW3
import Derived.Test.YtklepefljdiepaaM2
import Derived.Lib.Hide
namespace Go.Proofs.Ytklepefljdiepaa
open Go.RowKit

set_option maxHeartbeats 400000 in
theorem bit_any (a i : Int) (w : World) (a0 : 0 ≤ a) (a1 : a < 18446744073709551616) (i0 : 0 ≤ i) (i1 : i ≤ 64) :
    Calls Try.prog 70 #[.int .u64 a, .int .u64 i] w fun e w' => e = .returned (.bool (WM.bit a.toNat i.toNat)) ∧ w = w' := by
  obtain ⟨i, rfl⟩ := Int.eq_ofNat_of_zero_le i0
  obtain ⟨a, rfl⟩ := Int.eq_ofNat_of_zero_le a0
  go_enter Try.func70, Try.ntmps70
  go_wp2
  go_ret
  exact ⟨ret_bool (WM.w_bit a i (by omega)), rfl⟩
set_option maxHeartbeats 400000 in
theorem round_any (k a m : Int) (w : World) (k0 : 0 ≤ k) (k1 : k ≤ 64) (a0 : 0 ≤ a) (a1 : a < 18446744073709551616) (m0 : 0 ≤ m) (m1 : m ≤ k) :
    Calls Try.prog 74 #[.int .i64 k, .int .u64 a, .int .u64 m] w fun e w' => e = .returned (.int .u64 ((WM.rot k.toNat a.toNat m.toNat : Nat) : Int)) ∧ w = w' := by
  obtain ⟨k, rfl⟩ := Int.eq_ofNat_of_zero_le k0
  obtain ⟨a, rfl⟩ := Int.eq_ofNat_of_zero_le a0
  obtain ⟨m, rfl⟩ := Int.eq_ofNat_of_zero_le m0
  have hw : IntKind.u64.wrap (k : Int) = k := by rw [IntKind.wrap_u64]; omega
  have hd : IntKind.u64.wrap ((k : Int) - m) = (k : Int) - m := by rw [IntKind.wrap_u64]; omega
  go_enter Try.func74, Try.ntmps74
  go_wp2_with fail
  rw [WM.w_rot (by omega) (by omega)]
  refine (low_any _ _ _ (by omega) (by omega) (by omega)).mono ?_
  rintro e w' ⟨rfl, rfl⟩
  go_wp2
  go_ret
  exact ⟨rfl, rfl⟩
set_option maxHeartbeats 400000 in
theorem counted_any (k n : Int) (w : World) (n0 : 0 ≤ n) :
    Calls Try.prog 51 #[.int .i64 k, .int .u64 n] w fun e w' => e = .returned (.int .u64 ((WM.counted k.toNat n.toNat : Nat) : Int)) ∧ w = w' := by
  obtain ⟨n, rfl⟩ := Int.eq_ofNat_of_zero_le n0
  go_enter Try.func51, Try.ntmps51
  go_wp2
  · have h : (k == 64) = true := by assumption
    go_ret
    exact ⟨ret_int (by have := eq_of_beq h; subst this; simp [WM.counted]), rfl⟩
  · have h : (k == 64) = false := by assumption
    have h' : k.toNat ≠ 64 := by have := ne_of_beq_false h; omega
    go_ret
    exact ⟨ret_int (by simp [WM.counted, h']), rfl⟩
def shT : List (Int × Nat) := [(1, 69), (2, 71), (3, 72), (4, 73), (5, 75)]
set_option maxHeartbeats 400000 in
theorem shifts_any (w : World) : Calls Try.prog 50 #[] w (MapAt shT w) := by
  have hmm := @run_makeMap Try.prog
  have i0 := fun wx => run_put_ft0 Try.underlying86 Try.underlying51 shT 1 69 rfl wx
  have i1 := fun wx => run_put_ft Try.underlying86 Try.underlying51 shT 1 2 71 rfl (by rfl) wx
  have i2 := fun wx => run_put_ft Try.underlying86 Try.underlying51 shT 2 3 72 rfl (by rfl) wx
  have i3 := fun wx => run_put_ft Try.underlying86 Try.underlying51 shT 3 4 73 rfl (by rfl) wx
  have i4 := fun wx => run_put_ft Try.underlying86 Try.underlying51 shT 4 5 75 rfl (by rfl) wx
  go_enter Try.func50, Try.ntmps50
  go_wp2
  go_ret
  exact mapAt_new shT 5 rfl w
/-- What a function of the table does: just the shift. -/
def ShOk (f op : Nat) : Prop := ∀ (k a n : Nat) (w : World), 8 ≤ k → k ≤ 64 → a < 2 ^ k → 1 ≤ n → n < 64 →
    Calls Try.prog f #[.int .i64 k, .int .u64 a, .int .u64 n] w fun e w' => e = .returned (.tuple #[.int .u64 ((WM.shX op k a n : Nat) : Int), .bool (WM.shC op k a n), .bool (WM.shO op k a n)]) ∧ w = w'
set_option maxHeartbeats 400000 in
theorem sh1_any : ShOk 69 1 := by
  intro k a n w k0 k1 ha n0 n1
  have ha' : a < 18446744073709551616 := Nat.lt_of_lt_of_le ha (WM.pow_le64 k1)
  have hw : IntKind.u64.wrap (k : Int) = k := by rw [IntKind.wrap_u64]; omega
  have hd : n ≤ k → IntKind.u64.wrap ((k : Int) - n) = (k : Int) - n := by intro h; rw [IntKind.wrap_u64]; omega
  have hl := WM.low_lt64 (WM.shl a n) k1
  have hs := WM.shl_lt a n
  go_enter Try.func69, Try.ntmps69
  go_wp2_with fail
  rw [WM.w_shl']
  refine (low_any _ _ _ (by omega) (by omega) (by omega)).mono ?_
  rintro e w' ⟨rfl, rfl⟩
  rw [Int.toNat_natCast, Int.toNat_natCast]
  generalize hX : WM.low k (WM.shl a n) = X at hl
  have HX := Lib.hid hX
  clear hX
  by_cases c : n ≤ k
  · have hd' := hd c
    have c' : decide (n ≤ k) = true := by simpa using c
    clear hd
    go_wp2_with (first | (go_at_call 40; refine (low_any _ _ _ (by omega) (by omega) (by omega)).mono ?_; rintro e w' ⟨rfl, rfl⟩) | (go_at_call 70; refine (bit_any _ _ _ (by omega) (by omega) (by omega) (by omega)).mono ?_; rintro e w' ⟨rfl, rfl⟩) | (go_at_call 67; refine (top_any _ _ _ (by omega) (by omega) (by omega) (by omega)).mono ?_; rintro e w' ⟨rfl, rfl⟩))
    go_ret3
    exact ⟨ret_ibb (by simp [WM.shX, HX.out]) (by simp [WM.shC, c']) (by rw [Bool.eq_iff_iff]; simp [WM.shO, WM.shC, WM.shX, HX.out, c']), rfl⟩
  · have c' : decide (n ≤ k) = false := by simpa using c
    clear hd
    go_wp2_with (first | (go_at_call 40; refine (low_any _ _ _ (by omega) (by omega) (by omega)).mono ?_; rintro e w' ⟨rfl, rfl⟩) | (go_at_call 70; refine (bit_any _ _ _ (by omega) (by omega) (by omega) (by omega)).mono ?_; rintro e w' ⟨rfl, rfl⟩) | (go_at_call 67; refine (top_any _ _ _ (by omega) (by omega) (by omega) (by omega)).mono ?_; rintro e w' ⟨rfl, rfl⟩))
    go_ret3
    exact ⟨ret_ibb (by simp [WM.shX, HX.out]) (by simp [WM.shC, c']) (by rw [Bool.eq_iff_iff]; simp [WM.shO, WM.shC, WM.shX, HX.out, c']), rfl⟩
set_option maxHeartbeats 400000 in
theorem sh2_any : ShOk 71 2 := by
  intro k a n w k0 k1 ha n0 n1
  have ha' : a < 18446744073709551616 := Nat.lt_of_lt_of_le ha (WM.pow_le64 k1)
  have hd : IntKind.u64.wrap ((n : Int) - 1) = (n : Int) - 1 := by rw [IntKind.wrap_u64]; omega
  go_enter Try.func71, Try.ntmps71
  go_wp2_with (first | (go_at_call 40; refine (low_any _ _ _ (by omega) (by omega) (by omega)).mono ?_; rintro e w' ⟨rfl, rfl⟩) | (go_at_call 70; refine (bit_any _ _ _ (by omega) (by omega) (by omega) (by omega)).mono ?_; rintro e w' ⟨rfl, rfl⟩) | (go_at_call 67; refine (top_any _ _ _ (by omega) (by omega) (by omega) (by omega)).mono ?_; rintro e w' ⟨rfl, rfl⟩))
  go_ret3
  exact ⟨ret_ibb (by rw [show WM.shX 2 k a n = a / 2 ^ n from by simp [WM.shX]]; exact WM.w_div a n) (by simp [WM.shC]) (by simp [WM.shO]), rfl⟩
set_option maxHeartbeats 400000 in
theorem sh3_any : ShOk 72 3 := by
  intro k a n w k0 k1 ha n0 n1
  have ha' : a < 18446744073709551616 := Nat.lt_of_lt_of_le ha (WM.pow_le64 k1)
  have hd : IntKind.u64.wrap ((n : Int) - 1) = (n : Int) - 1 := by rw [IntKind.wrap_u64]; omega
  have hs := WM.sig_lt a k1
  have hr := WM.sar_lt (WM.sig k a) n hs
  go_enter Try.func72, Try.ntmps72
  go_wp2_with fail
  refine (sig_any _ _ _ (by omega) (by omega) (by omega)).mono ?_
  rintro e w' ⟨rfl, rfl⟩
  rw [Int.toNat_natCast, Int.toNat_natCast]
  generalize hX : WM.sig k a = s at hs hr
  have HX := Lib.hid hX
  clear hX
  go_wp2_with fail
  rw [WM.w_sar s n hs]
  go_wp2_with (first | (go_at_call 40; refine (low_any _ _ _ (by omega) (by omega) (by omega)).mono ?_; rintro e w' ⟨rfl, rfl⟩) | (go_at_call 70; refine (bit_any _ _ _ (by omega) (by omega) (by omega) (by omega)).mono ?_; rintro e w' ⟨rfl, rfl⟩) | (go_at_call 67; refine (top_any _ _ _ (by omega) (by omega) (by omega) (by omega)).mono ?_; rintro e w' ⟨rfl, rfl⟩))
  go_ret3
  exact ⟨ret_ibb (by simp [WM.shX, HX.out]) (by simp [WM.shC, HX.out]) (by simp [WM.shO]), rfl⟩
theorem mod_le (k n : Nat) (hk : 8 ≤ k) : n % k ≤ k := Nat.le_of_lt (Nat.mod_lt _ (by omega))
set_option maxHeartbeats 400000 in
theorem sh4_any : ShOk 73 4 := by
  intro k a n w k0 k1 ha n0 n1
  have ha' : a < 18446744073709551616 := Nat.lt_of_lt_of_le ha (WM.pow_le64 k1)
  have hw : IntKind.u64.wrap (k : Int) = k := by rw [IntKind.wrap_u64]; omega
  have hm := mod_le k n k0
  have hr : WM.rot k a (n % k) < 18446744073709551616 := Nat.lt_of_lt_of_le (WM.rot_lt _ _ _) (WM.pow_le64 k1)
  go_enter Try.func73, Try.ntmps73
  go_wp2_with fail
  rw [show ((n : Int) % (k : Int)) = ((n % k : Nat) : Int) from (Int.natCast_emod n k).symm]
  refine (round_any _ _ _ _ (by omega) (by omega) (by omega) (by omega) (by omega) (by omega)).mono ?_
  rintro e w' ⟨rfl, rfl⟩
  rw [Int.toNat_natCast, Int.toNat_natCast, Int.toNat_natCast]
  generalize hX : WM.rot k a (n % k) = X at hr
  have HX := Lib.hid hX
  clear hX hm
  go_wp2_with (first | (go_at_call 40; refine (low_any _ _ _ (by omega) (by omega) (by omega)).mono ?_; rintro e w' ⟨rfl, rfl⟩) | (go_at_call 70; refine (bit_any _ _ _ (by omega) (by omega) (by omega) (by omega)).mono ?_; rintro e w' ⟨rfl, rfl⟩) | (go_at_call 67; refine (top_any _ _ _ (by omega) (by omega) (by omega) (by omega)).mono ?_; rintro e w' ⟨rfl, rfl⟩))
  go_ret3
  exact ⟨ret_ibb (by simp [WM.shX, HX.out]) (by simp [WM.shC, HX.out]) (by rw [Bool.eq_iff_iff]; simp [WM.shO, WM.shC, WM.shX, HX.out]), rfl⟩
set_option maxHeartbeats 400000 in
theorem sh5_any : ShOk 75 5 := by
  intro k a n w k0 k1 ha n0 n1
  have ha' : a < 18446744073709551616 := Nat.lt_of_lt_of_le ha (WM.pow_le64 k1)
  have hw : IntKind.u64.wrap (k : Int) = k := by rw [IntKind.wrap_u64]; omega
  have hw2 : IntKind.u64.wrap ((k : Int) - 2) = (k : Int) - 2 := by rw [IntKind.wrap_u64]; omega
  have hm := mod_le k n k0
  have hr : WM.rot k a (k - n % k) < 18446744073709551616 := Nat.lt_of_lt_of_le (WM.rot_lt _ _ _) (WM.pow_le64 k1)
  go_enter Try.func75, Try.ntmps75
  go_wp2_with fail
  rw [show ((k : Int) - (n : Int) % (k : Int)) = ((k - n % k : Nat) : Int) from by rw [← Int.natCast_emod]; omega]
  refine (round_any _ _ _ _ (by omega) (by omega) (by omega) (by omega) (by omega) (by omega)).mono ?_
  rintro e w' ⟨rfl, rfl⟩
  rw [Int.toNat_natCast, Int.toNat_natCast, Int.toNat_natCast]
  generalize hX : WM.rot k a (k - n % k) = X at hr
  have HX := Lib.hid hX
  clear hX hm
  go_wp2_with (first | (go_at_call 40; refine (low_any _ _ _ (by omega) (by omega) (by omega)).mono ?_; rintro e w' ⟨rfl, rfl⟩) | (go_at_call 70; refine (bit_any _ _ _ (by omega) (by omega) (by omega) (by omega)).mono ?_; rintro e w' ⟨rfl, rfl⟩) | (go_at_call 67; refine (top_any _ _ _ (by omega) (by omega) (by omega) (by omega)).mono ?_; rintro e w' ⟨rfl, rfl⟩))
  go_ret3
  exact ⟨ret_ibb (by simp [WM.shX, HX.out]) (by simp [WM.shC, HX.out]) (by rw [Bool.eq_iff_iff]; simp [WM.shO, WM.shX, HX.out]), rfl⟩
end Go.Proofs.Ytklepefljdiepaa
