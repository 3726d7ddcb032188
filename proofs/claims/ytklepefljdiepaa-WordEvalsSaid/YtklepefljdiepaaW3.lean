import Derived.Test.YtklepefljdiepaaW2
import Derived.Test.YtklepefljdiepaaFM
namespace Go.Proofs.Ytklepefljdiepaa
open Go.RowKit

def binT : List (Int × Nat) := [(1, 58), (2, 59), (3, 60), (4, 61), (5, 62), (6, 63), (7, 64), (8, 65)]
set_option maxHeartbeats 400000 in
theorem binaries_any (w : World) : Calls Try.prog 47 #[] w (MapAt binT w) := by
  have hmm := @run_makeMap Try.prog
  have i0 := fun wx => run_put_ft0 Try.underlying79 Try.underlying42 binT 1 58 rfl wx
  have i1 := fun wx => run_put_ft Try.underlying79 Try.underlying42 binT 1 2 59 rfl (by rfl) wx
  have i2 := fun wx => run_put_ft Try.underlying79 Try.underlying42 binT 2 3 60 rfl (by rfl) wx
  have i3 := fun wx => run_put_ft Try.underlying79 Try.underlying42 binT 3 4 61 rfl (by rfl) wx
  have i4 := fun wx => run_put_ft Try.underlying79 Try.underlying42 binT 4 5 62 rfl (by rfl) wx
  have i5 := fun wx => run_put_ft Try.underlying79 Try.underlying42 binT 5 6 63 rfl (by rfl) wx
  have i6 := fun wx => run_put_ft Try.underlying79 Try.underlying42 binT 6 7 64 rfl (by rfl) wx
  have i7 := fun wx => run_put_ft Try.underlying79 Try.underlying42 binT 7 8 65 rfl (by rfl) wx
  go_enter Try.func47, Try.ntmps47
  go_wp2
  go_ret
  exact mapAt_new binT 8 rfl w
set_option maxHeartbeats 400000 in
theorem withAnswer_any (k x : Int) (c o : Bool) (w : World) (k0 : 1 ≤ k) (k1 : k ≤ 64) (x0 : 0 ≤ x) (x1 : x < 18446744073709551616) :
    Calls Try.prog 49 #[.int .i64 k, .int .u64 x, .bool c, .bool o] w fun e w' => e = .returned (.agg #[.bool c, .bool (x.toNat == 0), .bool (WM.top k.toNat x.toNat), .bool o, .bool (WM.par x.toNat)]) ∧ Below w.heap.size w w' := by
  obtain ⟨x, rfl⟩ := Int.eq_ofNat_of_zero_le x0
  go_enter Try.func49, Try.ntmps49
  go_wp2_with (first | (go_at_call 67; refine (top_any _ _ _ (by omega) (by omega) (by omega) (by omega)).mono ?_; rintro e w' ⟨rfl, rfl⟩) | (go_at_call 68; refine (Try.bits_OnesCount8 _ _ (by omega) (by omega)).mono ?_; rintro e w' ⟨rfl, rfl⟩))
  refine bodyPost_ret (v := .agg #[.bool c, .bool ((x : Int) == 0), .bool (WM.top k.toNat x), .bool o, .bool (((Lib.onesCount (x % 256) : Nat) : Int) % 2 == 0)]) (by simp [results, Try.results49, go_sem]) rfl ⟨?_, (Below.refl _ _).alloc (Nat.le_refl _) _⟩
  exact congrArg _ (agg5 rfl (zero_eq x) rfl rfl (WM.par_eq x))
/-- What a function of the table does: just the operation. -/
def BinOk (f op : Nat) : Prop := ∀ (k a b c : Int) (w : World), 1 ≤ k → k ≤ 64 → 0 ≤ a → a < 18446744073709551616 → 0 ≤ b → b < 18446744073709551616 → 0 ≤ c → c ≤ 1 →
    Calls Try.prog f #[.int .i64 k, .int .u64 a, .int .u64 b, .int .u64 c] w fun e w' => e = .returned (.tuple #[.int .u64 ((WM.binX op k.toNat a.toNat b.toNat c.toNat : Nat) : Int), .bool (WM.binC op k.toNat a.toNat b.toNat c.toNat), .bool (WM.binO op k.toNat a.toNat b.toNat c.toNat)]) ∧ w = w'
theorem bin1_any : BinOk 58 1 := by
  intro k a b c w k0 k1 a0 a1 b0 b1 c0 c1
  go_enter Try.func58, Try.ntmps58
  go_wp2_with (go_at_call 59; refine (add_any _ _ _ _ _ k0 k1 a0 a1 b0 b1 (by omega) (by omega)).mono ?_; rintro e w' ⟨rfl, rfl⟩)
  go_ret3
  exact ⟨ret_ibb (by simp [WM.binX]) (by simp [WM.binC]) (by simp [WM.binO]), rfl⟩
theorem bin3_any : BinOk 60 3 := by
  intro k a b c w k0 k1 a0 a1 b0 b1 c0 c1
  go_enter Try.func60, Try.ntmps60
  go_wp2_with (go_at_call 61; refine (sub_any _ _ _ _ _ k0 k1 a0 a1 b0 b1 (by omega) (by omega)).mono ?_; rintro e w' ⟨rfl, rfl⟩)
  go_ret3
  exact ⟨ret_ibb (by simp [WM.binX]) (by simp [WM.binC]) (by simp [WM.binO]), rfl⟩
theorem bin8_any : BinOk 65 8 := by
  intro k a b c w k0 k1 a0 a1 b0 b1 c0 c1
  go_enter Try.func65, Try.ntmps65
  go_wp2_with (go_at_call 66; refine (mul_any _ _ _ _ k0 k1 a0 b0).mono ?_; rintro e w' ⟨rfl, rfl⟩)
  go_ret3
  exact ⟨ret_ibb (by simp [WM.binX]) (by simp [WM.binC]) (by simp [WM.binO]), rfl⟩
theorem bin5_any : BinOk 62 5 := by
  intro k a b c w k0 k1 a0 a1 b0 b1 c0 c1
  obtain ⟨a, rfl⟩ := Int.eq_ofNat_of_zero_le a0
  obtain ⟨b, rfl⟩ := Int.eq_ofNat_of_zero_le b0
  go_enter Try.func62, Try.ntmps62
  go_wp2
  go_ret3
  exact ⟨ret_ibb (by rw [WM.w_and a b (by omega) (by omega)]; simp [WM.binX]) (by simp [WM.binC]) (by simp [WM.binO]), rfl⟩
theorem bin6_any : BinOk 63 6 := by
  intro k a b c w k0 k1 a0 a1 b0 b1 c0 c1
  obtain ⟨a, rfl⟩ := Int.eq_ofNat_of_zero_le a0
  obtain ⟨b, rfl⟩ := Int.eq_ofNat_of_zero_le b0
  go_enter Try.func63, Try.ntmps63
  go_wp2
  go_ret3
  exact ⟨ret_ibb (by rw [WM.w_or a b (by omega) (by omega)]; simp [WM.binX]) (by simp [WM.binC]) (by simp [WM.binO]), rfl⟩
theorem bin7_any : BinOk 64 7 := by
  intro k a b c w k0 k1 a0 a1 b0 b1 c0 c1
  obtain ⟨a, rfl⟩ := Int.eq_ofNat_of_zero_le a0
  obtain ⟨b, rfl⟩ := Int.eq_ofNat_of_zero_le b0
  go_enter Try.func64, Try.ntmps64
  go_wp2
  go_ret3
  exact ⟨ret_ibb (by rw [WM.w_xor a b (by omega) (by omega)]; simp [WM.binX]) (by simp [WM.binC]) (by simp [WM.binO]), rfl⟩
theorem bin2_any : BinOk 59 2 := by
  intro k a b c w k0 k1 a0 a1 b0 b1 c0 c1
  refine (add_any k a b c w k0 k1 a0 a1 b0 b1 c0 c1).mono fun e w' h => ⟨?_, h.2⟩
  rw [h.1]
  exact ret_ibb (by simp [WM.binX]) (by simp [WM.binC]) (by simp [WM.binO])
theorem bin4_any : BinOk 61 4 := by
  intro k a b c w k0 k1 a0 a1 b0 b1 c0 c1
  refine (sub_any k a b c w k0 k1 a0 a1 b0 b1 c0 c1).mono fun e w' h => ⟨?_, h.2⟩
  rw [h.1]
  exact ret_ibb (by simp [WM.binX]) (by simp [WM.binC]) (by simp [WM.binO])
end Go.Proofs.Ytklepefljdiepaa
