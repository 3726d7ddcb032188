import Derived.Test.YtklepefljdiepaaR4
namespace Go.Proofs.Ytklepefljdiepaa
open Go.RowKit
def onesN (a : Nat) : Nat → Nat
  | 0 => 0
  | j + 1 => onesN a j + a / 2 ^ j % 2
theorem onesN_le (a j : Nat) : onesN a j ≤ j := by
  induction j with
  | zero => exact Nat.le_refl _
  | succ j ih => show onesN a j + a / 2 ^ j % 2 ≤ j + 1; omega
theorem onesN_mod (a : Nat) : onesN a 8 = onesN (a % 256) 8 := by
  simp only [onesN]; omega
theorem onesN_fin : ∀ n : Fin 256, onesN n.val 8 = Lib.onesCount n.val := by decide +kernel
theorem onesN_par (a : Nat) : (((onesN a 8 : Nat) : Int) % 2 == 0) = WM.par a := by
  rw [onesN_mod, onesN_fin ⟨a % 256, Nat.mod_lt _ (by decide)⟩]; exact WM.par_eq a
set_option maxHeartbeats 800000 in
theorem refBy_any (k a : Nat) (c z s o p : Bool) (w : World) (h1 : 1 ≤ k) (hk : k ≤ 64) :
    Calls Try.prog 45 #[.int .i64 k, .int .u64 a, .agg #[.bool c, .bool z, .bool s, .bool o, .bool p]] w fun e w' => e = .returned (.agg #[.bool c, .bool (a == 0), .bool (WM.top k a), .bool o, .bool (WM.par a)]) ∧ Below w.heap.size w w' := by
  have CT := Lib.hid (fun w => refTop_any k a w h1 hk)
  go_enter Try.func45, Try.ntmps45
  go_wp2_with (go_at_call 43; refine (CT.out _).mono ?_; rintro e w' ⟨rfl, rfl⟩)
  go_loop [7, 8] (fun n i => ∃ j : Nat, j ≤ 8 ∧ i = .int .i64 j ∧ n = .int .i64 ((onesN a j : Nat) : Int)) (fun _ i => 8 - (intOf i).toNat)
  case atStart => exact ⟨0, by decide, rfl, rfl⟩
  case round =>
    obtain ⟨j, hj, rfl, rfl⟩ := hrel
    by_cases hlt : j < 8
    · have hl := onesN_le a j
      obtain ⟨x, hx⟩ : ∃ x, x = a / 2 ^ j % 2 := ⟨_, rfl⟩
      have hx1 : x ≤ 1 := by omega
      have ex : ((a : Int) / 2 ^ j).tmod 2 = (x : Int) := by rw [w_tmod, ← hx]
      have e1 := Lib.hid (show onesN a (j + 1) = onesN a j + x by rw [hx]; rfl)
      have hw : IntKind.u64.wrap (j : Int) = (j : Int) := by rw [IntKind.wrap_u64]; omega
      clear hx
      go_wp2
      exact ⟨⟨j + 1, hlt, by go_num, by rw [e1.out]; go_num⟩, by simp [intOf]; omega⟩
    · obtain rfl : j = 8 := by omega
      clear hlt
      go_wp2_with fail
      refine bodyPost_ret (v := .agg #[.bool c, .bool ((a : Int) == 0), .bool (WM.top k a), .bool o, .bool (((onesN a 8 : Nat) : Int) % 2 == 0)]) (by simp [results, Try.results45, go_sem]) rfl ⟨congrArg _ (agg5 rfl (zero_eq a) rfl rfl (onesN_par a)), ?_⟩
      exact ((Below.refl w.heap.size w).alloc (Nat.le_refl _) _).alloc (by simp) _
end Go.Proofs.Ytklepefljdiepaa
