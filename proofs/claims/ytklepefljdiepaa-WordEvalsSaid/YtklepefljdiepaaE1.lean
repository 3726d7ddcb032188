/- The document's operations of the language, by the number of words that they take. -/
import Derived.Test.YtklepefljdiepaaW9
import Derived.Test.YtklepefljdiepaaR2
namespace Go.Proofs.Ytklepefljdiepaa
open Go.RowKit
set_option maxHeartbeats 400000 in
theorem refOne_any (s : Bool) (w : World) : Calls Try.prog 38 #[.bool s] w fun e w' => e = .returned (.int .u64 ((WM.one s : Nat) : Int)) ∧ w = w' := by
  cases s
  all_goals
    go_enter Try.func38, Try.ntmps38
    go_wp2
    go_ret
    exact ⟨rfl, rfl⟩
set_option maxHeartbeats 400000 in
theorem refArgs_any (op : Int) (w : World) : Calls Try.prog 13 #[.int .i64 op] w fun e w' => e = .returned (.int .i64 (argsZ op)) ∧ w = w' := by
  by_cases h4 : op = 4
  · subst h4; go_enter Try.func13, Try.ntmps13; go_wp2; go_ret; exact ⟨rfl, rfl⟩
  by_cases h5 : op = 5
  · subst h5; go_enter Try.func13, Try.ntmps13; go_wp2; go_ret; exact ⟨rfl, rfl⟩
  have e4 : (op == 4) = false := beq_eq_false_iff_ne.2 h4
  have e5 : (op == 5) = false := beq_eq_false_iff_ne.2 h5
  by_cases h6 : 6 ≤ op
  · by_cases h20 : op ≤ 20
    · have E := Lib.hid (show argsZ op = 2 by simp [argsZ, h4, h5, h6, h20])
      clear h4 h5
      go_enter Try.func13, Try.ntmps13; go_wp2; go_ret; exact ⟨ret_int E.out.symm, rfl⟩
    · by_cases h21 : op = 21
      · subst h21; go_enter Try.func13, Try.ntmps13; go_wp2; go_ret; exact ⟨rfl, rfl⟩
      · have E := Lib.hid (show argsZ op = -1 by simp [argsZ, h4, h5, h6, h20, h21])
        have e21 : (op == 21) = false := beq_eq_false_iff_ne.2 h21
        clear h4 h5 h21
        go_enter Try.func13, Try.ntmps13; go_wp2; go_ret; exact ⟨ret_int E.out.symm, rfl⟩
  · have h21 : ¬ op = 21 := by omega
    have E := Lib.hid (show argsZ op = -1 by simp [argsZ, h4, h5, h6, h21])
    have e21 : (op == 21) = false := beq_eq_false_iff_ne.2 h21
    clear h4 h5 h21
    go_enter Try.func13, Try.ntmps13; go_wp2; go_ret; exact ⟨ret_int E.out.symm, rfl⟩
def RefEv (op n : Nat) : Prop := ∀ (bl off cap a b c : Nat) (w : World), a < 18446744073709551616 → b < 18446744073709551616 → w.cell? ⟨bl, off, none⟩ = some (.int .u64 a) → (2 ≤ n → w.cell? ⟨bl, off + 1, none⟩ = some (.int .u64 b)) → (3 ≤ n → w.cell? ⟨bl, off + 2, none⟩ = some (.int .u64 c)) →
    Calls Try.prog 17 #[.int .i64 op, .slice (some ⟨bl, off, none⟩) n cap] w fun e w' => e = .returned (.int .u64 ((WM.ev op a b c : Nat) : Int)) ∧ w = w'
theorem w_rotr (a m : Nat) (ha : a < 18446744073709551616) (hm : m < 64) : bits .or .u64 ((a : Int) / 2 ^ m) (IntKind.u64.wrap ((a : Int) * 2 ^ (64 - m))) = ((WM.rotl a ((64 - m) % 64) : Nat) : Int) := by
  rw [WM.w_div, WM.w_shl', WM.w_or _ _ (Nat.lt_of_le_of_lt (Nat.div_le_self _ _) ha) (WM.shl_lt _ _)]
  unfold WM.rotl
  by_cases h : m = 0
  · subst h
    have e1 : a / 2 ^ 64 = 0 := Nat.div_eq_of_lt (by rw [WM.two64]; exact ha)
    have e2 : WM.shl a 64 = 0 := by unfold WM.shl; rw [WM.two64]; exact Nat.mul_mod_left _ _
    have e3 : WM.shl a 0 = a := by unfold WM.shl; rw [Nat.pow_zero, Nat.mul_one, Nat.mod_eq_of_lt ha]
    simp [e1, e2, e3]
  · rw [show (64 - m) % 64 = 64 - m by omega, show 64 - (64 - m) = m by omega, Nat.or_comm]
set_option maxHeartbeats 400000 in
theorem rev4 : RefEv 4 1 := by
  intro bl off cap a b c w ha hb h0 h1 h2
  clear h1
  clear h2
  have hx := WM.run_comp a ha
  go_enter Try.func17, Try.ntmps17
  go_wp2_with fail
  go_ret
  exact ⟨ret_int (by simp [WM.ev]), rfl⟩
set_option maxHeartbeats 400000 in
theorem rev5 : RefEv 5 1 := by
  intro bl off cap a b c w ha hb h0 h1 h2
  clear h1
  clear h2
  go_enter Try.func17, Try.ntmps17
  go_wp2_with fail
  go_ret
  exact ⟨ret_int (by rw [show WM.ev 5 a b c = WM.subLo 0 a 0 from by simp [WM.ev]]; first | exact WM.w_neg a ha | (rw [← WM.w_neg a ha]; simp)), rfl⟩
set_option maxHeartbeats 400000 in
theorem rev6 : RefEv 6 2 := by
  intro bl off cap a b c w ha hb h0 h1 h2
  have h1 := h1 (by decide)
  clear h2
  go_enter Try.func17, Try.ntmps17
  go_wp2_with fail
  go_ret
  exact ⟨ret_int (by rw [show WM.ev 6 a b c = (a + b) % 18446744073709551616 from by simp [WM.ev]]; exact WM.w_add a b), rfl⟩
set_option maxHeartbeats 400000 in
theorem rev7 : RefEv 7 2 := by
  intro bl off cap a b c w ha hb h0 h1 h2
  have h1 := h1 (by decide)
  clear h2
  go_enter Try.func17, Try.ntmps17
  go_wp2_with fail
  go_ret
  exact ⟨ret_int (by rw [show WM.ev 7 a b c = WM.subLo a b 0 from by simp [WM.ev]]; exact WM.w_sub a b hb), rfl⟩
set_option maxHeartbeats 400000 in
theorem rev8 : RefEv 8 2 := by
  intro bl off cap a b c w ha hb h0 h1 h2
  have h1 := h1 (by decide)
  clear h2
  go_enter Try.func17, Try.ntmps17
  go_wp2_with fail
  go_ret
  exact ⟨ret_int (by rw [show WM.ev 8 a b c = a * b % 18446744073709551616 from by simp [WM.ev]]; exact WM.w_mul a b), rfl⟩
set_option maxHeartbeats 400000 in
theorem rev9 : RefEv 9 2 := by
  intro bl off cap a b c w ha hb h0 h1 h2
  have h1 := h1 (by decide)
  clear h2
  go_enter Try.func17, Try.ntmps17
  go_wp2_with fail
  go_ret
  exact ⟨ret_int (by rw [show WM.ev 9 a b c = a &&& b from by simp [WM.ev]]; exact WM.w_and a b ha hb), rfl⟩
set_option maxHeartbeats 400000 in
theorem rev10 : RefEv 10 2 := by
  intro bl off cap a b c w ha hb h0 h1 h2
  have h1 := h1 (by decide)
  clear h2
  go_enter Try.func17, Try.ntmps17
  go_wp2_with fail
  go_ret
  exact ⟨ret_int (by rw [show WM.ev 10 a b c = a ||| b from by simp [WM.ev]]; exact WM.w_or a b ha hb), rfl⟩
set_option maxHeartbeats 400000 in
theorem rev11 : RefEv 11 2 := by
  intro bl off cap a b c w ha hb h0 h1 h2
  have h1 := h1 (by decide)
  clear h2
  go_enter Try.func17, Try.ntmps17
  go_wp2_with fail
  go_ret
  exact ⟨ret_int (by rw [show WM.ev 11 a b c = a ^^^ b from by simp [WM.ev]]; exact WM.w_xor a b ha hb), rfl⟩
set_option maxHeartbeats 400000 in
theorem rev12 : RefEv 12 2 := by
  intro bl off cap a b c w ha hb h0 h1 h2
  have h1 := h1 (by decide)
  clear h2
  go_enter Try.func17, Try.ntmps17
  go_wp2_with fail
  go_ret
  exact ⟨ret_int (by rw [show WM.ev 12 a b c = WM.shl a (b % 64) from by simp [WM.ev]]; exact WM.w_shl' a (b % 64)), rfl⟩
set_option maxHeartbeats 400000 in
theorem rev13 : RefEv 13 2 := by
  intro bl off cap a b c w ha hb h0 h1 h2
  have h1 := h1 (by decide)
  clear h2
  go_enter Try.func17, Try.ntmps17
  go_wp2_with fail
  go_ret
  exact ⟨ret_int (by rw [show WM.ev 13 a b c = a / 2 ^ (b % 64) from by simp [WM.ev]]; exact WM.w_div a (b % 64)), rfl⟩
set_option maxHeartbeats 400000 in
theorem rev14 : RefEv 14 2 := by
  intro bl off cap a b c w ha hb h0 h1 h2
  have h1 := h1 (by decide)
  clear h2
  go_enter Try.func17, Try.ntmps17
  go_wp2_with fail
  go_ret
  exact ⟨ret_int (by rw [show WM.ev 14 a b c = WM.sar a (b % 64) from by simp [WM.ev]]; exact WM.w_sar a (b % 64) ha), rfl⟩
set_option maxHeartbeats 400000 in
theorem rev15 : RefEv 15 2 := by
  intro bl off cap a b c w ha hb h0 h1 h2
  have h1 := h1 (by decide)
  clear h2
  go_enter Try.func17, Try.ntmps17
  go_wp2_with fail
  go_ret
  exact ⟨ret_int (by rw [show WM.ev 15 a b c = WM.rotl a (b % 64) from by simp [WM.ev]]; exact WM.w_rotl a (b % 64) ha (by omega)), rfl⟩
set_option maxHeartbeats 400000 in
theorem rev16 : RefEv 16 2 := by
  intro bl off cap a b c w ha hb h0 h1 h2
  have h1 := h1 (by decide)
  clear h2
  go_enter Try.func17, Try.ntmps17
  go_wp2_with fail
  go_ret
  exact ⟨ret_int (by rw [show WM.ev 16 a b c = WM.rotl a ((64 - b % 64) % 64) from by simp [WM.ev]]; exact w_rotr a (b % 64) ha (by omega)), rfl⟩
set_option maxHeartbeats 400000 in
theorem rev17 : RefEv 17 2 := by
  intro bl off cap a b c w ha hb h0 h1 h2
  have h1 := h1 (by decide)
  clear h2
  go_enter Try.func17, Try.ntmps17
  go_wp2_with (go_at_call 38; refine (refOne_any _ _).mono ?_; rintro e w' ⟨rfl, rfl⟩)
  go_ret
  exact ⟨ret_int (by rw [show WM.ev 17 a b c = WM.one (a == b) from by simp [WM.ev]]; exact congrArg (fun x => ((WM.one x : Nat) : Int)) (by rw [Bool.eq_iff_iff]; simp <;> omega)), rfl⟩
set_option maxHeartbeats 400000 in
theorem rev18 : RefEv 18 2 := by
  intro bl off cap a b c w ha hb h0 h1 h2
  have h1 := h1 (by decide)
  clear h2
  go_enter Try.func17, Try.ntmps17
  go_wp2_with (go_at_call 38; refine (refOne_any _ _).mono ?_; rintro e w' ⟨rfl, rfl⟩)
  go_ret
  exact ⟨ret_int (by rw [show WM.ev 18 a b c = WM.one (a != b) from by simp [WM.ev]]; exact congrArg (fun x => ((WM.one x : Nat) : Int)) (by rw [Bool.eq_iff_iff]; simp <;> omega)), rfl⟩
set_option maxHeartbeats 400000 in
theorem rev19 : RefEv 19 2 := by
  intro bl off cap a b c w ha hb h0 h1 h2
  have h1 := h1 (by decide)
  clear h2
  go_enter Try.func17, Try.ntmps17
  go_wp2_with (go_at_call 38; refine (refOne_any _ _).mono ?_; rintro e w' ⟨rfl, rfl⟩)
  go_ret
  exact ⟨ret_int (by rw [show WM.ev 19 a b c = WM.one (decide (a < b)) from by simp [WM.ev]]), rfl⟩
set_option maxHeartbeats 400000 in
theorem rev20 : RefEv 20 2 := by
  intro bl off cap a b c w ha hb h0 h1 h2
  have h1 := h1 (by decide)
  clear h2
  go_enter Try.func17, Try.ntmps17
  go_wp2_with (go_at_call 38; refine (refOne_any _ _).mono ?_; rintro e w' ⟨rfl, rfl⟩)
  go_ret
  exact ⟨ret_int (by rw [show WM.ev 20 a b c = WM.one (decide (a ≤ b)) from by simp [WM.ev]]), rfl⟩
set_option maxHeartbeats 400000 in
theorem rev21 : RefEv 21 3 := by
  intro bl off cap a b c w ha hb h0 h1 h2
  have h1 := h1 (by decide)
  have h2 := h2 (by decide)
  by_cases hz : a = 0
  · subst hz
    go_enter Try.func17, Try.ntmps17
    go_wp2_with fail
    go_ret
    exact ⟨ret_int (by simp [WM.ev]), rfl⟩
  · have hz' : ((a : Int) == 0) = false := by rw [beq_eq_false_iff_ne]; omega
    have HZ := Lib.hid hz
    clear hz
    go_enter Try.func17, Try.ntmps17
    go_wp2_with fail
    go_ret
    exact ⟨ret_int (by simp [WM.ev, HZ.out]), rfl⟩
end Go.Proofs.Ytklepefljdiepaa
