import Derived.Test.YtklepefljdiepaaW7
namespace Go.Proofs.Ytklepefljdiepaa
open Go.RowKit

set_option maxHeartbeats 400000 in
theorem rotl_any (a n : Int) (w : World) (a0 : 0 ≤ a) (a1 : a < 18446744073709551616) (_n0 : -64 ≤ n) (_n1 : n ≤ 64) :
    Calls Try.prog 88 #[.int .u64 a, .int .i64 n] w fun e w' => e = .returned (.int .u64 ((WM.rotl a.toNat (n % 64).toNat : Nat) : Int)) ∧ w = w' := by
  obtain ⟨a, rfl⟩ := Int.eq_ofNat_of_zero_le a0
  obtain ⟨m, hm⟩ : ∃ m : Nat, n % 64 = (m : Int) := Int.eq_ofNat_of_zero_le (by omega)
  have hb : bits .and .u64 (IntKind.u64.wrap n) 63 = (m : Int) := by
    rw [IntKind.wrap_u64]
    obtain ⟨j, hj⟩ : ∃ j : Nat, n % 18446744073709551616 = (j : Int) := Int.eq_ofNat_of_zero_le (by omega)
    rw [hj, WM.w_and63 j (by omega)]
    omega
  have hd : IntKind.u64.wrap (64 - (m : Int)) = 64 - (m : Int) := by rw [IntKind.wrap_u64]; omega
  have hm1 : m < 64 := by omega
  rw [hm, Int.toNat_natCast, Int.toNat_natCast]
  clear hm
  go_enter Try.func88, Try.ntmps88
  go_wp2
  go_ret
  exact ⟨ret_int (WM.w_rotl a m (by omega) (by omega)), rfl⟩
def EvOk (f op n : Nat) : Prop := ∀ (bl off cap a b c : Nat) (w : World), a < 18446744073709551616 → b < 18446744073709551616 → w.cell? ⟨bl, off, none⟩ = some (.int .u64 a) → (2 ≤ n → w.cell? ⟨bl, off + 1, none⟩ = some (.int .u64 b)) → (3 ≤ n → w.cell? ⟨bl, off + 2, none⟩ = some (.int .u64 c)) →
    Calls Try.prog f #[.slice (some ⟨bl, off, none⟩) n cap] w fun e w' => e = .returned (.int .u64 ((WM.ev op a b c : Nat) : Int)) ∧ ∃ m, w' = w.drewN m
set_option maxHeartbeats 400000 in
theorem ev4 : EvOk 76 4 1 := by
  intro bl off cap a b c w ha hb h0 _ _
  have hx := WM.run_comp a (by omega)
  go_enter Try.func76, Try.ntmps76
  go_wp2
  go_ret
  exact ⟨ret_int (by simp [WM.ev]), 0, rfl⟩
set_option maxHeartbeats 400000 in
theorem ev5 : EvOk 77 5 1 := by
  intro bl off cap a b c w ha hb h0 _ _
  go_enter Try.func77, Try.ntmps77
  go_wp2
  go_ret
  exact ⟨ret_int (by rw [show WM.ev 5 a b c = WM.subLo 0 a 0 from by simp [WM.ev]]; first | exact WM.w_neg a ha | (rw [← WM.w_neg a ha]; simp)), 0, rfl⟩
set_option maxHeartbeats 400000 in
theorem ev6 : EvOk 78 6 2 := by
  intro bl off cap a b c w ha hb h0 h1 _
  have h1 := h1 (by decide)
  go_enter Try.func78, Try.ntmps78
  go_wp2_with fail
  go_quiet (fail)
  go_wp2_with fail
  go_ret
  exact ⟨ret_int (by rw [show WM.ev 6 a b c = (a + b) % 18446744073709551616 from by simp [WM.ev]]; exact WM.w_add a b), nq, rfl⟩
set_option maxHeartbeats 400000 in
theorem ev7 : EvOk 79 7 2 := by
  intro bl off cap a b c w ha hb h0 h1 _
  have h1 := h1 (by decide)
  go_enter Try.func79, Try.ntmps79
  go_wp2_with fail
  go_quiet (fail)
  go_wp2_with fail
  go_ret
  exact ⟨ret_int (by rw [show WM.ev 7 a b c = WM.subLo a b 0 from by simp [WM.ev]]; exact WM.w_sub a b hb), nq, rfl⟩
set_option maxHeartbeats 400000 in
theorem ev8 : EvOk 80 8 2 := by
  intro bl off cap a b c w ha hb h0 h1 _
  have h1 := h1 (by decide)
  go_enter Try.func80, Try.ntmps80
  go_wp2_with fail
  go_quiet (fail)
  go_wp2_with fail
  go_ret
  exact ⟨ret_int (by rw [show WM.ev 8 a b c = a * b % 18446744073709551616 from by simp [WM.ev]]; exact WM.w_mul a b), nq, rfl⟩
set_option maxHeartbeats 400000 in
theorem ev9 : EvOk 81 9 2 := by
  intro bl off cap a b c w ha hb h0 h1 _
  have h1 := h1 (by decide)
  go_enter Try.func81, Try.ntmps81
  go_wp2_with fail
  go_quiet (fail)
  go_wp2_with fail
  go_ret
  exact ⟨ret_int (by rw [show WM.ev 9 a b c = a &&& b from by simp [WM.ev]]; exact WM.w_and a b ha hb), nq, rfl⟩
set_option maxHeartbeats 400000 in
theorem ev10 : EvOk 82 10 2 := by
  intro bl off cap a b c w ha hb h0 h1 _
  have h1 := h1 (by decide)
  go_enter Try.func82, Try.ntmps82
  go_wp2_with fail
  go_quiet (fail)
  go_wp2_with fail
  go_ret
  exact ⟨ret_int (by rw [show WM.ev 10 a b c = a ||| b from by simp [WM.ev]]; exact WM.w_or a b ha hb), nq, rfl⟩
set_option maxHeartbeats 400000 in
theorem ev11 : EvOk 83 11 2 := by
  intro bl off cap a b c w ha hb h0 h1 _
  have h1 := h1 (by decide)
  go_enter Try.func83, Try.ntmps83
  go_wp2_with fail
  go_quiet (fail)
  go_wp2_with fail
  go_ret
  exact ⟨ret_int (by rw [show WM.ev 11 a b c = a ^^^ b from by simp [WM.ev]]; exact WM.w_xor a b ha hb), nq, rfl⟩
set_option maxHeartbeats 400000 in
theorem ev12 : EvOk 84 12 2 := by
  intro bl off cap a b c w ha hb h0 h1 _
  have h1 := h1 (by decide)
  go_enter Try.func84, Try.ntmps84
  go_wp2_with fail
  go_quiet (fail)
  go_wp2_with fail
  go_ret
  exact ⟨ret_int (by rw [show WM.ev 12 a b c = WM.shl a (b % 64) from by simp [WM.ev]]; exact WM.w_shl' a (b % 64)), nq, rfl⟩
set_option maxHeartbeats 400000 in
theorem ev13 : EvOk 85 13 2 := by
  intro bl off cap a b c w ha hb h0 h1 _
  have h1 := h1 (by decide)
  go_enter Try.func85, Try.ntmps85
  go_wp2_with fail
  go_quiet (fail)
  go_wp2_with fail
  go_ret
  exact ⟨ret_int (by rw [show WM.ev 13 a b c = a / 2 ^ (b % 64) from by simp [WM.ev]]; exact WM.w_div a (b % 64)), nq, rfl⟩
set_option maxHeartbeats 400000 in
theorem ev14 : EvOk 86 14 2 := by
  intro bl off cap a b c w ha hb h0 h1 _
  have h1 := h1 (by decide)
  go_enter Try.func86, Try.ntmps86
  go_wp2_with fail
  go_quiet (fail)
  go_wp2_with fail
  go_ret
  exact ⟨ret_int (by rw [show WM.ev 14 a b c = WM.sar a (b % 64) from by simp [WM.ev]]; exact WM.w_sar a (b % 64) ha), nq, rfl⟩
set_option maxHeartbeats 400000 in
theorem ev15 : EvOk 87 15 2 := by
  intro bl off cap a b c w ha hb h0 h1 _
  have h1 := h1 (by decide)
  go_enter Try.func87, Try.ntmps87
  go_wp2_with fail
  go_quiet ((go_at_call 88; exact Calls.quiet_of_same ((rotl_any _ _ _ (by omega) (by omega) (by omega) (by omega)).mono fun _ _ h => ⟨h.1, h.2.symm⟩)))
  go_wp2_with fail
  go_ret
  exact ⟨ret_int (by rw [show WM.ev 15 a b c = WM.rotl a (b % 64) from by simp [WM.ev]]; exact congrArg (fun x => ((WM.rotl a x : Nat) : Int)) (by omega)), nq, rfl⟩
set_option maxHeartbeats 400000 in
theorem ev16 : EvOk 89 16 2 := by
  intro bl off cap a b c w ha hb h0 h1 _
  have h1 := h1 (by decide)
  go_enter Try.func89, Try.ntmps89
  go_wp2_with fail
  go_quiet ((go_at_call 88; exact Calls.quiet_of_same ((rotl_any _ _ _ (by omega) (by omega) (by omega) (by omega)).mono fun _ _ h => ⟨h.1, h.2.symm⟩)))
  go_wp2_with fail
  go_ret
  exact ⟨ret_int (by rw [show WM.ev 16 a b c = WM.rotl a ((64 - b % 64) % 64) from by simp [WM.ev]]; exact congrArg (fun x => ((WM.rotl a x : Nat) : Int)) (by omega)), nq, rfl⟩
set_option maxHeartbeats 400000 in
theorem ev17 : EvOk 90 17 2 := by
  intro bl off cap a b c w ha hb h0 h1 _
  have h1 := h1 (by decide)
  go_enter Try.func90, Try.ntmps90
  go_wp2_with fail
  go_quiet ((go_at_call 48; exact Calls.quiet_of_same ((oneIf_any _ _).mono fun _ _ h => ⟨h.1, h.2.symm⟩)))
  go_wp2_with fail
  go_ret
  exact ⟨ret_int (by rw [show WM.ev 17 a b c = WM.one (a == b) from by simp [WM.ev]]; exact congrArg (fun x => ((WM.one x : Nat) : Int)) (by rw [Bool.eq_iff_iff]; simp <;> omega)), nq, rfl⟩
set_option maxHeartbeats 400000 in
theorem ev18 : EvOk 91 18 2 := by
  intro bl off cap a b c w ha hb h0 h1 _
  have h1 := h1 (by decide)
  go_enter Try.func91, Try.ntmps91
  go_wp2_with fail
  go_quiet ((go_at_call 48; exact Calls.quiet_of_same ((oneIf_any _ _).mono fun _ _ h => ⟨h.1, h.2.symm⟩)))
  go_wp2_with fail
  go_ret
  exact ⟨ret_int (by rw [show WM.ev 18 a b c = WM.one (a != b) from by simp [WM.ev]]; exact congrArg (fun x => ((WM.one x : Nat) : Int)) (by rw [Bool.eq_iff_iff]; simp <;> omega)), nq, rfl⟩
set_option maxHeartbeats 400000 in
theorem ev19 : EvOk 92 19 2 := by
  intro bl off cap a b c w ha hb h0 h1 _
  have h1 := h1 (by decide)
  go_enter Try.func92, Try.ntmps92
  go_wp2_with fail
  go_quiet ((go_at_call 48; exact Calls.quiet_of_same ((oneIf_any _ _).mono fun _ _ h => ⟨h.1, h.2.symm⟩)))
  go_wp2_with fail
  go_ret
  exact ⟨ret_int (by rw [show WM.ev 19 a b c = WM.one (decide (a < b)) from by simp [WM.ev]]), nq, rfl⟩
set_option maxHeartbeats 400000 in
theorem ev20 : EvOk 93 20 2 := by
  intro bl off cap a b c w ha hb h0 h1 _
  have h1 := h1 (by decide)
  go_enter Try.func93, Try.ntmps93
  go_wp2_with fail
  go_quiet ((go_at_call 48; exact Calls.quiet_of_same ((oneIf_any _ _).mono fun _ _ h => ⟨h.1, h.2.symm⟩)))
  go_wp2_with fail
  go_ret
  exact ⟨ret_int (by rw [show WM.ev 20 a b c = WM.one (decide (a ≤ b)) from by simp [WM.ev]]), nq, rfl⟩
set_option maxHeartbeats 400000 in
theorem ev21 : EvOk 94 21 3 := by
  intro bl off cap a b c w ha hb h0 h1 h2
  have h1 := h1 (by decide)
  have h2 := h2 (by decide)
  by_cases hz : a = 0
  · subst hz
    go_enter Try.func94, Try.ntmps94
    go_wp2_with fail
    go_ret
    exact ⟨ret_int (by simp [WM.ev]), 0, rfl⟩
  · have hz' : ((a : Int) == 0) = false := by rw [beq_eq_false_iff_ne]; omega
    have HZ := Lib.hid hz
    clear hz
    go_enter Try.func94, Try.ntmps94
    go_wp2_with fail
    go_ret
    exact ⟨ret_int (by simp [WM.ev, HZ.out]), 0, rfl⟩
def suT : List (Int × Nat) := [(4, 76), (5, 77), (6, 78), (7, 79), (8, 80), (9, 81), (10, 82), (11, 83)]
set_option maxHeartbeats 400000 in
theorem suT_any (w : World) : Calls Try.prog 55 #[] w (MapAt suT w) := by
  have hmm := @run_makeMap Try.prog
  have i0 := fun wx => run_put_ft0 Try.underlying67 Try.underlying25 suT 4 76 rfl wx
  have i1 := fun wx => run_put_ft Try.underlying67 Try.underlying25 suT 1 5 77 rfl (by rfl) wx
  have i2 := fun wx => run_put_ft Try.underlying67 Try.underlying25 suT 2 6 78 rfl (by rfl) wx
  have i3 := fun wx => run_put_ft Try.underlying67 Try.underlying25 suT 3 7 79 rfl (by rfl) wx
  have i4 := fun wx => run_put_ft Try.underlying67 Try.underlying25 suT 4 8 80 rfl (by rfl) wx
  have i5 := fun wx => run_put_ft Try.underlying67 Try.underlying25 suT 5 9 81 rfl (by rfl) wx
  have i6 := fun wx => run_put_ft Try.underlying67 Try.underlying25 suT 6 10 82 rfl (by rfl) wx
  have i7 := fun wx => run_put_ft Try.underlying67 Try.underlying25 suT 7 11 83 rfl (by rfl) wx
  go_enter Try.func55, Try.ntmps55
  go_wp2
  go_ret
  exact mapAt_new suT 8 rfl w
def tuT : List (Int × Nat) := [(12, 84), (13, 85), (14, 86), (15, 87), (16, 89)]
set_option maxHeartbeats 400000 in
theorem tuT_any (w : World) : Calls Try.prog 56 #[] w (MapAt tuT w) := by
  have hmm := @run_makeMap Try.prog
  have i0 := fun wx => run_put_ft0 Try.underlying67 Try.underlying25 tuT 12 84 rfl wx
  have i1 := fun wx => run_put_ft Try.underlying67 Try.underlying25 tuT 1 13 85 rfl (by rfl) wx
  have i2 := fun wx => run_put_ft Try.underlying67 Try.underlying25 tuT 2 14 86 rfl (by rfl) wx
  have i3 := fun wx => run_put_ft Try.underlying67 Try.underlying25 tuT 3 15 87 rfl (by rfl) wx
  have i4 := fun wx => run_put_ft Try.underlying67 Try.underlying25 tuT 4 16 89 rfl (by rfl) wx
  go_enter Try.func56, Try.ntmps56
  go_wp2
  go_ret
  exact mapAt_new tuT 5 rfl w
def chT : List (Int × Nat) := [(17, 90), (18, 91), (19, 92), (20, 93), (21, 94)]
set_option maxHeartbeats 400000 in
theorem chT_any (w : World) : Calls Try.prog 57 #[] w (MapAt chT w) := by
  have hmm := @run_makeMap Try.prog
  have i0 := fun wx => run_put_ft0 Try.underlying67 Try.underlying25 chT 17 90 rfl wx
  have i1 := fun wx => run_put_ft Try.underlying67 Try.underlying25 chT 1 18 91 rfl (by rfl) wx
  have i2 := fun wx => run_put_ft Try.underlying67 Try.underlying25 chT 2 19 92 rfl (by rfl) wx
  have i3 := fun wx => run_put_ft Try.underlying67 Try.underlying25 chT 3 20 93 rfl (by rfl) wx
  have i4 := fun wx => run_put_ft Try.underlying67 Try.underlying25 chT 4 21 94 rfl (by rfl) wx
  go_enter Try.func57, Try.ntmps57
  go_wp2
  go_ret
  exact mapAt_new chT 5 rfl w
theorem bz67 (w : World) : (zeroValue 66).run Try.prog w = .ok .nilFunc w := by kernel_rfl
/-- the table in which an operation stands -/
def opT (op : Int) : List (Int × Nat) := if op ≤ 11 then suT else if op ≤ 16 then tuT else chT
set_option maxHeartbeats 400000 in
theorem operations_any (op : Int) (w : World) : Calls Try.prog 37 #[.int .i64 op] w (MapAt (opT op) w) := by
  by_cases h1 : op ≤ 11
  · have e : opT op = suT := by simp [opT, h1]
    rw [e]
    go_enter Try.func37, Try.ntmps37
    go_wp2_with fail
    refine (suT_any _).mono ?_
    rintro e w1 ⟨m, rfl, hm, hmb, hb1⟩
    go_wp2_with fail
    go_ret
    exact ⟨m, rfl, hm, hmb, hb1⟩
  · by_cases h2 : op ≤ 16
    · have e : opT op = tuT := by simp [opT, h1, h2]
      rw [e]
      go_enter Try.func37, Try.ntmps37
      go_wp2_with fail
      refine (tuT_any _).mono ?_
      rintro e w1 ⟨m, rfl, hm, hmb, hb1⟩
      go_wp2_with fail
      go_ret
      exact ⟨m, rfl, hm, hmb, hb1⟩
    · have e : opT op = chT := by simp [opT, h1, h2]
      rw [e]
      go_enter Try.func37, Try.ntmps37
      go_wp2_with fail
      refine (chT_any _).mono ?_
      rintro e w1 ⟨m, rfl, hm, hmb, hb1⟩
      go_wp2_with fail
      go_ret
      exact ⟨m, rfl, hm, hmb, hb1⟩
/-- how many words: as an int -/
def argsZ (op : Int) : Int := if op = 4 ∨ op = 5 then 1 else if 6 ≤ op ∧ op ≤ 20 then 2 else if op = 21 then 3 else -1
set_option maxHeartbeats 400000 in
theorem args_any (op : Int) (w : World) : Calls Try.prog 15 #[.int .i64 op] w fun e w' => e = .returned (.int .i64 (argsZ op)) ∧ w = w' := by
  by_cases h4 : op = 4
  · subst h4; go_enter Try.func15, Try.ntmps15; go_wp2; go_ret; exact ⟨rfl, rfl⟩
  by_cases h5 : op = 5
  · subst h5; go_enter Try.func15, Try.ntmps15; go_wp2; go_ret; exact ⟨rfl, rfl⟩
  have e4 : (op == 4) = false := beq_eq_false_iff_ne.2 h4
  have e5 : (op == 5) = false := beq_eq_false_iff_ne.2 h5
  by_cases h6 : 6 ≤ op
  · by_cases h20 : op ≤ 20
    · have E := Lib.hid (show argsZ op = 2 by simp [argsZ, h4, h5, h6, h20])
      clear h4 h5
      go_enter Try.func15, Try.ntmps15; go_wp2; go_ret; exact ⟨ret_int E.out.symm, rfl⟩
    · by_cases h21 : op = 21
      · subst h21; go_enter Try.func15, Try.ntmps15; go_wp2; go_ret; exact ⟨rfl, rfl⟩
      · have E := Lib.hid (show argsZ op = -1 by simp [argsZ, h4, h5, h6, h20, h21])
        have e21 : (op == 21) = false := beq_eq_false_iff_ne.2 h21
        clear h4 h5 h21
        go_enter Try.func15, Try.ntmps15; go_wp2; go_ret; exact ⟨ret_int E.out.symm, rfl⟩
  · have h21 : ¬ op = 21 := by omega
    have E := Lib.hid (show argsZ op = -1 by simp [argsZ, h4, h5, h6, h21])
    have e21 : (op == 21) = false := beq_eq_false_iff_ne.2 h21
    clear h4 h5 h21
    go_enter Try.func15, Try.ntmps15; go_wp2; go_ret; exact ⟨ret_int E.out.symm, rfl⟩
end Go.Proofs.Ytklepefljdiepaa
