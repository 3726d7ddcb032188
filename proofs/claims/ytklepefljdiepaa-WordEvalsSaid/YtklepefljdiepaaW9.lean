import Derived.Test.YtklepefljdiepaaW8
namespace Go.Proofs.Ytklepefljdiepaa
open Go.RowKit

set_option maxHeartbeats 400000 in
/-- EVAL, OF AN OPERATION WITH AS MANY WORDS AS IT TAKES. -/
theorem eval_core76 (op : Int) (n V : Nat) (bl off cap a b c : Nat) (w : World) (hat : fat (opT op) op = some 76) (hn : argsZ op = (n : Int)) (hn0 : 1 ≤ n) (hn3 : n ≤ 3) (hf : EvOk 76 op.toNat n) (ha : a < 18446744073709551616) (hb : b < 18446744073709551616) (hV : WM.ev op.toNat a b c = V)
    (hbl : bl < w.heap.size) (h0 : w.cell? ⟨bl, off, none⟩ = some (.int .u64 a)) (h1 : 2 ≤ n → w.cell? ⟨bl, off + 1, none⟩ = some (.int .u64 b)) (h2 : 3 ≤ n → w.cell? ⟨bl, off + 2, none⟩ = some (.int .u64 c)) :
    Calls Try.prog 14 #[.int .i64 op, .slice (some ⟨bl, off, none⟩) n cap] w fun e w' => e = .returned (.tuple #[.int .u64 (V : Int), .int .i64 0]) ∧ Below w.heap.size w w' := by
  have HF := Lib.hid hf
  have HV := Lib.hid hV
  have HN := Lib.hid hn
  have H0 := Lib.hid h0
  have H1 := Lib.hid h1
  have H2 := Lib.hid h2
  clear hf hV h0 h1 h2 hn
  have t1 : decide ((n : Int) < 0) = false := decide_eq_false (by omega)
  have t2 : ((n : Int) != (n : Int)) = false := by simp
  go_enter Try.func14, Try.ntmps14
  go_wp2_with fail
  refine (args_any _ _).mono ?_
  rintro e w' ⟨rfl, rfl⟩
  rw [HN.out]
  go_wp2_with fail
  refine (operations_any _ _).mono ?_
  rintro e w1 ⟨m, rfl, hm, hmb, hb1⟩
  have hlk := run_look1_fmap Try.underlying67 Try.underlying25 bz67 (opT op) hm op
  simp only [fval, hat] at hlk
  have k0 : w1.cell? ⟨bl, off, none⟩ = some (.int .u64 a) := by rw [hb1.cell (p := ⟨bl, off, none⟩) hbl]; exact H0.out
  have k1 : 2 ≤ n → w1.cell? ⟨bl, off + 1, none⟩ = some (.int .u64 b) := fun h => by rw [hb1.cell (p := ⟨bl, off + 1, none⟩) hbl]; exact H1.out h
  have k2 : 3 ≤ n → w1.cell? ⟨bl, off + 2, none⟩ = some (.int .u64 c) := fun h => by rw [hb1.cell (p := ⟨bl, off + 2, none⟩) hbl]; exact H2.out h
  have HC := Lib.hid (HF.out bl off cap a b c w1 ha hb k0 k1 k2)
  clear k0 k1 k2 hat ha hb hm hmb
  rw [HV.out] at HC
  go_wp2_with fail
  refine HC.out.mono ?_
  rintro e w2 ⟨rfl, nq, rfl⟩
  clear hlk
  go_wp2_with fail
  go_ret2
  exact ⟨rfl, below_drewN hb1 nq⟩
set_option maxHeartbeats 400000 in
/-- EVAL, OF AN OPERATION WITH AS MANY WORDS AS IT TAKES. -/
theorem eval_core77 (op : Int) (n V : Nat) (bl off cap a b c : Nat) (w : World) (hat : fat (opT op) op = some 77) (hn : argsZ op = (n : Int)) (hn0 : 1 ≤ n) (hn3 : n ≤ 3) (hf : EvOk 77 op.toNat n) (ha : a < 18446744073709551616) (hb : b < 18446744073709551616) (hV : WM.ev op.toNat a b c = V)
    (hbl : bl < w.heap.size) (h0 : w.cell? ⟨bl, off, none⟩ = some (.int .u64 a)) (h1 : 2 ≤ n → w.cell? ⟨bl, off + 1, none⟩ = some (.int .u64 b)) (h2 : 3 ≤ n → w.cell? ⟨bl, off + 2, none⟩ = some (.int .u64 c)) :
    Calls Try.prog 14 #[.int .i64 op, .slice (some ⟨bl, off, none⟩) n cap] w fun e w' => e = .returned (.tuple #[.int .u64 (V : Int), .int .i64 0]) ∧ Below w.heap.size w w' := by
  have HF := Lib.hid hf
  have HV := Lib.hid hV
  have HN := Lib.hid hn
  have H0 := Lib.hid h0
  have H1 := Lib.hid h1
  have H2 := Lib.hid h2
  clear hf hV h0 h1 h2 hn
  have t1 : decide ((n : Int) < 0) = false := decide_eq_false (by omega)
  have t2 : ((n : Int) != (n : Int)) = false := by simp
  go_enter Try.func14, Try.ntmps14
  go_wp2_with fail
  refine (args_any _ _).mono ?_
  rintro e w' ⟨rfl, rfl⟩
  rw [HN.out]
  go_wp2_with fail
  refine (operations_any _ _).mono ?_
  rintro e w1 ⟨m, rfl, hm, hmb, hb1⟩
  have hlk := run_look1_fmap Try.underlying67 Try.underlying25 bz67 (opT op) hm op
  simp only [fval, hat] at hlk
  have k0 : w1.cell? ⟨bl, off, none⟩ = some (.int .u64 a) := by rw [hb1.cell (p := ⟨bl, off, none⟩) hbl]; exact H0.out
  have k1 : 2 ≤ n → w1.cell? ⟨bl, off + 1, none⟩ = some (.int .u64 b) := fun h => by rw [hb1.cell (p := ⟨bl, off + 1, none⟩) hbl]; exact H1.out h
  have k2 : 3 ≤ n → w1.cell? ⟨bl, off + 2, none⟩ = some (.int .u64 c) := fun h => by rw [hb1.cell (p := ⟨bl, off + 2, none⟩) hbl]; exact H2.out h
  have HC := Lib.hid (HF.out bl off cap a b c w1 ha hb k0 k1 k2)
  clear k0 k1 k2 hat ha hb hm hmb
  rw [HV.out] at HC
  go_wp2_with fail
  refine HC.out.mono ?_
  rintro e w2 ⟨rfl, nq, rfl⟩
  clear hlk
  go_wp2_with fail
  go_ret2
  exact ⟨rfl, below_drewN hb1 nq⟩
set_option maxHeartbeats 400000 in
/-- EVAL, OF AN OPERATION WITH AS MANY WORDS AS IT TAKES. -/
theorem eval_core78 (op : Int) (n V : Nat) (bl off cap a b c : Nat) (w : World) (hat : fat (opT op) op = some 78) (hn : argsZ op = (n : Int)) (hn0 : 1 ≤ n) (hn3 : n ≤ 3) (hf : EvOk 78 op.toNat n) (ha : a < 18446744073709551616) (hb : b < 18446744073709551616) (hV : WM.ev op.toNat a b c = V)
    (hbl : bl < w.heap.size) (h0 : w.cell? ⟨bl, off, none⟩ = some (.int .u64 a)) (h1 : 2 ≤ n → w.cell? ⟨bl, off + 1, none⟩ = some (.int .u64 b)) (h2 : 3 ≤ n → w.cell? ⟨bl, off + 2, none⟩ = some (.int .u64 c)) :
    Calls Try.prog 14 #[.int .i64 op, .slice (some ⟨bl, off, none⟩) n cap] w fun e w' => e = .returned (.tuple #[.int .u64 (V : Int), .int .i64 0]) ∧ Below w.heap.size w w' := by
  have HF := Lib.hid hf
  have HV := Lib.hid hV
  have HN := Lib.hid hn
  have H0 := Lib.hid h0
  have H1 := Lib.hid h1
  have H2 := Lib.hid h2
  clear hf hV h0 h1 h2 hn
  have t1 : decide ((n : Int) < 0) = false := decide_eq_false (by omega)
  have t2 : ((n : Int) != (n : Int)) = false := by simp
  go_enter Try.func14, Try.ntmps14
  go_wp2_with fail
  refine (args_any _ _).mono ?_
  rintro e w' ⟨rfl, rfl⟩
  rw [HN.out]
  go_wp2_with fail
  refine (operations_any _ _).mono ?_
  rintro e w1 ⟨m, rfl, hm, hmb, hb1⟩
  have hlk := run_look1_fmap Try.underlying67 Try.underlying25 bz67 (opT op) hm op
  simp only [fval, hat] at hlk
  have k0 : w1.cell? ⟨bl, off, none⟩ = some (.int .u64 a) := by rw [hb1.cell (p := ⟨bl, off, none⟩) hbl]; exact H0.out
  have k1 : 2 ≤ n → w1.cell? ⟨bl, off + 1, none⟩ = some (.int .u64 b) := fun h => by rw [hb1.cell (p := ⟨bl, off + 1, none⟩) hbl]; exact H1.out h
  have k2 : 3 ≤ n → w1.cell? ⟨bl, off + 2, none⟩ = some (.int .u64 c) := fun h => by rw [hb1.cell (p := ⟨bl, off + 2, none⟩) hbl]; exact H2.out h
  have HC := Lib.hid (HF.out bl off cap a b c w1 ha hb k0 k1 k2)
  clear k0 k1 k2 hat ha hb hm hmb
  rw [HV.out] at HC
  go_wp2_with fail
  refine HC.out.mono ?_
  rintro e w2 ⟨rfl, nq, rfl⟩
  clear hlk
  go_wp2_with fail
  go_ret2
  exact ⟨rfl, below_drewN hb1 nq⟩
set_option maxHeartbeats 400000 in
/-- EVAL, OF AN OPERATION WITH AS MANY WORDS AS IT TAKES. -/
theorem eval_core79 (op : Int) (n V : Nat) (bl off cap a b c : Nat) (w : World) (hat : fat (opT op) op = some 79) (hn : argsZ op = (n : Int)) (hn0 : 1 ≤ n) (hn3 : n ≤ 3) (hf : EvOk 79 op.toNat n) (ha : a < 18446744073709551616) (hb : b < 18446744073709551616) (hV : WM.ev op.toNat a b c = V)
    (hbl : bl < w.heap.size) (h0 : w.cell? ⟨bl, off, none⟩ = some (.int .u64 a)) (h1 : 2 ≤ n → w.cell? ⟨bl, off + 1, none⟩ = some (.int .u64 b)) (h2 : 3 ≤ n → w.cell? ⟨bl, off + 2, none⟩ = some (.int .u64 c)) :
    Calls Try.prog 14 #[.int .i64 op, .slice (some ⟨bl, off, none⟩) n cap] w fun e w' => e = .returned (.tuple #[.int .u64 (V : Int), .int .i64 0]) ∧ Below w.heap.size w w' := by
  have HF := Lib.hid hf
  have HV := Lib.hid hV
  have HN := Lib.hid hn
  have H0 := Lib.hid h0
  have H1 := Lib.hid h1
  have H2 := Lib.hid h2
  clear hf hV h0 h1 h2 hn
  have t1 : decide ((n : Int) < 0) = false := decide_eq_false (by omega)
  have t2 : ((n : Int) != (n : Int)) = false := by simp
  go_enter Try.func14, Try.ntmps14
  go_wp2_with fail
  refine (args_any _ _).mono ?_
  rintro e w' ⟨rfl, rfl⟩
  rw [HN.out]
  go_wp2_with fail
  refine (operations_any _ _).mono ?_
  rintro e w1 ⟨m, rfl, hm, hmb, hb1⟩
  have hlk := run_look1_fmap Try.underlying67 Try.underlying25 bz67 (opT op) hm op
  simp only [fval, hat] at hlk
  have k0 : w1.cell? ⟨bl, off, none⟩ = some (.int .u64 a) := by rw [hb1.cell (p := ⟨bl, off, none⟩) hbl]; exact H0.out
  have k1 : 2 ≤ n → w1.cell? ⟨bl, off + 1, none⟩ = some (.int .u64 b) := fun h => by rw [hb1.cell (p := ⟨bl, off + 1, none⟩) hbl]; exact H1.out h
  have k2 : 3 ≤ n → w1.cell? ⟨bl, off + 2, none⟩ = some (.int .u64 c) := fun h => by rw [hb1.cell (p := ⟨bl, off + 2, none⟩) hbl]; exact H2.out h
  have HC := Lib.hid (HF.out bl off cap a b c w1 ha hb k0 k1 k2)
  clear k0 k1 k2 hat ha hb hm hmb
  rw [HV.out] at HC
  go_wp2_with fail
  refine HC.out.mono ?_
  rintro e w2 ⟨rfl, nq, rfl⟩
  clear hlk
  go_wp2_with fail
  go_ret2
  exact ⟨rfl, below_drewN hb1 nq⟩
set_option maxHeartbeats 400000 in
/-- EVAL, OF AN OPERATION WITH AS MANY WORDS AS IT TAKES. -/
theorem eval_core80 (op : Int) (n V : Nat) (bl off cap a b c : Nat) (w : World) (hat : fat (opT op) op = some 80) (hn : argsZ op = (n : Int)) (hn0 : 1 ≤ n) (hn3 : n ≤ 3) (hf : EvOk 80 op.toNat n) (ha : a < 18446744073709551616) (hb : b < 18446744073709551616) (hV : WM.ev op.toNat a b c = V)
    (hbl : bl < w.heap.size) (h0 : w.cell? ⟨bl, off, none⟩ = some (.int .u64 a)) (h1 : 2 ≤ n → w.cell? ⟨bl, off + 1, none⟩ = some (.int .u64 b)) (h2 : 3 ≤ n → w.cell? ⟨bl, off + 2, none⟩ = some (.int .u64 c)) :
    Calls Try.prog 14 #[.int .i64 op, .slice (some ⟨bl, off, none⟩) n cap] w fun e w' => e = .returned (.tuple #[.int .u64 (V : Int), .int .i64 0]) ∧ Below w.heap.size w w' := by
  have HF := Lib.hid hf
  have HV := Lib.hid hV
  have HN := Lib.hid hn
  have H0 := Lib.hid h0
  have H1 := Lib.hid h1
  have H2 := Lib.hid h2
  clear hf hV h0 h1 h2 hn
  have t1 : decide ((n : Int) < 0) = false := decide_eq_false (by omega)
  have t2 : ((n : Int) != (n : Int)) = false := by simp
  go_enter Try.func14, Try.ntmps14
  go_wp2_with fail
  refine (args_any _ _).mono ?_
  rintro e w' ⟨rfl, rfl⟩
  rw [HN.out]
  go_wp2_with fail
  refine (operations_any _ _).mono ?_
  rintro e w1 ⟨m, rfl, hm, hmb, hb1⟩
  have hlk := run_look1_fmap Try.underlying67 Try.underlying25 bz67 (opT op) hm op
  simp only [fval, hat] at hlk
  have k0 : w1.cell? ⟨bl, off, none⟩ = some (.int .u64 a) := by rw [hb1.cell (p := ⟨bl, off, none⟩) hbl]; exact H0.out
  have k1 : 2 ≤ n → w1.cell? ⟨bl, off + 1, none⟩ = some (.int .u64 b) := fun h => by rw [hb1.cell (p := ⟨bl, off + 1, none⟩) hbl]; exact H1.out h
  have k2 : 3 ≤ n → w1.cell? ⟨bl, off + 2, none⟩ = some (.int .u64 c) := fun h => by rw [hb1.cell (p := ⟨bl, off + 2, none⟩) hbl]; exact H2.out h
  have HC := Lib.hid (HF.out bl off cap a b c w1 ha hb k0 k1 k2)
  clear k0 k1 k2 hat ha hb hm hmb
  rw [HV.out] at HC
  go_wp2_with fail
  refine HC.out.mono ?_
  rintro e w2 ⟨rfl, nq, rfl⟩
  clear hlk
  go_wp2_with fail
  go_ret2
  exact ⟨rfl, below_drewN hb1 nq⟩
set_option maxHeartbeats 400000 in
/-- EVAL, OF AN OPERATION WITH AS MANY WORDS AS IT TAKES. -/
theorem eval_core81 (op : Int) (n V : Nat) (bl off cap a b c : Nat) (w : World) (hat : fat (opT op) op = some 81) (hn : argsZ op = (n : Int)) (hn0 : 1 ≤ n) (hn3 : n ≤ 3) (hf : EvOk 81 op.toNat n) (ha : a < 18446744073709551616) (hb : b < 18446744073709551616) (hV : WM.ev op.toNat a b c = V)
    (hbl : bl < w.heap.size) (h0 : w.cell? ⟨bl, off, none⟩ = some (.int .u64 a)) (h1 : 2 ≤ n → w.cell? ⟨bl, off + 1, none⟩ = some (.int .u64 b)) (h2 : 3 ≤ n → w.cell? ⟨bl, off + 2, none⟩ = some (.int .u64 c)) :
    Calls Try.prog 14 #[.int .i64 op, .slice (some ⟨bl, off, none⟩) n cap] w fun e w' => e = .returned (.tuple #[.int .u64 (V : Int), .int .i64 0]) ∧ Below w.heap.size w w' := by
  have HF := Lib.hid hf
  have HV := Lib.hid hV
  have HN := Lib.hid hn
  have H0 := Lib.hid h0
  have H1 := Lib.hid h1
  have H2 := Lib.hid h2
  clear hf hV h0 h1 h2 hn
  have t1 : decide ((n : Int) < 0) = false := decide_eq_false (by omega)
  have t2 : ((n : Int) != (n : Int)) = false := by simp
  go_enter Try.func14, Try.ntmps14
  go_wp2_with fail
  refine (args_any _ _).mono ?_
  rintro e w' ⟨rfl, rfl⟩
  rw [HN.out]
  go_wp2_with fail
  refine (operations_any _ _).mono ?_
  rintro e w1 ⟨m, rfl, hm, hmb, hb1⟩
  have hlk := run_look1_fmap Try.underlying67 Try.underlying25 bz67 (opT op) hm op
  simp only [fval, hat] at hlk
  have k0 : w1.cell? ⟨bl, off, none⟩ = some (.int .u64 a) := by rw [hb1.cell (p := ⟨bl, off, none⟩) hbl]; exact H0.out
  have k1 : 2 ≤ n → w1.cell? ⟨bl, off + 1, none⟩ = some (.int .u64 b) := fun h => by rw [hb1.cell (p := ⟨bl, off + 1, none⟩) hbl]; exact H1.out h
  have k2 : 3 ≤ n → w1.cell? ⟨bl, off + 2, none⟩ = some (.int .u64 c) := fun h => by rw [hb1.cell (p := ⟨bl, off + 2, none⟩) hbl]; exact H2.out h
  have HC := Lib.hid (HF.out bl off cap a b c w1 ha hb k0 k1 k2)
  clear k0 k1 k2 hat ha hb hm hmb
  rw [HV.out] at HC
  go_wp2_with fail
  refine HC.out.mono ?_
  rintro e w2 ⟨rfl, nq, rfl⟩
  clear hlk
  go_wp2_with fail
  go_ret2
  exact ⟨rfl, below_drewN hb1 nq⟩
set_option maxHeartbeats 400000 in
/-- EVAL, OF AN OPERATION WITH AS MANY WORDS AS IT TAKES. -/
theorem eval_core82 (op : Int) (n V : Nat) (bl off cap a b c : Nat) (w : World) (hat : fat (opT op) op = some 82) (hn : argsZ op = (n : Int)) (hn0 : 1 ≤ n) (hn3 : n ≤ 3) (hf : EvOk 82 op.toNat n) (ha : a < 18446744073709551616) (hb : b < 18446744073709551616) (hV : WM.ev op.toNat a b c = V)
    (hbl : bl < w.heap.size) (h0 : w.cell? ⟨bl, off, none⟩ = some (.int .u64 a)) (h1 : 2 ≤ n → w.cell? ⟨bl, off + 1, none⟩ = some (.int .u64 b)) (h2 : 3 ≤ n → w.cell? ⟨bl, off + 2, none⟩ = some (.int .u64 c)) :
    Calls Try.prog 14 #[.int .i64 op, .slice (some ⟨bl, off, none⟩) n cap] w fun e w' => e = .returned (.tuple #[.int .u64 (V : Int), .int .i64 0]) ∧ Below w.heap.size w w' := by
  have HF := Lib.hid hf
  have HV := Lib.hid hV
  have HN := Lib.hid hn
  have H0 := Lib.hid h0
  have H1 := Lib.hid h1
  have H2 := Lib.hid h2
  clear hf hV h0 h1 h2 hn
  have t1 : decide ((n : Int) < 0) = false := decide_eq_false (by omega)
  have t2 : ((n : Int) != (n : Int)) = false := by simp
  go_enter Try.func14, Try.ntmps14
  go_wp2_with fail
  refine (args_any _ _).mono ?_
  rintro e w' ⟨rfl, rfl⟩
  rw [HN.out]
  go_wp2_with fail
  refine (operations_any _ _).mono ?_
  rintro e w1 ⟨m, rfl, hm, hmb, hb1⟩
  have hlk := run_look1_fmap Try.underlying67 Try.underlying25 bz67 (opT op) hm op
  simp only [fval, hat] at hlk
  have k0 : w1.cell? ⟨bl, off, none⟩ = some (.int .u64 a) := by rw [hb1.cell (p := ⟨bl, off, none⟩) hbl]; exact H0.out
  have k1 : 2 ≤ n → w1.cell? ⟨bl, off + 1, none⟩ = some (.int .u64 b) := fun h => by rw [hb1.cell (p := ⟨bl, off + 1, none⟩) hbl]; exact H1.out h
  have k2 : 3 ≤ n → w1.cell? ⟨bl, off + 2, none⟩ = some (.int .u64 c) := fun h => by rw [hb1.cell (p := ⟨bl, off + 2, none⟩) hbl]; exact H2.out h
  have HC := Lib.hid (HF.out bl off cap a b c w1 ha hb k0 k1 k2)
  clear k0 k1 k2 hat ha hb hm hmb
  rw [HV.out] at HC
  go_wp2_with fail
  refine HC.out.mono ?_
  rintro e w2 ⟨rfl, nq, rfl⟩
  clear hlk
  go_wp2_with fail
  go_ret2
  exact ⟨rfl, below_drewN hb1 nq⟩
set_option maxHeartbeats 400000 in
/-- EVAL, OF AN OPERATION WITH AS MANY WORDS AS IT TAKES. -/
theorem eval_core83 (op : Int) (n V : Nat) (bl off cap a b c : Nat) (w : World) (hat : fat (opT op) op = some 83) (hn : argsZ op = (n : Int)) (hn0 : 1 ≤ n) (hn3 : n ≤ 3) (hf : EvOk 83 op.toNat n) (ha : a < 18446744073709551616) (hb : b < 18446744073709551616) (hV : WM.ev op.toNat a b c = V)
    (hbl : bl < w.heap.size) (h0 : w.cell? ⟨bl, off, none⟩ = some (.int .u64 a)) (h1 : 2 ≤ n → w.cell? ⟨bl, off + 1, none⟩ = some (.int .u64 b)) (h2 : 3 ≤ n → w.cell? ⟨bl, off + 2, none⟩ = some (.int .u64 c)) :
    Calls Try.prog 14 #[.int .i64 op, .slice (some ⟨bl, off, none⟩) n cap] w fun e w' => e = .returned (.tuple #[.int .u64 (V : Int), .int .i64 0]) ∧ Below w.heap.size w w' := by
  have HF := Lib.hid hf
  have HV := Lib.hid hV
  have HN := Lib.hid hn
  have H0 := Lib.hid h0
  have H1 := Lib.hid h1
  have H2 := Lib.hid h2
  clear hf hV h0 h1 h2 hn
  have t1 : decide ((n : Int) < 0) = false := decide_eq_false (by omega)
  have t2 : ((n : Int) != (n : Int)) = false := by simp
  go_enter Try.func14, Try.ntmps14
  go_wp2_with fail
  refine (args_any _ _).mono ?_
  rintro e w' ⟨rfl, rfl⟩
  rw [HN.out]
  go_wp2_with fail
  refine (operations_any _ _).mono ?_
  rintro e w1 ⟨m, rfl, hm, hmb, hb1⟩
  have hlk := run_look1_fmap Try.underlying67 Try.underlying25 bz67 (opT op) hm op
  simp only [fval, hat] at hlk
  have k0 : w1.cell? ⟨bl, off, none⟩ = some (.int .u64 a) := by rw [hb1.cell (p := ⟨bl, off, none⟩) hbl]; exact H0.out
  have k1 : 2 ≤ n → w1.cell? ⟨bl, off + 1, none⟩ = some (.int .u64 b) := fun h => by rw [hb1.cell (p := ⟨bl, off + 1, none⟩) hbl]; exact H1.out h
  have k2 : 3 ≤ n → w1.cell? ⟨bl, off + 2, none⟩ = some (.int .u64 c) := fun h => by rw [hb1.cell (p := ⟨bl, off + 2, none⟩) hbl]; exact H2.out h
  have HC := Lib.hid (HF.out bl off cap a b c w1 ha hb k0 k1 k2)
  clear k0 k1 k2 hat ha hb hm hmb
  rw [HV.out] at HC
  go_wp2_with fail
  refine HC.out.mono ?_
  rintro e w2 ⟨rfl, nq, rfl⟩
  clear hlk
  go_wp2_with fail
  go_ret2
  exact ⟨rfl, below_drewN hb1 nq⟩
set_option maxHeartbeats 400000 in
/-- EVAL, OF AN OPERATION WITH AS MANY WORDS AS IT TAKES. -/
theorem eval_core84 (op : Int) (n V : Nat) (bl off cap a b c : Nat) (w : World) (hat : fat (opT op) op = some 84) (hn : argsZ op = (n : Int)) (hn0 : 1 ≤ n) (hn3 : n ≤ 3) (hf : EvOk 84 op.toNat n) (ha : a < 18446744073709551616) (hb : b < 18446744073709551616) (hV : WM.ev op.toNat a b c = V)
    (hbl : bl < w.heap.size) (h0 : w.cell? ⟨bl, off, none⟩ = some (.int .u64 a)) (h1 : 2 ≤ n → w.cell? ⟨bl, off + 1, none⟩ = some (.int .u64 b)) (h2 : 3 ≤ n → w.cell? ⟨bl, off + 2, none⟩ = some (.int .u64 c)) :
    Calls Try.prog 14 #[.int .i64 op, .slice (some ⟨bl, off, none⟩) n cap] w fun e w' => e = .returned (.tuple #[.int .u64 (V : Int), .int .i64 0]) ∧ Below w.heap.size w w' := by
  have HF := Lib.hid hf
  have HV := Lib.hid hV
  have HN := Lib.hid hn
  have H0 := Lib.hid h0
  have H1 := Lib.hid h1
  have H2 := Lib.hid h2
  clear hf hV h0 h1 h2 hn
  have t1 : decide ((n : Int) < 0) = false := decide_eq_false (by omega)
  have t2 : ((n : Int) != (n : Int)) = false := by simp
  go_enter Try.func14, Try.ntmps14
  go_wp2_with fail
  refine (args_any _ _).mono ?_
  rintro e w' ⟨rfl, rfl⟩
  rw [HN.out]
  go_wp2_with fail
  refine (operations_any _ _).mono ?_
  rintro e w1 ⟨m, rfl, hm, hmb, hb1⟩
  have hlk := run_look1_fmap Try.underlying67 Try.underlying25 bz67 (opT op) hm op
  simp only [fval, hat] at hlk
  have k0 : w1.cell? ⟨bl, off, none⟩ = some (.int .u64 a) := by rw [hb1.cell (p := ⟨bl, off, none⟩) hbl]; exact H0.out
  have k1 : 2 ≤ n → w1.cell? ⟨bl, off + 1, none⟩ = some (.int .u64 b) := fun h => by rw [hb1.cell (p := ⟨bl, off + 1, none⟩) hbl]; exact H1.out h
  have k2 : 3 ≤ n → w1.cell? ⟨bl, off + 2, none⟩ = some (.int .u64 c) := fun h => by rw [hb1.cell (p := ⟨bl, off + 2, none⟩) hbl]; exact H2.out h
  have HC := Lib.hid (HF.out bl off cap a b c w1 ha hb k0 k1 k2)
  clear k0 k1 k2 hat ha hb hm hmb
  rw [HV.out] at HC
  go_wp2_with fail
  refine HC.out.mono ?_
  rintro e w2 ⟨rfl, nq, rfl⟩
  clear hlk
  go_wp2_with fail
  go_ret2
  exact ⟨rfl, below_drewN hb1 nq⟩
set_option maxHeartbeats 400000 in
/-- EVAL, OF AN OPERATION WITH AS MANY WORDS AS IT TAKES. -/
theorem eval_core85 (op : Int) (n V : Nat) (bl off cap a b c : Nat) (w : World) (hat : fat (opT op) op = some 85) (hn : argsZ op = (n : Int)) (hn0 : 1 ≤ n) (hn3 : n ≤ 3) (hf : EvOk 85 op.toNat n) (ha : a < 18446744073709551616) (hb : b < 18446744073709551616) (hV : WM.ev op.toNat a b c = V)
    (hbl : bl < w.heap.size) (h0 : w.cell? ⟨bl, off, none⟩ = some (.int .u64 a)) (h1 : 2 ≤ n → w.cell? ⟨bl, off + 1, none⟩ = some (.int .u64 b)) (h2 : 3 ≤ n → w.cell? ⟨bl, off + 2, none⟩ = some (.int .u64 c)) :
    Calls Try.prog 14 #[.int .i64 op, .slice (some ⟨bl, off, none⟩) n cap] w fun e w' => e = .returned (.tuple #[.int .u64 (V : Int), .int .i64 0]) ∧ Below w.heap.size w w' := by
  have HF := Lib.hid hf
  have HV := Lib.hid hV
  have HN := Lib.hid hn
  have H0 := Lib.hid h0
  have H1 := Lib.hid h1
  have H2 := Lib.hid h2
  clear hf hV h0 h1 h2 hn
  have t1 : decide ((n : Int) < 0) = false := decide_eq_false (by omega)
  have t2 : ((n : Int) != (n : Int)) = false := by simp
  go_enter Try.func14, Try.ntmps14
  go_wp2_with fail
  refine (args_any _ _).mono ?_
  rintro e w' ⟨rfl, rfl⟩
  rw [HN.out]
  go_wp2_with fail
  refine (operations_any _ _).mono ?_
  rintro e w1 ⟨m, rfl, hm, hmb, hb1⟩
  have hlk := run_look1_fmap Try.underlying67 Try.underlying25 bz67 (opT op) hm op
  simp only [fval, hat] at hlk
  have k0 : w1.cell? ⟨bl, off, none⟩ = some (.int .u64 a) := by rw [hb1.cell (p := ⟨bl, off, none⟩) hbl]; exact H0.out
  have k1 : 2 ≤ n → w1.cell? ⟨bl, off + 1, none⟩ = some (.int .u64 b) := fun h => by rw [hb1.cell (p := ⟨bl, off + 1, none⟩) hbl]; exact H1.out h
  have k2 : 3 ≤ n → w1.cell? ⟨bl, off + 2, none⟩ = some (.int .u64 c) := fun h => by rw [hb1.cell (p := ⟨bl, off + 2, none⟩) hbl]; exact H2.out h
  have HC := Lib.hid (HF.out bl off cap a b c w1 ha hb k0 k1 k2)
  clear k0 k1 k2 hat ha hb hm hmb
  rw [HV.out] at HC
  go_wp2_with fail
  refine HC.out.mono ?_
  rintro e w2 ⟨rfl, nq, rfl⟩
  clear hlk
  go_wp2_with fail
  go_ret2
  exact ⟨rfl, below_drewN hb1 nq⟩
set_option maxHeartbeats 400000 in
/-- EVAL, OF AN OPERATION WITH AS MANY WORDS AS IT TAKES. -/
theorem eval_core86 (op : Int) (n V : Nat) (bl off cap a b c : Nat) (w : World) (hat : fat (opT op) op = some 86) (hn : argsZ op = (n : Int)) (hn0 : 1 ≤ n) (hn3 : n ≤ 3) (hf : EvOk 86 op.toNat n) (ha : a < 18446744073709551616) (hb : b < 18446744073709551616) (hV : WM.ev op.toNat a b c = V)
    (hbl : bl < w.heap.size) (h0 : w.cell? ⟨bl, off, none⟩ = some (.int .u64 a)) (h1 : 2 ≤ n → w.cell? ⟨bl, off + 1, none⟩ = some (.int .u64 b)) (h2 : 3 ≤ n → w.cell? ⟨bl, off + 2, none⟩ = some (.int .u64 c)) :
    Calls Try.prog 14 #[.int .i64 op, .slice (some ⟨bl, off, none⟩) n cap] w fun e w' => e = .returned (.tuple #[.int .u64 (V : Int), .int .i64 0]) ∧ Below w.heap.size w w' := by
  have HF := Lib.hid hf
  have HV := Lib.hid hV
  have HN := Lib.hid hn
  have H0 := Lib.hid h0
  have H1 := Lib.hid h1
  have H2 := Lib.hid h2
  clear hf hV h0 h1 h2 hn
  have t1 : decide ((n : Int) < 0) = false := decide_eq_false (by omega)
  have t2 : ((n : Int) != (n : Int)) = false := by simp
  go_enter Try.func14, Try.ntmps14
  go_wp2_with fail
  refine (args_any _ _).mono ?_
  rintro e w' ⟨rfl, rfl⟩
  rw [HN.out]
  go_wp2_with fail
  refine (operations_any _ _).mono ?_
  rintro e w1 ⟨m, rfl, hm, hmb, hb1⟩
  have hlk := run_look1_fmap Try.underlying67 Try.underlying25 bz67 (opT op) hm op
  simp only [fval, hat] at hlk
  have k0 : w1.cell? ⟨bl, off, none⟩ = some (.int .u64 a) := by rw [hb1.cell (p := ⟨bl, off, none⟩) hbl]; exact H0.out
  have k1 : 2 ≤ n → w1.cell? ⟨bl, off + 1, none⟩ = some (.int .u64 b) := fun h => by rw [hb1.cell (p := ⟨bl, off + 1, none⟩) hbl]; exact H1.out h
  have k2 : 3 ≤ n → w1.cell? ⟨bl, off + 2, none⟩ = some (.int .u64 c) := fun h => by rw [hb1.cell (p := ⟨bl, off + 2, none⟩) hbl]; exact H2.out h
  have HC := Lib.hid (HF.out bl off cap a b c w1 ha hb k0 k1 k2)
  clear k0 k1 k2 hat ha hb hm hmb
  rw [HV.out] at HC
  go_wp2_with fail
  refine HC.out.mono ?_
  rintro e w2 ⟨rfl, nq, rfl⟩
  clear hlk
  go_wp2_with fail
  go_ret2
  exact ⟨rfl, below_drewN hb1 nq⟩
set_option maxHeartbeats 400000 in
/-- EVAL, OF AN OPERATION WITH AS MANY WORDS AS IT TAKES. -/
theorem eval_core87 (op : Int) (n V : Nat) (bl off cap a b c : Nat) (w : World) (hat : fat (opT op) op = some 87) (hn : argsZ op = (n : Int)) (hn0 : 1 ≤ n) (hn3 : n ≤ 3) (hf : EvOk 87 op.toNat n) (ha : a < 18446744073709551616) (hb : b < 18446744073709551616) (hV : WM.ev op.toNat a b c = V)
    (hbl : bl < w.heap.size) (h0 : w.cell? ⟨bl, off, none⟩ = some (.int .u64 a)) (h1 : 2 ≤ n → w.cell? ⟨bl, off + 1, none⟩ = some (.int .u64 b)) (h2 : 3 ≤ n → w.cell? ⟨bl, off + 2, none⟩ = some (.int .u64 c)) :
    Calls Try.prog 14 #[.int .i64 op, .slice (some ⟨bl, off, none⟩) n cap] w fun e w' => e = .returned (.tuple #[.int .u64 (V : Int), .int .i64 0]) ∧ Below w.heap.size w w' := by
  have HF := Lib.hid hf
  have HV := Lib.hid hV
  have HN := Lib.hid hn
  have H0 := Lib.hid h0
  have H1 := Lib.hid h1
  have H2 := Lib.hid h2
  clear hf hV h0 h1 h2 hn
  have t1 : decide ((n : Int) < 0) = false := decide_eq_false (by omega)
  have t2 : ((n : Int) != (n : Int)) = false := by simp
  go_enter Try.func14, Try.ntmps14
  go_wp2_with fail
  refine (args_any _ _).mono ?_
  rintro e w' ⟨rfl, rfl⟩
  rw [HN.out]
  go_wp2_with fail
  refine (operations_any _ _).mono ?_
  rintro e w1 ⟨m, rfl, hm, hmb, hb1⟩
  have hlk := run_look1_fmap Try.underlying67 Try.underlying25 bz67 (opT op) hm op
  simp only [fval, hat] at hlk
  have k0 : w1.cell? ⟨bl, off, none⟩ = some (.int .u64 a) := by rw [hb1.cell (p := ⟨bl, off, none⟩) hbl]; exact H0.out
  have k1 : 2 ≤ n → w1.cell? ⟨bl, off + 1, none⟩ = some (.int .u64 b) := fun h => by rw [hb1.cell (p := ⟨bl, off + 1, none⟩) hbl]; exact H1.out h
  have k2 : 3 ≤ n → w1.cell? ⟨bl, off + 2, none⟩ = some (.int .u64 c) := fun h => by rw [hb1.cell (p := ⟨bl, off + 2, none⟩) hbl]; exact H2.out h
  have HC := Lib.hid (HF.out bl off cap a b c w1 ha hb k0 k1 k2)
  clear k0 k1 k2 hat ha hb hm hmb
  rw [HV.out] at HC
  go_wp2_with fail
  refine HC.out.mono ?_
  rintro e w2 ⟨rfl, nq, rfl⟩
  clear hlk
  go_wp2_with fail
  go_ret2
  exact ⟨rfl, below_drewN hb1 nq⟩
set_option maxHeartbeats 400000 in
/-- EVAL, OF AN OPERATION WITH AS MANY WORDS AS IT TAKES. -/
theorem eval_core89 (op : Int) (n V : Nat) (bl off cap a b c : Nat) (w : World) (hat : fat (opT op) op = some 89) (hn : argsZ op = (n : Int)) (hn0 : 1 ≤ n) (hn3 : n ≤ 3) (hf : EvOk 89 op.toNat n) (ha : a < 18446744073709551616) (hb : b < 18446744073709551616) (hV : WM.ev op.toNat a b c = V)
    (hbl : bl < w.heap.size) (h0 : w.cell? ⟨bl, off, none⟩ = some (.int .u64 a)) (h1 : 2 ≤ n → w.cell? ⟨bl, off + 1, none⟩ = some (.int .u64 b)) (h2 : 3 ≤ n → w.cell? ⟨bl, off + 2, none⟩ = some (.int .u64 c)) :
    Calls Try.prog 14 #[.int .i64 op, .slice (some ⟨bl, off, none⟩) n cap] w fun e w' => e = .returned (.tuple #[.int .u64 (V : Int), .int .i64 0]) ∧ Below w.heap.size w w' := by
  have HF := Lib.hid hf
  have HV := Lib.hid hV
  have HN := Lib.hid hn
  have H0 := Lib.hid h0
  have H1 := Lib.hid h1
  have H2 := Lib.hid h2
  clear hf hV h0 h1 h2 hn
  have t1 : decide ((n : Int) < 0) = false := decide_eq_false (by omega)
  have t2 : ((n : Int) != (n : Int)) = false := by simp
  go_enter Try.func14, Try.ntmps14
  go_wp2_with fail
  refine (args_any _ _).mono ?_
  rintro e w' ⟨rfl, rfl⟩
  rw [HN.out]
  go_wp2_with fail
  refine (operations_any _ _).mono ?_
  rintro e w1 ⟨m, rfl, hm, hmb, hb1⟩
  have hlk := run_look1_fmap Try.underlying67 Try.underlying25 bz67 (opT op) hm op
  simp only [fval, hat] at hlk
  have k0 : w1.cell? ⟨bl, off, none⟩ = some (.int .u64 a) := by rw [hb1.cell (p := ⟨bl, off, none⟩) hbl]; exact H0.out
  have k1 : 2 ≤ n → w1.cell? ⟨bl, off + 1, none⟩ = some (.int .u64 b) := fun h => by rw [hb1.cell (p := ⟨bl, off + 1, none⟩) hbl]; exact H1.out h
  have k2 : 3 ≤ n → w1.cell? ⟨bl, off + 2, none⟩ = some (.int .u64 c) := fun h => by rw [hb1.cell (p := ⟨bl, off + 2, none⟩) hbl]; exact H2.out h
  have HC := Lib.hid (HF.out bl off cap a b c w1 ha hb k0 k1 k2)
  clear k0 k1 k2 hat ha hb hm hmb
  rw [HV.out] at HC
  go_wp2_with fail
  refine HC.out.mono ?_
  rintro e w2 ⟨rfl, nq, rfl⟩
  clear hlk
  go_wp2_with fail
  go_ret2
  exact ⟨rfl, below_drewN hb1 nq⟩
set_option maxHeartbeats 400000 in
/-- EVAL, OF AN OPERATION WITH AS MANY WORDS AS IT TAKES. -/
theorem eval_core90 (op : Int) (n V : Nat) (bl off cap a b c : Nat) (w : World) (hat : fat (opT op) op = some 90) (hn : argsZ op = (n : Int)) (hn0 : 1 ≤ n) (hn3 : n ≤ 3) (hf : EvOk 90 op.toNat n) (ha : a < 18446744073709551616) (hb : b < 18446744073709551616) (hV : WM.ev op.toNat a b c = V)
    (hbl : bl < w.heap.size) (h0 : w.cell? ⟨bl, off, none⟩ = some (.int .u64 a)) (h1 : 2 ≤ n → w.cell? ⟨bl, off + 1, none⟩ = some (.int .u64 b)) (h2 : 3 ≤ n → w.cell? ⟨bl, off + 2, none⟩ = some (.int .u64 c)) :
    Calls Try.prog 14 #[.int .i64 op, .slice (some ⟨bl, off, none⟩) n cap] w fun e w' => e = .returned (.tuple #[.int .u64 (V : Int), .int .i64 0]) ∧ Below w.heap.size w w' := by
  have HF := Lib.hid hf
  have HV := Lib.hid hV
  have HN := Lib.hid hn
  have H0 := Lib.hid h0
  have H1 := Lib.hid h1
  have H2 := Lib.hid h2
  clear hf hV h0 h1 h2 hn
  have t1 : decide ((n : Int) < 0) = false := decide_eq_false (by omega)
  have t2 : ((n : Int) != (n : Int)) = false := by simp
  go_enter Try.func14, Try.ntmps14
  go_wp2_with fail
  refine (args_any _ _).mono ?_
  rintro e w' ⟨rfl, rfl⟩
  rw [HN.out]
  go_wp2_with fail
  refine (operations_any _ _).mono ?_
  rintro e w1 ⟨m, rfl, hm, hmb, hb1⟩
  have hlk := run_look1_fmap Try.underlying67 Try.underlying25 bz67 (opT op) hm op
  simp only [fval, hat] at hlk
  have k0 : w1.cell? ⟨bl, off, none⟩ = some (.int .u64 a) := by rw [hb1.cell (p := ⟨bl, off, none⟩) hbl]; exact H0.out
  have k1 : 2 ≤ n → w1.cell? ⟨bl, off + 1, none⟩ = some (.int .u64 b) := fun h => by rw [hb1.cell (p := ⟨bl, off + 1, none⟩) hbl]; exact H1.out h
  have k2 : 3 ≤ n → w1.cell? ⟨bl, off + 2, none⟩ = some (.int .u64 c) := fun h => by rw [hb1.cell (p := ⟨bl, off + 2, none⟩) hbl]; exact H2.out h
  have HC := Lib.hid (HF.out bl off cap a b c w1 ha hb k0 k1 k2)
  clear k0 k1 k2 hat ha hb hm hmb
  rw [HV.out] at HC
  go_wp2_with fail
  refine HC.out.mono ?_
  rintro e w2 ⟨rfl, nq, rfl⟩
  clear hlk
  go_wp2_with fail
  go_ret2
  exact ⟨rfl, below_drewN hb1 nq⟩
set_option maxHeartbeats 400000 in
/-- EVAL, OF AN OPERATION WITH AS MANY WORDS AS IT TAKES. -/
theorem eval_core91 (op : Int) (n V : Nat) (bl off cap a b c : Nat) (w : World) (hat : fat (opT op) op = some 91) (hn : argsZ op = (n : Int)) (hn0 : 1 ≤ n) (hn3 : n ≤ 3) (hf : EvOk 91 op.toNat n) (ha : a < 18446744073709551616) (hb : b < 18446744073709551616) (hV : WM.ev op.toNat a b c = V)
    (hbl : bl < w.heap.size) (h0 : w.cell? ⟨bl, off, none⟩ = some (.int .u64 a)) (h1 : 2 ≤ n → w.cell? ⟨bl, off + 1, none⟩ = some (.int .u64 b)) (h2 : 3 ≤ n → w.cell? ⟨bl, off + 2, none⟩ = some (.int .u64 c)) :
    Calls Try.prog 14 #[.int .i64 op, .slice (some ⟨bl, off, none⟩) n cap] w fun e w' => e = .returned (.tuple #[.int .u64 (V : Int), .int .i64 0]) ∧ Below w.heap.size w w' := by
  have HF := Lib.hid hf
  have HV := Lib.hid hV
  have HN := Lib.hid hn
  have H0 := Lib.hid h0
  have H1 := Lib.hid h1
  have H2 := Lib.hid h2
  clear hf hV h0 h1 h2 hn
  have t1 : decide ((n : Int) < 0) = false := decide_eq_false (by omega)
  have t2 : ((n : Int) != (n : Int)) = false := by simp
  go_enter Try.func14, Try.ntmps14
  go_wp2_with fail
  refine (args_any _ _).mono ?_
  rintro e w' ⟨rfl, rfl⟩
  rw [HN.out]
  go_wp2_with fail
  refine (operations_any _ _).mono ?_
  rintro e w1 ⟨m, rfl, hm, hmb, hb1⟩
  have hlk := run_look1_fmap Try.underlying67 Try.underlying25 bz67 (opT op) hm op
  simp only [fval, hat] at hlk
  have k0 : w1.cell? ⟨bl, off, none⟩ = some (.int .u64 a) := by rw [hb1.cell (p := ⟨bl, off, none⟩) hbl]; exact H0.out
  have k1 : 2 ≤ n → w1.cell? ⟨bl, off + 1, none⟩ = some (.int .u64 b) := fun h => by rw [hb1.cell (p := ⟨bl, off + 1, none⟩) hbl]; exact H1.out h
  have k2 : 3 ≤ n → w1.cell? ⟨bl, off + 2, none⟩ = some (.int .u64 c) := fun h => by rw [hb1.cell (p := ⟨bl, off + 2, none⟩) hbl]; exact H2.out h
  have HC := Lib.hid (HF.out bl off cap a b c w1 ha hb k0 k1 k2)
  clear k0 k1 k2 hat ha hb hm hmb
  rw [HV.out] at HC
  go_wp2_with fail
  refine HC.out.mono ?_
  rintro e w2 ⟨rfl, nq, rfl⟩
  clear hlk
  go_wp2_with fail
  go_ret2
  exact ⟨rfl, below_drewN hb1 nq⟩
set_option maxHeartbeats 400000 in
/-- EVAL, OF AN OPERATION WITH AS MANY WORDS AS IT TAKES. -/
theorem eval_core92 (op : Int) (n V : Nat) (bl off cap a b c : Nat) (w : World) (hat : fat (opT op) op = some 92) (hn : argsZ op = (n : Int)) (hn0 : 1 ≤ n) (hn3 : n ≤ 3) (hf : EvOk 92 op.toNat n) (ha : a < 18446744073709551616) (hb : b < 18446744073709551616) (hV : WM.ev op.toNat a b c = V)
    (hbl : bl < w.heap.size) (h0 : w.cell? ⟨bl, off, none⟩ = some (.int .u64 a)) (h1 : 2 ≤ n → w.cell? ⟨bl, off + 1, none⟩ = some (.int .u64 b)) (h2 : 3 ≤ n → w.cell? ⟨bl, off + 2, none⟩ = some (.int .u64 c)) :
    Calls Try.prog 14 #[.int .i64 op, .slice (some ⟨bl, off, none⟩) n cap] w fun e w' => e = .returned (.tuple #[.int .u64 (V : Int), .int .i64 0]) ∧ Below w.heap.size w w' := by
  have HF := Lib.hid hf
  have HV := Lib.hid hV
  have HN := Lib.hid hn
  have H0 := Lib.hid h0
  have H1 := Lib.hid h1
  have H2 := Lib.hid h2
  clear hf hV h0 h1 h2 hn
  have t1 : decide ((n : Int) < 0) = false := decide_eq_false (by omega)
  have t2 : ((n : Int) != (n : Int)) = false := by simp
  go_enter Try.func14, Try.ntmps14
  go_wp2_with fail
  refine (args_any _ _).mono ?_
  rintro e w' ⟨rfl, rfl⟩
  rw [HN.out]
  go_wp2_with fail
  refine (operations_any _ _).mono ?_
  rintro e w1 ⟨m, rfl, hm, hmb, hb1⟩
  have hlk := run_look1_fmap Try.underlying67 Try.underlying25 bz67 (opT op) hm op
  simp only [fval, hat] at hlk
  have k0 : w1.cell? ⟨bl, off, none⟩ = some (.int .u64 a) := by rw [hb1.cell (p := ⟨bl, off, none⟩) hbl]; exact H0.out
  have k1 : 2 ≤ n → w1.cell? ⟨bl, off + 1, none⟩ = some (.int .u64 b) := fun h => by rw [hb1.cell (p := ⟨bl, off + 1, none⟩) hbl]; exact H1.out h
  have k2 : 3 ≤ n → w1.cell? ⟨bl, off + 2, none⟩ = some (.int .u64 c) := fun h => by rw [hb1.cell (p := ⟨bl, off + 2, none⟩) hbl]; exact H2.out h
  have HC := Lib.hid (HF.out bl off cap a b c w1 ha hb k0 k1 k2)
  clear k0 k1 k2 hat ha hb hm hmb
  rw [HV.out] at HC
  go_wp2_with fail
  refine HC.out.mono ?_
  rintro e w2 ⟨rfl, nq, rfl⟩
  clear hlk
  go_wp2_with fail
  go_ret2
  exact ⟨rfl, below_drewN hb1 nq⟩
set_option maxHeartbeats 400000 in
/-- EVAL, OF AN OPERATION WITH AS MANY WORDS AS IT TAKES. -/
theorem eval_core93 (op : Int) (n V : Nat) (bl off cap a b c : Nat) (w : World) (hat : fat (opT op) op = some 93) (hn : argsZ op = (n : Int)) (hn0 : 1 ≤ n) (hn3 : n ≤ 3) (hf : EvOk 93 op.toNat n) (ha : a < 18446744073709551616) (hb : b < 18446744073709551616) (hV : WM.ev op.toNat a b c = V)
    (hbl : bl < w.heap.size) (h0 : w.cell? ⟨bl, off, none⟩ = some (.int .u64 a)) (h1 : 2 ≤ n → w.cell? ⟨bl, off + 1, none⟩ = some (.int .u64 b)) (h2 : 3 ≤ n → w.cell? ⟨bl, off + 2, none⟩ = some (.int .u64 c)) :
    Calls Try.prog 14 #[.int .i64 op, .slice (some ⟨bl, off, none⟩) n cap] w fun e w' => e = .returned (.tuple #[.int .u64 (V : Int), .int .i64 0]) ∧ Below w.heap.size w w' := by
  have HF := Lib.hid hf
  have HV := Lib.hid hV
  have HN := Lib.hid hn
  have H0 := Lib.hid h0
  have H1 := Lib.hid h1
  have H2 := Lib.hid h2
  clear hf hV h0 h1 h2 hn
  have t1 : decide ((n : Int) < 0) = false := decide_eq_false (by omega)
  have t2 : ((n : Int) != (n : Int)) = false := by simp
  go_enter Try.func14, Try.ntmps14
  go_wp2_with fail
  refine (args_any _ _).mono ?_
  rintro e w' ⟨rfl, rfl⟩
  rw [HN.out]
  go_wp2_with fail
  refine (operations_any _ _).mono ?_
  rintro e w1 ⟨m, rfl, hm, hmb, hb1⟩
  have hlk := run_look1_fmap Try.underlying67 Try.underlying25 bz67 (opT op) hm op
  simp only [fval, hat] at hlk
  have k0 : w1.cell? ⟨bl, off, none⟩ = some (.int .u64 a) := by rw [hb1.cell (p := ⟨bl, off, none⟩) hbl]; exact H0.out
  have k1 : 2 ≤ n → w1.cell? ⟨bl, off + 1, none⟩ = some (.int .u64 b) := fun h => by rw [hb1.cell (p := ⟨bl, off + 1, none⟩) hbl]; exact H1.out h
  have k2 : 3 ≤ n → w1.cell? ⟨bl, off + 2, none⟩ = some (.int .u64 c) := fun h => by rw [hb1.cell (p := ⟨bl, off + 2, none⟩) hbl]; exact H2.out h
  have HC := Lib.hid (HF.out bl off cap a b c w1 ha hb k0 k1 k2)
  clear k0 k1 k2 hat ha hb hm hmb
  rw [HV.out] at HC
  go_wp2_with fail
  refine HC.out.mono ?_
  rintro e w2 ⟨rfl, nq, rfl⟩
  clear hlk
  go_wp2_with fail
  go_ret2
  exact ⟨rfl, below_drewN hb1 nq⟩
set_option maxHeartbeats 400000 in
/-- EVAL, OF AN OPERATION WITH AS MANY WORDS AS IT TAKES. -/
theorem eval_core94 (op : Int) (n V : Nat) (bl off cap a b c : Nat) (w : World) (hat : fat (opT op) op = some 94) (hn : argsZ op = (n : Int)) (hn0 : 1 ≤ n) (hn3 : n ≤ 3) (hf : EvOk 94 op.toNat n) (ha : a < 18446744073709551616) (hb : b < 18446744073709551616) (hV : WM.ev op.toNat a b c = V)
    (hbl : bl < w.heap.size) (h0 : w.cell? ⟨bl, off, none⟩ = some (.int .u64 a)) (h1 : 2 ≤ n → w.cell? ⟨bl, off + 1, none⟩ = some (.int .u64 b)) (h2 : 3 ≤ n → w.cell? ⟨bl, off + 2, none⟩ = some (.int .u64 c)) :
    Calls Try.prog 14 #[.int .i64 op, .slice (some ⟨bl, off, none⟩) n cap] w fun e w' => e = .returned (.tuple #[.int .u64 (V : Int), .int .i64 0]) ∧ Below w.heap.size w w' := by
  have HF := Lib.hid hf
  have HV := Lib.hid hV
  have HN := Lib.hid hn
  have H0 := Lib.hid h0
  have H1 := Lib.hid h1
  have H2 := Lib.hid h2
  clear hf hV h0 h1 h2 hn
  have t1 : decide ((n : Int) < 0) = false := decide_eq_false (by omega)
  have t2 : ((n : Int) != (n : Int)) = false := by simp
  go_enter Try.func14, Try.ntmps14
  go_wp2_with fail
  refine (args_any _ _).mono ?_
  rintro e w' ⟨rfl, rfl⟩
  rw [HN.out]
  go_wp2_with fail
  refine (operations_any _ _).mono ?_
  rintro e w1 ⟨m, rfl, hm, hmb, hb1⟩
  have hlk := run_look1_fmap Try.underlying67 Try.underlying25 bz67 (opT op) hm op
  simp only [fval, hat] at hlk
  have k0 : w1.cell? ⟨bl, off, none⟩ = some (.int .u64 a) := by rw [hb1.cell (p := ⟨bl, off, none⟩) hbl]; exact H0.out
  have k1 : 2 ≤ n → w1.cell? ⟨bl, off + 1, none⟩ = some (.int .u64 b) := fun h => by rw [hb1.cell (p := ⟨bl, off + 1, none⟩) hbl]; exact H1.out h
  have k2 : 3 ≤ n → w1.cell? ⟨bl, off + 2, none⟩ = some (.int .u64 c) := fun h => by rw [hb1.cell (p := ⟨bl, off + 2, none⟩) hbl]; exact H2.out h
  have HC := Lib.hid (HF.out bl off cap a b c w1 ha hb k0 k1 k2)
  clear k0 k1 k2 hat ha hb hm hmb
  rw [HV.out] at HC
  go_wp2_with fail
  refine HC.out.mono ?_
  rintro e w2 ⟨rfl, nq, rfl⟩
  clear hlk
  go_wp2_with fail
  go_ret2
  exact ⟨rfl, below_drewN hb1 nq⟩
set_option maxHeartbeats 400000 in
/-- EVAL, REFUSED: none that takes words. -/
theorem eval_none (op : Int) (v : Option Addr) (n cap : Nat) (w : World) (hn : argsZ op = -1) :
    Calls Try.prog 14 #[.int .i64 op, .slice v n cap] w fun e w' => e = .returned (.tuple #[.int .u64 0, .int .i64 2]) ∧ w = w' := by
  have HN := Lib.hid hn
  clear hn
  go_enter Try.func14, Try.ntmps14
  go_wp2_with fail
  refine (args_any _ _).mono ?_
  rintro e w' ⟨rfl, rfl⟩
  rw [HN.out]
  go_wp2_with fail
  go_ret2
  exact ⟨rfl, rfl⟩
set_option maxHeartbeats 400000 in
/-- EVAL, REFUSED: another number of words. -/
theorem eval_other (op : Int) (v : Option Addr) (k n cap : Nat) (w : World) (hn : argsZ op = (k : Int)) (hk : k ≠ n) :
    Calls Try.prog 14 #[.int .i64 op, .slice v n cap] w fun e w' => e = .returned (.tuple #[.int .u64 0, .int .i64 2]) ∧ w = w' := by
  have HN := Lib.hid hn
  clear hn
  have t1 : decide ((k : Int) < 0) = false := decide_eq_false (by omega)
  have t2 : ((k : Int) != (n : Int)) = true := by rw [bne_iff_ne]; omega
  have t3 : ((k : Int) == (n : Int)) = false := by rw [beq_eq_false_iff_ne]; omega
  go_enter Try.func14, Try.ntmps14
  go_wp2_with fail
  refine (args_any _ _).mono ?_
  rintro e w' ⟨rfl, rfl⟩
  rw [HN.out]
  go_wp2_with fail
  go_ret2
  exact ⟨rfl, rfl⟩
theorem argsZ_args {op : Int} {n : Nat} (h : argsZ op = (n : Int)) (h1 : 1 ≤ n) : (op = 4 ∧ n = 1) ∨ (op = 5 ∧ n = 1) ∨ (6 ≤ op ∧ op ≤ 20 ∧ n = 2) ∨ (op = 21 ∧ n = 3) := by
  unfold argsZ at h
  split at h
  · omega
  · split at h
    · omega
    · split at h <;> omega
/-- EVAL, OF AN OPERATION WITH AS MANY WORDS AS IT TAKES. -/
theorem eval_any (op : Int) (n V : Nat) (bl off cap a b c : Nat) (w : World) (hn : argsZ op = (n : Int)) (hn0 : 1 ≤ n) (ha : a < 18446744073709551616) (hb : b < 18446744073709551616) (hV : WM.ev op.toNat a b c = V)
    (hbl : bl < w.heap.size) (h0 : w.cell? ⟨bl, off, none⟩ = some (.int .u64 a)) (h1 : 2 ≤ n → w.cell? ⟨bl, off + 1, none⟩ = some (.int .u64 b)) (h2 : 3 ≤ n → w.cell? ⟨bl, off + 2, none⟩ = some (.int .u64 c)) :
    Calls Try.prog 14 #[.int .i64 op, .slice (some ⟨bl, off, none⟩) n cap] w fun e w' => e = .returned (.tuple #[.int .u64 (V : Int), .int .i64 0]) ∧ Below w.heap.size w w' := by
  have hc := argsZ_args hn hn0
  have hops : op = 4 ∨ op = 5 ∨ op = 6 ∨ op = 7 ∨ op = 8 ∨ op = 9 ∨ op = 10 ∨ op = 11 ∨ op = 12 ∨ op = 13 ∨ op = 14 ∨ op = 15 ∨ op = 16 ∨ op = 17 ∨ op = 18 ∨ op = 19 ∨ op = 20 ∨ op = 21 := by omega
  rcases hops with rfl | rfl | rfl | rfl | rfl | rfl | rfl | rfl | rfl | rfl | rfl | rfl | rfl | rfl | rfl | rfl | rfl | rfl
  · obtain rfl : n = 1 := by omega
    exact eval_core76 4 1 V bl off cap a b c w rfl hn (by decide) (by decide) ev4 ha hb hV hbl h0 h1 h2
  · obtain rfl : n = 1 := by omega
    exact eval_core77 5 1 V bl off cap a b c w rfl hn (by decide) (by decide) ev5 ha hb hV hbl h0 h1 h2
  · obtain rfl : n = 2 := by omega
    exact eval_core78 6 2 V bl off cap a b c w rfl hn (by decide) (by decide) ev6 ha hb hV hbl h0 h1 h2
  · obtain rfl : n = 2 := by omega
    exact eval_core79 7 2 V bl off cap a b c w rfl hn (by decide) (by decide) ev7 ha hb hV hbl h0 h1 h2
  · obtain rfl : n = 2 := by omega
    exact eval_core80 8 2 V bl off cap a b c w rfl hn (by decide) (by decide) ev8 ha hb hV hbl h0 h1 h2
  · obtain rfl : n = 2 := by omega
    exact eval_core81 9 2 V bl off cap a b c w rfl hn (by decide) (by decide) ev9 ha hb hV hbl h0 h1 h2
  · obtain rfl : n = 2 := by omega
    exact eval_core82 10 2 V bl off cap a b c w rfl hn (by decide) (by decide) ev10 ha hb hV hbl h0 h1 h2
  · obtain rfl : n = 2 := by omega
    exact eval_core83 11 2 V bl off cap a b c w rfl hn (by decide) (by decide) ev11 ha hb hV hbl h0 h1 h2
  · obtain rfl : n = 2 := by omega
    exact eval_core84 12 2 V bl off cap a b c w rfl hn (by decide) (by decide) ev12 ha hb hV hbl h0 h1 h2
  · obtain rfl : n = 2 := by omega
    exact eval_core85 13 2 V bl off cap a b c w rfl hn (by decide) (by decide) ev13 ha hb hV hbl h0 h1 h2
  · obtain rfl : n = 2 := by omega
    exact eval_core86 14 2 V bl off cap a b c w rfl hn (by decide) (by decide) ev14 ha hb hV hbl h0 h1 h2
  · obtain rfl : n = 2 := by omega
    exact eval_core87 15 2 V bl off cap a b c w rfl hn (by decide) (by decide) ev15 ha hb hV hbl h0 h1 h2
  · obtain rfl : n = 2 := by omega
    exact eval_core89 16 2 V bl off cap a b c w rfl hn (by decide) (by decide) ev16 ha hb hV hbl h0 h1 h2
  · obtain rfl : n = 2 := by omega
    exact eval_core90 17 2 V bl off cap a b c w rfl hn (by decide) (by decide) ev17 ha hb hV hbl h0 h1 h2
  · obtain rfl : n = 2 := by omega
    exact eval_core91 18 2 V bl off cap a b c w rfl hn (by decide) (by decide) ev18 ha hb hV hbl h0 h1 h2
  · obtain rfl : n = 2 := by omega
    exact eval_core92 19 2 V bl off cap a b c w rfl hn (by decide) (by decide) ev19 ha hb hV hbl h0 h1 h2
  · obtain rfl : n = 2 := by omega
    exact eval_core93 20 2 V bl off cap a b c w rfl hn (by decide) (by decide) ev20 ha hb hV hbl h0 h1 h2
  · obtain rfl : n = 3 := by omega
    exact eval_core94 21 3 V bl off cap a b c w rfl hn (by decide) (by decide) ev21 ha hb hV hbl h0 h1 h2
end Go.Proofs.Ytklepefljdiepaa
