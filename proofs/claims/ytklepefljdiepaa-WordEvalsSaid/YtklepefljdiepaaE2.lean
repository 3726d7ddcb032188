/- Every operation of the language against the document's: walks of the law's function. -/
import Derived.Test.YtklepefljdiepaaE1
import Derived.Test.YtklepefljdiepaaA1
namespace Go.Proofs.Ytklepefljdiepaa
open Go.RowKit
set_option maxHeartbeats 800000 in
theorem rev_any (op n : Nat) (hn : argsZ op = (n : Int)) (hn0 : 1 ≤ n) : RefEv op n := by
  have hc := argsZ_args hn hn0
  have hops : op = 4 ∨ op = 5 ∨ op = 6 ∨ op = 7 ∨ op = 8 ∨ op = 9 ∨ op = 10 ∨ op = 11 ∨ op = 12 ∨ op = 13 ∨ op = 14 ∨ op = 15 ∨ op = 16 ∨ op = 17 ∨ op = 18 ∨ op = 19 ∨ op = 20 ∨ op = 21 := by omega
  clear hn hn0
  rcases hops with rfl | rfl | rfl | rfl | rfl | rfl | rfl | rfl | rfl | rfl | rfl | rfl | rfl | rfl | rfl | rfl | rfl | rfl
  · obtain rfl : n = 1 := by omega
    exact rev4
  · obtain rfl : n = 1 := by omega
    exact rev5
  · obtain rfl : n = 2 := by omega
    exact rev6
  · obtain rfl : n = 2 := by omega
    exact rev7
  · obtain rfl : n = 2 := by omega
    exact rev8
  · obtain rfl : n = 2 := by omega
    exact rev9
  · obtain rfl : n = 2 := by omega
    exact rev10
  · obtain rfl : n = 2 := by omega
    exact rev11
  · obtain rfl : n = 2 := by omega
    exact rev12
  · obtain rfl : n = 2 := by omega
    exact rev13
  · obtain rfl : n = 2 := by omega
    exact rev14
  · obtain rfl : n = 2 := by omega
    exact rev15
  · obtain rfl : n = 2 := by omega
    exact rev16
  · obtain rfl : n = 2 := by omega
    exact rev17
  · obtain rfl : n = 2 := by omega
    exact rev18
  · obtain rfl : n = 2 := by omega
    exact rev19
  · obtain rfl : n = 2 := by omega
    exact rev20
  · obtain rfl : n = 3 := by omega
    exact rev21
set_option maxHeartbeats 800000 in
theorem evals_big (op : Int) (v : Option Addr) (len cap : Nat) (w : World) (h : 2000 < len) :
    Calls Try.prog 3 #[.int .i64 op, .slice v len cap] w fun e w' => e = .returned (.bool true) ∧ Below w.heap.size w w' := by
  have t1 : decide ((2000 : Int) < (len : Int)) = true := decide_eq_true (by omega)
  have t2 : decide (2000 < len) = true := decide_eq_true h
  clear h
  go_enter Try.func3, Try.ntmps3
  go_wp2_with fail
  refine (known_any _).mono ?_
  rintro e w' ⟨rfl, hb⟩
  go_wp2_with fail
  go_ret
  exact ⟨rfl, hb⟩
set_option maxHeartbeats 800000 in
theorem evals_refused (op : Int) (v : Option Addr) (len cap : Nat) (w : World) (h : len ≤ 2000) (hz : argsZ op ≠ (len : Int)) :
    Calls Try.prog 3 #[.int .i64 op, .slice v len cap] w fun e w' => e = .returned (.bool true) ∧ Below w.heap.size w w' := by
  have t1 : decide ((2000 : Int) < (len : Int)) = false := decide_eq_false (by omega)
  have t2 : decide (2000 < len) = false := decide_eq_false (by omega)
  have HA := Lib.hid (fun w => refArgs_any op w)
  have HB := Lib.hid (fun w => args_any op w)
  by_cases hm : argsZ op = -1
  · have HE := Lib.hid (fun w => eval_none op v len cap w hm)
    rw [hm] at HA HB
    clear h hz hm
    go_enter Try.func3, Try.ntmps3
    go_wp2_with fail
    refine (HA.out _).mono ?_
    rintro e w' ⟨rfl, rfl⟩
    go_wp2_with fail
    refine (HE.out _).mono ?_
    rintro e w' ⟨rfl, rfl⟩
    go_wp2_with fail
    refine (HB.out _).mono ?_
    rintro e w' ⟨rfl, rfl⟩
    go_wp2_with (go_at_call 16; refine (num_any _ _).mono ?_; rintro e w' ⟨rfl, rfl⟩)
    refine (known_any _).mono ?_
    rintro e w' ⟨rfl, hb⟩
    go_wp2_with fail
    go_ret
    exact ⟨rfl, hb⟩
  · obtain ⟨k, hk⟩ : ∃ k : Nat, argsZ op = (k : Int) := by
      have : 0 ≤ argsZ op := by unfold argsZ at hm ⊢; split <;> (try split) <;> (try split) <;> simp_all
      exact Int.eq_ofNat_of_zero_le this
    have hne : k ≠ len := by omega
    have HE := Lib.hid (fun w => eval_other op v k len cap w hk hne)
    rw [hk] at HA HB
    have t3 : decide ((k : Int) < 0) = false := decide_eq_false (by omega)
    have t4 : ((k : Int) != (len : Int)) = true := by rw [bne_iff_ne]; omega
    have t5 : ((k : Int) == (len : Int)) = false := by rw [beq_eq_false_iff_ne]; omega
    clear h hz hm hk hne
    go_enter Try.func3, Try.ntmps3
    go_wp2_with fail
    refine (HA.out _).mono ?_
    rintro e w' ⟨rfl, rfl⟩
    go_wp2_with fail
    refine (HE.out _).mono ?_
    rintro e w' ⟨rfl, rfl⟩
    go_wp2_with fail
    refine (HB.out _).mono ?_
    rintro e w' ⟨rfl, rfl⟩
    go_wp2_with (go_at_call 16; refine (num_any _ _).mono ?_; rintro e w' ⟨rfl, rfl⟩)
    refine (known_any _).mono ?_
    rintro e w' ⟨rfl, hb⟩
    go_wp2_with fail
    go_ret
    exact ⟨rfl, hb⟩
set_option maxHeartbeats 800000 in
theorem evals_ok (op n : Nat) (bl off cap a b c : Nat) (w : World) (hn : argsZ op = (n : Int)) (hn0 : 1 ≤ n) (ha : a < 18446744073709551616) (hb : b < 18446744073709551616)
    (hbl : bl < w.heap.size) (h0 : w.cell? ⟨bl, off, none⟩ = some (.int .u64 a)) (h1 : 2 ≤ n → w.cell? ⟨bl, off + 1, none⟩ = some (.int .u64 b)) (h2 : 3 ≤ n → w.cell? ⟨bl, off + 2, none⟩ = some (.int .u64 c)) :
    Calls Try.prog 3 #[.int .i64 op, .slice (some ⟨bl, off, none⟩) n cap] w fun e w' => e = .returned (.bool true) ∧ Below w.heap.size w w' := by
  have hn3 : n ≤ 3 := by have := argsZ_args hn hn0; omega
  have t1 : decide ((2000 : Int) < (n : Int)) = false := decide_eq_false (by omega)
  have t2 : decide (2000 < n) = false := decide_eq_false (by omega)
  have t3 : decide ((n : Int) < 0) = false := decide_eq_false (by omega)
  have HA := Lib.hid (fun w => refArgs_any op w)
  have HB := Lib.hid (fun w => args_any op w)
  rw [hn] at HA HB
  obtain ⟨V, hV⟩ : ∃ V, WM.ev op a b c = V := ⟨_, rfl⟩
  have HE := Lib.hid (eval_any op n V bl off cap a b c w hn hn0 ha hb hV hbl h0 h1 h2)
  have HR := Lib.hid (fun (w1 : World) (hb1 : Below w.heap.size w w1) => rev_any op n hn hn0 bl off cap a b c w1 ha hb (by rw [hb1.cell hbl]; exact h0) (fun h => by rw [hb1.cell hbl]; exact h1 h) (fun h => by rw [hb1.cell hbl]; exact h2 h))
  rw [hV] at HR
  clear hV h0 h1 h2 hbl ha hb hn hn0 hn3
  go_enter Try.func3, Try.ntmps3
  go_wp2_with fail
  refine (HA.out _).mono ?_
  rintro e w' ⟨rfl, rfl⟩
  go_wp2_with fail
  refine HE.out.mono ?_
  rintro e w1 ⟨rfl, hb1⟩
  go_wp2_with fail
  refine (HB.out _).mono ?_
  rintro e w' ⟨rfl, rfl⟩
  go_wp2_with fail
  refine (HR.out _ hb1).mono ?_
  rintro e w' ⟨rfl, rfl⟩
  go_wp2_with (go_at_call 16; refine (num_any _ _).mono ?_; rintro e w' ⟨rfl, rfl⟩)
  refine (known_any _).mono ?_
  rintro e w2 ⟨rfl, hb2⟩
  go_wp2_with fail
  go_ret
  exact ⟨rfl, bthen hb1 hb2⟩
end Go.Proofs.Ytklepefljdiepaa
