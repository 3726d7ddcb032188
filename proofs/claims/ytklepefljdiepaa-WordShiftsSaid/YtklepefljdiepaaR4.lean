import Derived.Test.YtklepefljdiepaaR3
import Derived.Test.YtklepefljdiepaaR1
namespace Go.Proofs.Ytklepefljdiepaa
open Go.RowKit
theorem run_neg (a N : Nat) (h : IntKind.u64.wrap (-(a : Int)) = (N : Int)) : Op.unary .neg (.int .u64 (a : Int)) = pure (.int .u64 (N : Int)) := by
  have e : Op.unary .neg (.int .u64 (a : Int)) = pure (.int .u64 (IntKind.u64.wrap (0 - (a : Int)))) := rfl
  rw [e, Int.zero_sub, h]
/-- what a walk of 'fits' comes to, by the three signs and four tests -/
def fitsB (sx sy ss uH uS u0 uN : Bool) : Bool := if ss then (sx != sy) && (uH && uN) else uH && uS && (!(sx != sy) || u0)
set_option maxHeartbeats 800000 in
theorem refFits_core (k a b r X Y S AX AY H Lo N qx qy qs : Nat) (sx sy ss uH uS u0 uN : Bool) (w : World)
    (CX : ∀ w, Calls Try.prog 25 #[.int .i64 k, .int .u64 a] w fun e w' => e = .returned (.int .u64 (X : Int)) ∧ w = w')
    (CY : ∀ w, Calls Try.prog 25 #[.int .i64 k, .int .u64 b] w fun e w' => e = .returned (.int .u64 (Y : Int)) ∧ w = w')
    (CS : ∀ w, Calls Try.prog 25 #[.int .i64 k, .int .u64 r] w fun e w' => e = .returned (.int .u64 (S : Int)) ∧ w = w')
    (CW : ∀ w, Calls Try.prog 27 #[.int .u64 AX, .int .u64 AY] w fun e w' => e = .returned (.tuple #[.int .u64 (H : Int), .int .u64 (Lo : Int)]) ∧ w = w')
    (hx : (X : Int) / 9223372036854775808 = (qx : Nat)) (hy : (Y : Int) / 9223372036854775808 = (qy : Nat)) (hs : (S : Int) / 9223372036854775808 = (qs : Nat))
    (tx : ((qx : Int) == 1) = sx) (ty : ((qy : Int) == 1) = sy) (ts : ((qs : Int) == 1) = ss) (tn : ((qx : Int) != (qy : Int)) = (sx != sy))
    (hH : ((H : Int) == 0) = uH) (hLS : ((Lo : Int) == (S : Int)) = uS) (hL0 : ((Lo : Int) == 0) = u0) (hLN : ((Lo : Int) == (N : Int)) = uN)
    (hN : Op.unary .neg (.int .u64 (S : Int)) = pure (.int .u64 (N : Int)))
    (hAX : if sx = true then Op.unary .neg (.int .u64 (X : Int)) = pure (.int .u64 (AX : Int)) else AX = X) (hAY : if sy = true then Op.unary .neg (.int .u64 (Y : Int)) = pure (.int .u64 (AY : Int)) else AY = Y) :
    Calls Try.prog 44 #[.int .i64 k, .int .u64 a, .int .u64 b, .int .u64 r] w fun e w' => e = .returned (.bool (fitsB sx sy ss uH uS u0 uN)) ∧ w = w' := by
  have CX := Lib.hid CX
  have CY := Lib.hid CY
  have CS := Lib.hid CS
  have CW := Lib.hid CW
  rename_i CX' CY' CS' CW'
  clear CX' CY' CS' CW'
  cases sx <;> cases sy
  · simp only [if_false, Bool.false_eq_true, bne_self_eq_false] at hAX hAY tn
    subst hAX
    subst hAY
    go_enter Try.func44, Try.ntmps44
    go_wp2_with fail
    refine (CX.out _).mono ?_
    rintro e w' ⟨rfl, rfl⟩
    go_wp2_with fail
    refine (CY.out _).mono ?_
    rintro e w' ⟨rfl, rfl⟩
    go_wp2_with fail
    refine (CW.out _).mono ?_
    rintro e w' ⟨rfl, rfl⟩
    go_wp2_with fail
    refine (CS.out _).mono ?_
    rintro e w' ⟨rfl, rfl⟩
    clear tx ty tn hx hy
    go_wp2_with fail
    all_goals
      go_ret
      exact ⟨ret_bool (by simp [fitsB, *]), rfl⟩
  · simp only [if_true, if_false, Bool.false_eq_true, Bool.bne_true, Bool.not_false] at hAX hAY tn
    subst hAX
    go_enter Try.func44, Try.ntmps44
    go_wp2_with fail
    refine (CX.out _).mono ?_
    rintro e w' ⟨rfl, rfl⟩
    go_wp2_with fail
    refine (CY.out _).mono ?_
    rintro e w' ⟨rfl, rfl⟩
    go_wp2_with fail
    refine (CW.out _).mono ?_
    rintro e w' ⟨rfl, rfl⟩
    go_wp2_with fail
    refine (CS.out _).mono ?_
    rintro e w' ⟨rfl, rfl⟩
    clear hAY tx ty tn hx hy
    go_wp2_with fail
    all_goals
      go_ret
      exact ⟨ret_bool (by simp [fitsB, *]), rfl⟩
  · simp only [if_true, if_false, Bool.false_eq_true, Bool.bne_false] at hAX hAY tn
    subst hAY
    go_enter Try.func44, Try.ntmps44
    go_wp2_with fail
    refine (CX.out _).mono ?_
    rintro e w' ⟨rfl, rfl⟩
    go_wp2_with fail
    refine (CY.out _).mono ?_
    rintro e w' ⟨rfl, rfl⟩
    go_wp2_with fail
    refine (CW.out _).mono ?_
    rintro e w' ⟨rfl, rfl⟩
    go_wp2_with fail
    refine (CS.out _).mono ?_
    rintro e w' ⟨rfl, rfl⟩
    clear hAX tx ty tn hx hy
    go_wp2_with fail
    all_goals
      go_ret
      exact ⟨ret_bool (by simp [fitsB, *]), rfl⟩
  · simp only [if_true, bne_self_eq_false] at hAX hAY tn
    go_enter Try.func44, Try.ntmps44
    go_wp2_with fail
    refine (CX.out _).mono ?_
    rintro e w' ⟨rfl, rfl⟩
    go_wp2_with fail
    refine (CY.out _).mono ?_
    rintro e w' ⟨rfl, rfl⟩
    go_wp2_with fail
    refine (CW.out _).mono ?_
    rintro e w' ⟨rfl, rfl⟩
    go_wp2_with fail
    refine (CS.out _).mono ?_
    rintro e w' ⟨rfl, rfl⟩
    clear hAX hAY tx ty tn hx hy
    go_wp2_with fail
    all_goals
      go_ret
      exact ⟨ret_bool (by simp [fitsB, *]), rfl⟩
theorem refFits_any (k a b r : Nat) (w : World) (hk : k = 8 ∨ k = 16 ∨ k = 32 ∨ k = 64) (ha : a < 18446744073709551616) (hb : b < 18446744073709551616) (hr : r < 18446744073709551616) :
    Calls Try.prog 44 #[.int .i64 k, .int .u64 a, .int .u64 b, .int .u64 r] w fun e w' => e = .returned (.bool (WM.fitsN (WM.sig k a) (WM.sig k b) (WM.sig k r))) ∧ w = w' := by
  have h64 : k ≤ 64 := by omega
  have l1 := WM.sig_lt a h64
  have l2 := WM.sig_lt b h64
  have l3 := WM.sig_lt r h64
  have C1 := fun w => refSig_any k a w hk ha
  have C2 := fun w => refSig_any k b w hk hb
  have C3 := fun w => refSig_any k r w hk hr
  generalize WM.sig k a = X at *
  generalize WM.sig k b = Y at *
  generalize WM.sig k r = S at *
  have q1 : WM.absN X < 18446744073709551616 := Nat.lt_of_le_of_lt (WM.absN_le X l1) (by decide)
  have q2 : WM.absN Y < 18446744073709551616 := Nat.lt_of_le_of_lt (WM.absN_le Y l2) (by decide)
  have sg : ∀ x : Nat, x < 18446744073709551616 → (x : Int) / 9223372036854775808 = ((x / 9223372036854775808 : Nat) : Int) ∧ (((x / 9223372036854775808 : Nat) : Int) == 1) = decide (9223372036854775808 ≤ x) := fun x h => by
    refine ⟨by omega, ?_⟩
    rw [Bool.eq_iff_iff]; simp only [beq_iff_eq, decide_eq_true_eq]; omega
  have sn : (((X / 9223372036854775808 : Nat) : Int) != ((Y / 9223372036854775808 : Nat) : Int)) = (decide (9223372036854775808 ≤ X) != decide (9223372036854775808 ≤ Y)) := by
    by_cases c1 : 9223372036854775808 ≤ X <;> by_cases c2 : 9223372036854775808 ≤ Y <;> simp [c1, c2] <;> omega
  have sa : ∀ x : Nat, x < 18446744073709551616 → if decide (9223372036854775808 ≤ x) = true then Op.unary .neg (.int .u64 (x : Int)) = pure (.int .u64 (WM.absN x : Int)) else WM.absN x = x := fun x h => by
    unfold WM.absN; by_cases c : 9223372036854775808 ≤ x
    · rw [if_pos (decide_eq_true c), if_neg (by omega)]
      exact run_neg _ _ (by rw [IntKind.wrap_u64]; omega)
    · rw [if_neg (by simpa using c), if_pos (by omega)]
  have := refFits_core k a b r X Y S (WM.absN X) (WM.absN Y) _ _ (WM.subLo 0 S 0) _ _ _ _ _ _ _ _ _ _ w C1 C2 C3 (fun w => refWide_any (WM.absN X) (WM.absN Y) w (by omega) (by omega) (by omega) (by omega)) (sg X l1).1 (sg Y l2).1 (sg S l3).1 (sg X l1).2 (sg Y l2).2 (sg S l3).2 sn rfl rfl rfl rfl (run_neg _ _ (WM.w_neg S l3)) (sa X l1) (sa Y l2)
  refine this.mono fun e w' h => ⟨?_, h.2⟩
  rw [h.1]
  refine ret_bool ?_
  unfold fitsB WM.fitsN
  rw [Int.toNat_natCast, Int.toNat_natCast]
  have z : ∀ x : Nat, ((x : Int) == 0) = (x == 0) := fun x => by rw [Bool.eq_iff_iff]; simp only [beq_iff_eq]; omega
  have zz : ∀ x y : Nat, ((x : Int) == (y : Int)) = (x == y) := fun x y => by rw [Bool.eq_iff_iff]; simp only [beq_iff_eq]; omega
  rw [z, z, zz, zz]
  have e0 : ¬ S = 0 → WM.subLo 0 S 0 = 18446744073709551616 - S := fun h => by unfold WM.subLo; omega
  by_cases c : 9223372036854775808 ≤ S
  · rw [if_pos (decide_eq_true c), if_pos c, e0 (by omega), Bool.and_assoc]
  · rw [if_neg (by simpa using c), if_neg c]
end Go.Proofs.Ytklepefljdiepaa
