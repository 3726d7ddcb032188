import Derived.Test.YtklepefljdiepaaR6
namespace Go.Proofs.Ytklepefljdiepaa
open Go.RowKit
set_option maxHeartbeats 1600000 in
theorem refDo4 (k a b A B X : Nat) (N : Nat) (Q tA tB tX : Bool) (c z s o p : Bool) (w : World)
    (CL1 : ∀ w, Calls Try.prog 24 #[.int .i64 k, .int .u64 a] w fun e w' => e = .returned (.int .u64 (A : Int)) ∧ w = w')
    (CL2 : ∀ w, Calls Try.prog 24 #[.int .i64 k, .int .u64 b] w fun e w' => e = .returned (.int .u64 (B : Int)) ∧ w = w')
    (CL3 : ∀ w, Calls Try.prog 24 #[.int .i64 k, .int .u64 ((WM.comp B : Nat) : Int)] w fun e w' => e = .returned (.int .u64 (N : Int)) ∧ w = w')
    (CAdd : ∀ w, Calls Try.prog 42 #[.int .i64 k, .int .u64 A, .int .u64 N, .bool (!c)] w fun e w' => e = .returned (.tuple #[.int .u64 (X : Int), .bool Q]) ∧ w = w')
    (CtA : ∀ w, Calls Try.prog 43 #[.int .i64 k, .int .u64 A] w fun e w' => e = .returned (.bool tA) ∧ w = w')
    (CtB : ∀ w, Calls Try.prog 43 #[.int .i64 k, .int .u64 B] w fun e w' => e = .returned (.bool tB) ∧ w = w')
    (CtX : ∀ w, Calls Try.prog 43 #[.int .i64 k, .int .u64 X] w fun e w' => e = .returned (.bool tX) ∧ w = w')
    (hB : B < 18446744073709551616)
    (CBy : ∀ w, Calls Try.prog 45 #[.int .i64 k, .int .u64 X, .agg #[.bool (!Q), .bool false, .bool false, .bool (tA != tB && tX == tB), .bool false]] w fun e w' => e = .returned (.agg #[.bool (!Q), .bool (X == 0), .bool tX, .bool (tA != tB && tX == tB), .bool (WM.par X)]) ∧ Below w.heap.size w w') :
    Calls Try.prog 23 #[.int .i64 4, .int .i64 k, .int .u64 a, .int .u64 b, .agg #[.bool c, .bool z, .bool s, .bool o, .bool p]] w fun e w' => e = .returned (.tuple #[.int .u64 (X : Int), .agg #[.bool (!Q), .bool (X == 0), .bool tX, .bool (tA != tB && tX == tB), .bool (WM.par X)]]) ∧ Below w.heap.size w w' := by
  have hx := WM.run_comp B hB
  clear hB
  have CL1' := Lib.hid CL1
  have CL2' := Lib.hid CL2
  have CL3' := Lib.hid CL3
  have CAdd' := Lib.hid CAdd
  have CtA' := Lib.hid CtA
  have CtB' := Lib.hid CtB
  have CtX' := Lib.hid CtX
  have CBy' := Lib.hid CBy
  clear CL1 CL2 CL3 CAdd CtA CtB CtX CBy
  cases c <;> cases tA <;> cases tB <;> cases tX
  · go_enter Try.func23, Try.ntmps23
    go_wp2_with fail
    refine (CL1'.out _).mono ?_
    rintro e w' ⟨rfl, rfl⟩
    go_wp2_with fail
    refine (CL2'.out _).mono ?_
    rintro e w' ⟨rfl, rfl⟩
    go_wp2_with fail
    refine (CL3'.out _).mono ?_
    rintro e w' ⟨rfl, rfl⟩
    go_wp2_with fail
    refine (CAdd'.out _).mono ?_
    rintro e w' ⟨rfl, rfl⟩
    go_wp2_with fail
    refine (CtA'.out _).mono ?_
    rintro e w' ⟨rfl, rfl⟩
    go_wp2_with fail
    refine (CtB'.out _).mono ?_
    rintro e w' ⟨rfl, rfl⟩
    go_wp2_with fail
    refine (CBy'.out _).mono ?_
    rintro e w1 ⟨rfl, hb1⟩
    have hW := byW_of hb1
    obtain ⟨hs, hbel, r0, r1, r2, r3, r4, z1⟩ := hW
    clear hb1
    go_wp2_with fail
    refine bodyPost_ret (v := .tuple #[.int .u64 (X : Int), .agg #[.bool (!Q), .bool (X == 0), .bool false, .bool (false != false && false == false), .bool (WM.par X)]]) (by simp [results, Try.results23, go_sem, r0, r1, r2, r3, r4]) rfl ⟨rfl, ?_⟩
    exact ((((hbel.setCell (by simp) _).setCell (by simp) _).setCell (by simp) _).setCell (by simp) _).setCell (by simp) _
  · go_enter Try.func23, Try.ntmps23
    go_wp2_with fail
    refine (CL1'.out _).mono ?_
    rintro e w' ⟨rfl, rfl⟩
    go_wp2_with fail
    refine (CL2'.out _).mono ?_
    rintro e w' ⟨rfl, rfl⟩
    go_wp2_with fail
    refine (CL3'.out _).mono ?_
    rintro e w' ⟨rfl, rfl⟩
    go_wp2_with fail
    refine (CAdd'.out _).mono ?_
    rintro e w' ⟨rfl, rfl⟩
    go_wp2_with fail
    refine (CtA'.out _).mono ?_
    rintro e w' ⟨rfl, rfl⟩
    go_wp2_with fail
    refine (CtB'.out _).mono ?_
    rintro e w' ⟨rfl, rfl⟩
    go_wp2_with fail
    refine (CBy'.out _).mono ?_
    rintro e w1 ⟨rfl, hb1⟩
    have hW := byW_of hb1
    obtain ⟨hs, hbel, r0, r1, r2, r3, r4, z1⟩ := hW
    clear hb1
    go_wp2_with fail
    refine bodyPost_ret (v := .tuple #[.int .u64 (X : Int), .agg #[.bool (!Q), .bool (X == 0), .bool true, .bool (false != false && true == false), .bool (WM.par X)]]) (by simp [results, Try.results23, go_sem, r0, r1, r2, r3, r4]) rfl ⟨rfl, ?_⟩
    exact ((((hbel.setCell (by simp) _).setCell (by simp) _).setCell (by simp) _).setCell (by simp) _).setCell (by simp) _
  · go_enter Try.func23, Try.ntmps23
    go_wp2_with fail
    refine (CL1'.out _).mono ?_
    rintro e w' ⟨rfl, rfl⟩
    go_wp2_with fail
    refine (CL2'.out _).mono ?_
    rintro e w' ⟨rfl, rfl⟩
    go_wp2_with fail
    refine (CL3'.out _).mono ?_
    rintro e w' ⟨rfl, rfl⟩
    go_wp2_with fail
    refine (CAdd'.out _).mono ?_
    rintro e w' ⟨rfl, rfl⟩
    go_wp2_with fail
    refine (CtA'.out _).mono ?_
    rintro e w' ⟨rfl, rfl⟩
    go_wp2_with fail
    refine (CtB'.out _).mono ?_
    rintro e w' ⟨rfl, rfl⟩
    go_wp2_with fail
    refine (CtX'.out _).mono ?_
    rintro e w' ⟨rfl, rfl⟩
    go_wp2_with fail
    refine (CtB'.out _).mono ?_
    rintro e w' ⟨rfl, rfl⟩
    go_wp2_with fail
    refine (CBy'.out _).mono ?_
    rintro e w1 ⟨rfl, hb1⟩
    have hW := byW_of hb1
    obtain ⟨hs, hbel, r0, r1, r2, r3, r4, z1⟩ := hW
    clear hb1
    go_wp2_with fail
    refine bodyPost_ret (v := .tuple #[.int .u64 (X : Int), .agg #[.bool (!Q), .bool (X == 0), .bool false, .bool (false != true && false == true), .bool (WM.par X)]]) (by simp [results, Try.results23, go_sem, r0, r1, r2, r3, r4]) rfl ⟨rfl, ?_⟩
    exact ((((hbel.setCell (by simp) _).setCell (by simp) _).setCell (by simp) _).setCell (by simp) _).setCell (by simp) _
  · go_enter Try.func23, Try.ntmps23
    go_wp2_with fail
    refine (CL1'.out _).mono ?_
    rintro e w' ⟨rfl, rfl⟩
    go_wp2_with fail
    refine (CL2'.out _).mono ?_
    rintro e w' ⟨rfl, rfl⟩
    go_wp2_with fail
    refine (CL3'.out _).mono ?_
    rintro e w' ⟨rfl, rfl⟩
    go_wp2_with fail
    refine (CAdd'.out _).mono ?_
    rintro e w' ⟨rfl, rfl⟩
    go_wp2_with fail
    refine (CtA'.out _).mono ?_
    rintro e w' ⟨rfl, rfl⟩
    go_wp2_with fail
    refine (CtB'.out _).mono ?_
    rintro e w' ⟨rfl, rfl⟩
    go_wp2_with fail
    refine (CtX'.out _).mono ?_
    rintro e w' ⟨rfl, rfl⟩
    go_wp2_with fail
    refine (CtB'.out _).mono ?_
    rintro e w' ⟨rfl, rfl⟩
    go_wp2_with fail
    refine (CBy'.out _).mono ?_
    rintro e w1 ⟨rfl, hb1⟩
    have hW := byW_of hb1
    obtain ⟨hs, hbel, r0, r1, r2, r3, r4, z1⟩ := hW
    clear hb1
    go_wp2_with fail
    refine bodyPost_ret (v := .tuple #[.int .u64 (X : Int), .agg #[.bool (!Q), .bool (X == 0), .bool true, .bool (false != true && true == true), .bool (WM.par X)]]) (by simp [results, Try.results23, go_sem, r0, r1, r2, r3, r4]) rfl ⟨rfl, ?_⟩
    exact ((((hbel.setCell (by simp) _).setCell (by simp) _).setCell (by simp) _).setCell (by simp) _).setCell (by simp) _
  · go_enter Try.func23, Try.ntmps23
    go_wp2_with fail
    refine (CL1'.out _).mono ?_
    rintro e w' ⟨rfl, rfl⟩
    go_wp2_with fail
    refine (CL2'.out _).mono ?_
    rintro e w' ⟨rfl, rfl⟩
    go_wp2_with fail
    refine (CL3'.out _).mono ?_
    rintro e w' ⟨rfl, rfl⟩
    go_wp2_with fail
    refine (CAdd'.out _).mono ?_
    rintro e w' ⟨rfl, rfl⟩
    go_wp2_with fail
    refine (CtA'.out _).mono ?_
    rintro e w' ⟨rfl, rfl⟩
    go_wp2_with fail
    refine (CtB'.out _).mono ?_
    rintro e w' ⟨rfl, rfl⟩
    go_wp2_with fail
    refine (CtX'.out _).mono ?_
    rintro e w' ⟨rfl, rfl⟩
    go_wp2_with fail
    refine (CtB'.out _).mono ?_
    rintro e w' ⟨rfl, rfl⟩
    go_wp2_with fail
    refine (CBy'.out _).mono ?_
    rintro e w1 ⟨rfl, hb1⟩
    have hW := byW_of hb1
    obtain ⟨hs, hbel, r0, r1, r2, r3, r4, z1⟩ := hW
    clear hb1
    go_wp2_with fail
    refine bodyPost_ret (v := .tuple #[.int .u64 (X : Int), .agg #[.bool (!Q), .bool (X == 0), .bool false, .bool (true != false && false == false), .bool (WM.par X)]]) (by simp [results, Try.results23, go_sem, r0, r1, r2, r3, r4]) rfl ⟨rfl, ?_⟩
    exact ((((hbel.setCell (by simp) _).setCell (by simp) _).setCell (by simp) _).setCell (by simp) _).setCell (by simp) _
  · go_enter Try.func23, Try.ntmps23
    go_wp2_with fail
    refine (CL1'.out _).mono ?_
    rintro e w' ⟨rfl, rfl⟩
    go_wp2_with fail
    refine (CL2'.out _).mono ?_
    rintro e w' ⟨rfl, rfl⟩
    go_wp2_with fail
    refine (CL3'.out _).mono ?_
    rintro e w' ⟨rfl, rfl⟩
    go_wp2_with fail
    refine (CAdd'.out _).mono ?_
    rintro e w' ⟨rfl, rfl⟩
    go_wp2_with fail
    refine (CtA'.out _).mono ?_
    rintro e w' ⟨rfl, rfl⟩
    go_wp2_with fail
    refine (CtB'.out _).mono ?_
    rintro e w' ⟨rfl, rfl⟩
    go_wp2_with fail
    refine (CtX'.out _).mono ?_
    rintro e w' ⟨rfl, rfl⟩
    go_wp2_with fail
    refine (CtB'.out _).mono ?_
    rintro e w' ⟨rfl, rfl⟩
    go_wp2_with fail
    refine (CBy'.out _).mono ?_
    rintro e w1 ⟨rfl, hb1⟩
    have hW := byW_of hb1
    obtain ⟨hs, hbel, r0, r1, r2, r3, r4, z1⟩ := hW
    clear hb1
    go_wp2_with fail
    refine bodyPost_ret (v := .tuple #[.int .u64 (X : Int), .agg #[.bool (!Q), .bool (X == 0), .bool true, .bool (true != false && true == false), .bool (WM.par X)]]) (by simp [results, Try.results23, go_sem, r0, r1, r2, r3, r4]) rfl ⟨rfl, ?_⟩
    exact ((((hbel.setCell (by simp) _).setCell (by simp) _).setCell (by simp) _).setCell (by simp) _).setCell (by simp) _
  · go_enter Try.func23, Try.ntmps23
    go_wp2_with fail
    refine (CL1'.out _).mono ?_
    rintro e w' ⟨rfl, rfl⟩
    go_wp2_with fail
    refine (CL2'.out _).mono ?_
    rintro e w' ⟨rfl, rfl⟩
    go_wp2_with fail
    refine (CL3'.out _).mono ?_
    rintro e w' ⟨rfl, rfl⟩
    go_wp2_with fail
    refine (CAdd'.out _).mono ?_
    rintro e w' ⟨rfl, rfl⟩
    go_wp2_with fail
    refine (CtA'.out _).mono ?_
    rintro e w' ⟨rfl, rfl⟩
    go_wp2_with fail
    refine (CtB'.out _).mono ?_
    rintro e w' ⟨rfl, rfl⟩
    go_wp2_with fail
    refine (CBy'.out _).mono ?_
    rintro e w1 ⟨rfl, hb1⟩
    have hW := byW_of hb1
    obtain ⟨hs, hbel, r0, r1, r2, r3, r4, z1⟩ := hW
    clear hb1
    go_wp2_with fail
    refine bodyPost_ret (v := .tuple #[.int .u64 (X : Int), .agg #[.bool (!Q), .bool (X == 0), .bool false, .bool (true != true && false == true), .bool (WM.par X)]]) (by simp [results, Try.results23, go_sem, r0, r1, r2, r3, r4]) rfl ⟨rfl, ?_⟩
    exact ((((hbel.setCell (by simp) _).setCell (by simp) _).setCell (by simp) _).setCell (by simp) _).setCell (by simp) _
  · go_enter Try.func23, Try.ntmps23
    go_wp2_with fail
    refine (CL1'.out _).mono ?_
    rintro e w' ⟨rfl, rfl⟩
    go_wp2_with fail
    refine (CL2'.out _).mono ?_
    rintro e w' ⟨rfl, rfl⟩
    go_wp2_with fail
    refine (CL3'.out _).mono ?_
    rintro e w' ⟨rfl, rfl⟩
    go_wp2_with fail
    refine (CAdd'.out _).mono ?_
    rintro e w' ⟨rfl, rfl⟩
    go_wp2_with fail
    refine (CtA'.out _).mono ?_
    rintro e w' ⟨rfl, rfl⟩
    go_wp2_with fail
    refine (CtB'.out _).mono ?_
    rintro e w' ⟨rfl, rfl⟩
    go_wp2_with fail
    refine (CBy'.out _).mono ?_
    rintro e w1 ⟨rfl, hb1⟩
    have hW := byW_of hb1
    obtain ⟨hs, hbel, r0, r1, r2, r3, r4, z1⟩ := hW
    clear hb1
    go_wp2_with fail
    refine bodyPost_ret (v := .tuple #[.int .u64 (X : Int), .agg #[.bool (!Q), .bool (X == 0), .bool true, .bool (true != true && true == true), .bool (WM.par X)]]) (by simp [results, Try.results23, go_sem, r0, r1, r2, r3, r4]) rfl ⟨rfl, ?_⟩
    exact ((((hbel.setCell (by simp) _).setCell (by simp) _).setCell (by simp) _).setCell (by simp) _).setCell (by simp) _
  · go_enter Try.func23, Try.ntmps23
    go_wp2_with fail
    refine (CL1'.out _).mono ?_
    rintro e w' ⟨rfl, rfl⟩
    go_wp2_with fail
    refine (CL2'.out _).mono ?_
    rintro e w' ⟨rfl, rfl⟩
    go_wp2_with fail
    refine (CL3'.out _).mono ?_
    rintro e w' ⟨rfl, rfl⟩
    go_wp2_with fail
    refine (CAdd'.out _).mono ?_
    rintro e w' ⟨rfl, rfl⟩
    go_wp2_with fail
    refine (CtA'.out _).mono ?_
    rintro e w' ⟨rfl, rfl⟩
    go_wp2_with fail
    refine (CtB'.out _).mono ?_
    rintro e w' ⟨rfl, rfl⟩
    go_wp2_with fail
    refine (CBy'.out _).mono ?_
    rintro e w1 ⟨rfl, hb1⟩
    have hW := byW_of hb1
    obtain ⟨hs, hbel, r0, r1, r2, r3, r4, z1⟩ := hW
    clear hb1
    go_wp2_with fail
    refine bodyPost_ret (v := .tuple #[.int .u64 (X : Int), .agg #[.bool (!Q), .bool (X == 0), .bool false, .bool (false != false && false == false), .bool (WM.par X)]]) (by simp [results, Try.results23, go_sem, r0, r1, r2, r3, r4]) rfl ⟨rfl, ?_⟩
    exact ((((hbel.setCell (by simp) _).setCell (by simp) _).setCell (by simp) _).setCell (by simp) _).setCell (by simp) _
  · go_enter Try.func23, Try.ntmps23
    go_wp2_with fail
    refine (CL1'.out _).mono ?_
    rintro e w' ⟨rfl, rfl⟩
    go_wp2_with fail
    refine (CL2'.out _).mono ?_
    rintro e w' ⟨rfl, rfl⟩
    go_wp2_with fail
    refine (CL3'.out _).mono ?_
    rintro e w' ⟨rfl, rfl⟩
    go_wp2_with fail
    refine (CAdd'.out _).mono ?_
    rintro e w' ⟨rfl, rfl⟩
    go_wp2_with fail
    refine (CtA'.out _).mono ?_
    rintro e w' ⟨rfl, rfl⟩
    go_wp2_with fail
    refine (CtB'.out _).mono ?_
    rintro e w' ⟨rfl, rfl⟩
    go_wp2_with fail
    refine (CBy'.out _).mono ?_
    rintro e w1 ⟨rfl, hb1⟩
    have hW := byW_of hb1
    obtain ⟨hs, hbel, r0, r1, r2, r3, r4, z1⟩ := hW
    clear hb1
    go_wp2_with fail
    refine bodyPost_ret (v := .tuple #[.int .u64 (X : Int), .agg #[.bool (!Q), .bool (X == 0), .bool true, .bool (false != false && true == false), .bool (WM.par X)]]) (by simp [results, Try.results23, go_sem, r0, r1, r2, r3, r4]) rfl ⟨rfl, ?_⟩
    exact ((((hbel.setCell (by simp) _).setCell (by simp) _).setCell (by simp) _).setCell (by simp) _).setCell (by simp) _
  · go_enter Try.func23, Try.ntmps23
    go_wp2_with fail
    refine (CL1'.out _).mono ?_
    rintro e w' ⟨rfl, rfl⟩
    go_wp2_with fail
    refine (CL2'.out _).mono ?_
    rintro e w' ⟨rfl, rfl⟩
    go_wp2_with fail
    refine (CL3'.out _).mono ?_
    rintro e w' ⟨rfl, rfl⟩
    go_wp2_with fail
    refine (CAdd'.out _).mono ?_
    rintro e w' ⟨rfl, rfl⟩
    go_wp2_with fail
    refine (CtA'.out _).mono ?_
    rintro e w' ⟨rfl, rfl⟩
    go_wp2_with fail
    refine (CtB'.out _).mono ?_
    rintro e w' ⟨rfl, rfl⟩
    go_wp2_with fail
    refine (CtX'.out _).mono ?_
    rintro e w' ⟨rfl, rfl⟩
    go_wp2_with fail
    refine (CtB'.out _).mono ?_
    rintro e w' ⟨rfl, rfl⟩
    go_wp2_with fail
    refine (CBy'.out _).mono ?_
    rintro e w1 ⟨rfl, hb1⟩
    have hW := byW_of hb1
    obtain ⟨hs, hbel, r0, r1, r2, r3, r4, z1⟩ := hW
    clear hb1
    go_wp2_with fail
    refine bodyPost_ret (v := .tuple #[.int .u64 (X : Int), .agg #[.bool (!Q), .bool (X == 0), .bool false, .bool (false != true && false == true), .bool (WM.par X)]]) (by simp [results, Try.results23, go_sem, r0, r1, r2, r3, r4]) rfl ⟨rfl, ?_⟩
    exact ((((hbel.setCell (by simp) _).setCell (by simp) _).setCell (by simp) _).setCell (by simp) _).setCell (by simp) _
  · go_enter Try.func23, Try.ntmps23
    go_wp2_with fail
    refine (CL1'.out _).mono ?_
    rintro e w' ⟨rfl, rfl⟩
    go_wp2_with fail
    refine (CL2'.out _).mono ?_
    rintro e w' ⟨rfl, rfl⟩
    go_wp2_with fail
    refine (CL3'.out _).mono ?_
    rintro e w' ⟨rfl, rfl⟩
    go_wp2_with fail
    refine (CAdd'.out _).mono ?_
    rintro e w' ⟨rfl, rfl⟩
    go_wp2_with fail
    refine (CtA'.out _).mono ?_
    rintro e w' ⟨rfl, rfl⟩
    go_wp2_with fail
    refine (CtB'.out _).mono ?_
    rintro e w' ⟨rfl, rfl⟩
    go_wp2_with fail
    refine (CtX'.out _).mono ?_
    rintro e w' ⟨rfl, rfl⟩
    go_wp2_with fail
    refine (CtB'.out _).mono ?_
    rintro e w' ⟨rfl, rfl⟩
    go_wp2_with fail
    refine (CBy'.out _).mono ?_
    rintro e w1 ⟨rfl, hb1⟩
    have hW := byW_of hb1
    obtain ⟨hs, hbel, r0, r1, r2, r3, r4, z1⟩ := hW
    clear hb1
    go_wp2_with fail
    refine bodyPost_ret (v := .tuple #[.int .u64 (X : Int), .agg #[.bool (!Q), .bool (X == 0), .bool true, .bool (false != true && true == true), .bool (WM.par X)]]) (by simp [results, Try.results23, go_sem, r0, r1, r2, r3, r4]) rfl ⟨rfl, ?_⟩
    exact ((((hbel.setCell (by simp) _).setCell (by simp) _).setCell (by simp) _).setCell (by simp) _).setCell (by simp) _
  · go_enter Try.func23, Try.ntmps23
    go_wp2_with fail
    refine (CL1'.out _).mono ?_
    rintro e w' ⟨rfl, rfl⟩
    go_wp2_with fail
    refine (CL2'.out _).mono ?_
    rintro e w' ⟨rfl, rfl⟩
    go_wp2_with fail
    refine (CL3'.out _).mono ?_
    rintro e w' ⟨rfl, rfl⟩
    go_wp2_with fail
    refine (CAdd'.out _).mono ?_
    rintro e w' ⟨rfl, rfl⟩
    go_wp2_with fail
    refine (CtA'.out _).mono ?_
    rintro e w' ⟨rfl, rfl⟩
    go_wp2_with fail
    refine (CtB'.out _).mono ?_
    rintro e w' ⟨rfl, rfl⟩
    go_wp2_with fail
    refine (CtX'.out _).mono ?_
    rintro e w' ⟨rfl, rfl⟩
    go_wp2_with fail
    refine (CtB'.out _).mono ?_
    rintro e w' ⟨rfl, rfl⟩
    go_wp2_with fail
    refine (CBy'.out _).mono ?_
    rintro e w1 ⟨rfl, hb1⟩
    have hW := byW_of hb1
    obtain ⟨hs, hbel, r0, r1, r2, r3, r4, z1⟩ := hW
    clear hb1
    go_wp2_with fail
    refine bodyPost_ret (v := .tuple #[.int .u64 (X : Int), .agg #[.bool (!Q), .bool (X == 0), .bool false, .bool (true != false && false == false), .bool (WM.par X)]]) (by simp [results, Try.results23, go_sem, r0, r1, r2, r3, r4]) rfl ⟨rfl, ?_⟩
    exact ((((hbel.setCell (by simp) _).setCell (by simp) _).setCell (by simp) _).setCell (by simp) _).setCell (by simp) _
  · go_enter Try.func23, Try.ntmps23
    go_wp2_with fail
    refine (CL1'.out _).mono ?_
    rintro e w' ⟨rfl, rfl⟩
    go_wp2_with fail
    refine (CL2'.out _).mono ?_
    rintro e w' ⟨rfl, rfl⟩
    go_wp2_with fail
    refine (CL3'.out _).mono ?_
    rintro e w' ⟨rfl, rfl⟩
    go_wp2_with fail
    refine (CAdd'.out _).mono ?_
    rintro e w' ⟨rfl, rfl⟩
    go_wp2_with fail
    refine (CtA'.out _).mono ?_
    rintro e w' ⟨rfl, rfl⟩
    go_wp2_with fail
    refine (CtB'.out _).mono ?_
    rintro e w' ⟨rfl, rfl⟩
    go_wp2_with fail
    refine (CtX'.out _).mono ?_
    rintro e w' ⟨rfl, rfl⟩
    go_wp2_with fail
    refine (CtB'.out _).mono ?_
    rintro e w' ⟨rfl, rfl⟩
    go_wp2_with fail
    refine (CBy'.out _).mono ?_
    rintro e w1 ⟨rfl, hb1⟩
    have hW := byW_of hb1
    obtain ⟨hs, hbel, r0, r1, r2, r3, r4, z1⟩ := hW
    clear hb1
    go_wp2_with fail
    refine bodyPost_ret (v := .tuple #[.int .u64 (X : Int), .agg #[.bool (!Q), .bool (X == 0), .bool true, .bool (true != false && true == false), .bool (WM.par X)]]) (by simp [results, Try.results23, go_sem, r0, r1, r2, r3, r4]) rfl ⟨rfl, ?_⟩
    exact ((((hbel.setCell (by simp) _).setCell (by simp) _).setCell (by simp) _).setCell (by simp) _).setCell (by simp) _
  · go_enter Try.func23, Try.ntmps23
    go_wp2_with fail
    refine (CL1'.out _).mono ?_
    rintro e w' ⟨rfl, rfl⟩
    go_wp2_with fail
    refine (CL2'.out _).mono ?_
    rintro e w' ⟨rfl, rfl⟩
    go_wp2_with fail
    refine (CL3'.out _).mono ?_
    rintro e w' ⟨rfl, rfl⟩
    go_wp2_with fail
    refine (CAdd'.out _).mono ?_
    rintro e w' ⟨rfl, rfl⟩
    go_wp2_with fail
    refine (CtA'.out _).mono ?_
    rintro e w' ⟨rfl, rfl⟩
    go_wp2_with fail
    refine (CtB'.out _).mono ?_
    rintro e w' ⟨rfl, rfl⟩
    go_wp2_with fail
    refine (CBy'.out _).mono ?_
    rintro e w1 ⟨rfl, hb1⟩
    have hW := byW_of hb1
    obtain ⟨hs, hbel, r0, r1, r2, r3, r4, z1⟩ := hW
    clear hb1
    go_wp2_with fail
    refine bodyPost_ret (v := .tuple #[.int .u64 (X : Int), .agg #[.bool (!Q), .bool (X == 0), .bool false, .bool (true != true && false == true), .bool (WM.par X)]]) (by simp [results, Try.results23, go_sem, r0, r1, r2, r3, r4]) rfl ⟨rfl, ?_⟩
    exact ((((hbel.setCell (by simp) _).setCell (by simp) _).setCell (by simp) _).setCell (by simp) _).setCell (by simp) _
  · go_enter Try.func23, Try.ntmps23
    go_wp2_with fail
    refine (CL1'.out _).mono ?_
    rintro e w' ⟨rfl, rfl⟩
    go_wp2_with fail
    refine (CL2'.out _).mono ?_
    rintro e w' ⟨rfl, rfl⟩
    go_wp2_with fail
    refine (CL3'.out _).mono ?_
    rintro e w' ⟨rfl, rfl⟩
    go_wp2_with fail
    refine (CAdd'.out _).mono ?_
    rintro e w' ⟨rfl, rfl⟩
    go_wp2_with fail
    refine (CtA'.out _).mono ?_
    rintro e w' ⟨rfl, rfl⟩
    go_wp2_with fail
    refine (CtB'.out _).mono ?_
    rintro e w' ⟨rfl, rfl⟩
    go_wp2_with fail
    refine (CBy'.out _).mono ?_
    rintro e w1 ⟨rfl, hb1⟩
    have hW := byW_of hb1
    obtain ⟨hs, hbel, r0, r1, r2, r3, r4, z1⟩ := hW
    clear hb1
    go_wp2_with fail
    refine bodyPost_ret (v := .tuple #[.int .u64 (X : Int), .agg #[.bool (!Q), .bool (X == 0), .bool true, .bool (true != true && true == true), .bool (WM.par X)]]) (by simp [results, Try.results23, go_sem, r0, r1, r2, r3, r4]) rfl ⟨rfl, ?_⟩
    exact ((((hbel.setCell (by simp) _).setCell (by simp) _).setCell (by simp) _).setCell (by simp) _).setCell (by simp) _
end Go.Proofs.Ytklepefljdiepaa
