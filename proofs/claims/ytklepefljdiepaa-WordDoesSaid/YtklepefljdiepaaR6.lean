import Derived.Test.YtklepefljdiepaaR5
namespace Go.Proofs.Ytklepefljdiepaa
open Go.RowKit
/-- What a walk of the document's Do knows behind its flags: the cells of its answer. -/
structure ByW (w w1 : World) : Prop where
  size : w.heap.size + 1 < w1.heap.size
  below : Below w.heap.size w w1
  r0 : w1.cell? ⟨w.heap.size + 1, 0, none⟩ = some (.bool false)
  r1 : w1.cell? ⟨w.heap.size + 1, 1, none⟩ = some (.bool false)
  r2 : w1.cell? ⟨w.heap.size + 1, 2, none⟩ = some (.bool false)
  r3 : w1.cell? ⟨w.heap.size + 1, 3, none⟩ = some (.bool false)
  r4 : w1.cell? ⟨w.heap.size + 1, 4, none⟩ = some (.bool false)
  z1 : ∀ i, w1.frozen? ⟨w.heap.size + 1, i, none⟩ = false
theorem byW_of {w w1 : World} {A B : Obj} (hb1 : Below (((w.alloc A).alloc (Obj.cells #[Value.bool false, Value.bool false, Value.bool false, Value.bool false, Value.bool false] 36)).alloc B).heap.size (((w.alloc A).alloc (Obj.cells #[Value.bool false, Value.bool false, Value.bool false, Value.bool false, Value.bool false] 36)).alloc B) w1) : ByW w w1 where
  size := by have := hb1.size; simp at this; omega
  below := ((((Below.refl w.heap.size w).alloc (Nat.le_refl _) _).alloc (by simp) _).alloc (by simp; omega) _).trans (hb1.mono (by simp; omega))
  r0 := by rw [hb1.cell (by simp)]; go_simp
  r1 := by rw [hb1.cell (by simp)]; go_simp
  r2 := by rw [hb1.cell (by simp)]; go_simp
  r3 := by rw [hb1.cell (by simp)]; go_simp
  r4 := by rw [hb1.cell (by simp)]; go_simp
  z1 := fun i => by rw [hb1.frozen (by simp)]; go_simp
set_option maxHeartbeats 1600000 in
theorem refDo5 (k a b A B X : Nat) (tX : Bool) (c z s o p : Bool) (w : World)
    (CL1 : ∀ w, Calls Try.prog 24 #[.int .i64 k, .int .u64 a] w fun e w' => e = .returned (.int .u64 (A : Int)) ∧ w = w')
    (CL2 : ∀ w, Calls Try.prog 24 #[.int .i64 k, .int .u64 b] w fun e w' => e = .returned (.int .u64 (B : Int)) ∧ w = w')
    (hX : bits .and .u64 (A : Int) (B : Int) = (X : Int))
    (CBy : ∀ w, Calls Try.prog 45 #[.int .i64 k, .int .u64 X, .agg #[.bool false, .bool false, .bool false, .bool false, .bool false]] w fun e w' => e = .returned (.agg #[.bool false, .bool (X == 0), .bool tX, .bool false, .bool (WM.par X)]) ∧ Below w.heap.size w w') :
    Calls Try.prog 23 #[.int .i64 5, .int .i64 k, .int .u64 a, .int .u64 b, .agg #[.bool c, .bool z, .bool s, .bool o, .bool p]] w fun e w' => e = .returned (.tuple #[.int .u64 (X : Int), .agg #[.bool false, .bool (X == 0), .bool tX, .bool false, .bool (WM.par X)]]) ∧ Below w.heap.size w w' := by
  have CL1' := Lib.hid CL1
  have CL2' := Lib.hid CL2
  have CBy' := Lib.hid CBy
  clear CL1 CL2 CBy
  cases c
  · go_enter Try.func23, Try.ntmps23
    go_wp2_with fail
    refine (CL1'.out _).mono ?_
    rintro e w' ⟨rfl, rfl⟩
    go_wp2_with fail
    refine (CL2'.out _).mono ?_
    rintro e w' ⟨rfl, rfl⟩
    go_wp2_with fail
    refine (CBy'.out _).mono ?_
    rintro e w1 ⟨rfl, hb1⟩
    have hW := byW_of hb1
    obtain ⟨hs, hbel, r0, r1, r2, r3, r4, z1⟩ := hW
    clear hb1
    go_wp2_with fail
    refine bodyPost_ret (v := .tuple #[.int .u64 (X : Int), .agg #[.bool false, .bool (X == 0), .bool tX, .bool false, .bool (WM.par X)]]) (by simp [results, Try.results23, go_sem, r0, r1, r2, r3, r4]) rfl ⟨rfl, ?_⟩
    exact ((((hbel.setCell (by simp) _).setCell (by simp) _).setCell (by simp) _).setCell (by simp) _).setCell (by simp) _
  · go_enter Try.func23, Try.ntmps23
    go_wp2_with fail
    refine (CL1'.out _).mono ?_
    rintro e w' ⟨rfl, rfl⟩
    go_wp2_with fail
    refine (CL2'.out _).mono ?_
    rintro e w' ⟨rfl, rfl⟩
    go_wp2_with fail
    refine (CBy'.out _).mono ?_
    rintro e w1 ⟨rfl, hb1⟩
    have hW := byW_of hb1
    obtain ⟨hs, hbel, r0, r1, r2, r3, r4, z1⟩ := hW
    clear hb1
    go_wp2_with fail
    refine bodyPost_ret (v := .tuple #[.int .u64 (X : Int), .agg #[.bool false, .bool (X == 0), .bool tX, .bool false, .bool (WM.par X)]]) (by simp [results, Try.results23, go_sem, r0, r1, r2, r3, r4]) rfl ⟨rfl, ?_⟩
    exact ((((hbel.setCell (by simp) _).setCell (by simp) _).setCell (by simp) _).setCell (by simp) _).setCell (by simp) _
set_option maxHeartbeats 1600000 in
theorem refDo6 (k a b A B X : Nat) (tX : Bool) (c z s o p : Bool) (w : World)
    (CL1 : ∀ w, Calls Try.prog 24 #[.int .i64 k, .int .u64 a] w fun e w' => e = .returned (.int .u64 (A : Int)) ∧ w = w')
    (CL2 : ∀ w, Calls Try.prog 24 #[.int .i64 k, .int .u64 b] w fun e w' => e = .returned (.int .u64 (B : Int)) ∧ w = w')
    (hX : bits .or .u64 (A : Int) (B : Int) = (X : Int))
    (CBy : ∀ w, Calls Try.prog 45 #[.int .i64 k, .int .u64 X, .agg #[.bool false, .bool false, .bool false, .bool false, .bool false]] w fun e w' => e = .returned (.agg #[.bool false, .bool (X == 0), .bool tX, .bool false, .bool (WM.par X)]) ∧ Below w.heap.size w w') :
    Calls Try.prog 23 #[.int .i64 6, .int .i64 k, .int .u64 a, .int .u64 b, .agg #[.bool c, .bool z, .bool s, .bool o, .bool p]] w fun e w' => e = .returned (.tuple #[.int .u64 (X : Int), .agg #[.bool false, .bool (X == 0), .bool tX, .bool false, .bool (WM.par X)]]) ∧ Below w.heap.size w w' := by
  have CL1' := Lib.hid CL1
  have CL2' := Lib.hid CL2
  have CBy' := Lib.hid CBy
  clear CL1 CL2 CBy
  cases c
  · go_enter Try.func23, Try.ntmps23
    go_wp2_with fail
    refine (CL1'.out _).mono ?_
    rintro e w' ⟨rfl, rfl⟩
    go_wp2_with fail
    refine (CL2'.out _).mono ?_
    rintro e w' ⟨rfl, rfl⟩
    go_wp2_with fail
    refine (CBy'.out _).mono ?_
    rintro e w1 ⟨rfl, hb1⟩
    have hW := byW_of hb1
    obtain ⟨hs, hbel, r0, r1, r2, r3, r4, z1⟩ := hW
    clear hb1
    go_wp2_with fail
    refine bodyPost_ret (v := .tuple #[.int .u64 (X : Int), .agg #[.bool false, .bool (X == 0), .bool tX, .bool false, .bool (WM.par X)]]) (by simp [results, Try.results23, go_sem, r0, r1, r2, r3, r4]) rfl ⟨rfl, ?_⟩
    exact ((((hbel.setCell (by simp) _).setCell (by simp) _).setCell (by simp) _).setCell (by simp) _).setCell (by simp) _
  · go_enter Try.func23, Try.ntmps23
    go_wp2_with fail
    refine (CL1'.out _).mono ?_
    rintro e w' ⟨rfl, rfl⟩
    go_wp2_with fail
    refine (CL2'.out _).mono ?_
    rintro e w' ⟨rfl, rfl⟩
    go_wp2_with fail
    refine (CBy'.out _).mono ?_
    rintro e w1 ⟨rfl, hb1⟩
    have hW := byW_of hb1
    obtain ⟨hs, hbel, r0, r1, r2, r3, r4, z1⟩ := hW
    clear hb1
    go_wp2_with fail
    refine bodyPost_ret (v := .tuple #[.int .u64 (X : Int), .agg #[.bool false, .bool (X == 0), .bool tX, .bool false, .bool (WM.par X)]]) (by simp [results, Try.results23, go_sem, r0, r1, r2, r3, r4]) rfl ⟨rfl, ?_⟩
    exact ((((hbel.setCell (by simp) _).setCell (by simp) _).setCell (by simp) _).setCell (by simp) _).setCell (by simp) _
set_option maxHeartbeats 1600000 in
theorem refDo7 (k a b A B X : Nat) (tX : Bool) (c z s o p : Bool) (w : World)
    (CL1 : ∀ w, Calls Try.prog 24 #[.int .i64 k, .int .u64 a] w fun e w' => e = .returned (.int .u64 (A : Int)) ∧ w = w')
    (CL2 : ∀ w, Calls Try.prog 24 #[.int .i64 k, .int .u64 b] w fun e w' => e = .returned (.int .u64 (B : Int)) ∧ w = w')
    (hX : bits .xor .u64 (A : Int) (B : Int) = (X : Int))
    (CBy : ∀ w, Calls Try.prog 45 #[.int .i64 k, .int .u64 X, .agg #[.bool false, .bool false, .bool false, .bool false, .bool false]] w fun e w' => e = .returned (.agg #[.bool false, .bool (X == 0), .bool tX, .bool false, .bool (WM.par X)]) ∧ Below w.heap.size w w') :
    Calls Try.prog 23 #[.int .i64 7, .int .i64 k, .int .u64 a, .int .u64 b, .agg #[.bool c, .bool z, .bool s, .bool o, .bool p]] w fun e w' => e = .returned (.tuple #[.int .u64 (X : Int), .agg #[.bool false, .bool (X == 0), .bool tX, .bool false, .bool (WM.par X)]]) ∧ Below w.heap.size w w' := by
  have CL1' := Lib.hid CL1
  have CL2' := Lib.hid CL2
  have CBy' := Lib.hid CBy
  clear CL1 CL2 CBy
  cases c
  · go_enter Try.func23, Try.ntmps23
    go_wp2_with fail
    refine (CL1'.out _).mono ?_
    rintro e w' ⟨rfl, rfl⟩
    go_wp2_with fail
    refine (CL2'.out _).mono ?_
    rintro e w' ⟨rfl, rfl⟩
    go_wp2_with fail
    refine (CBy'.out _).mono ?_
    rintro e w1 ⟨rfl, hb1⟩
    have hW := byW_of hb1
    obtain ⟨hs, hbel, r0, r1, r2, r3, r4, z1⟩ := hW
    clear hb1
    go_wp2_with fail
    refine bodyPost_ret (v := .tuple #[.int .u64 (X : Int), .agg #[.bool false, .bool (X == 0), .bool tX, .bool false, .bool (WM.par X)]]) (by simp [results, Try.results23, go_sem, r0, r1, r2, r3, r4]) rfl ⟨rfl, ?_⟩
    exact ((((hbel.setCell (by simp) _).setCell (by simp) _).setCell (by simp) _).setCell (by simp) _).setCell (by simp) _
  · go_enter Try.func23, Try.ntmps23
    go_wp2_with fail
    refine (CL1'.out _).mono ?_
    rintro e w' ⟨rfl, rfl⟩
    go_wp2_with fail
    refine (CL2'.out _).mono ?_
    rintro e w' ⟨rfl, rfl⟩
    go_wp2_with fail
    refine (CBy'.out _).mono ?_
    rintro e w1 ⟨rfl, hb1⟩
    have hW := byW_of hb1
    obtain ⟨hs, hbel, r0, r1, r2, r3, r4, z1⟩ := hW
    clear hb1
    go_wp2_with fail
    refine bodyPost_ret (v := .tuple #[.int .u64 (X : Int), .agg #[.bool false, .bool (X == 0), .bool tX, .bool false, .bool (WM.par X)]]) (by simp [results, Try.results23, go_sem, r0, r1, r2, r3, r4]) rfl ⟨rfl, ?_⟩
    exact ((((hbel.setCell (by simp) _).setCell (by simp) _).setCell (by simp) _).setCell (by simp) _).setCell (by simp) _
set_option maxHeartbeats 1600000 in
theorem refDo8 (k a b A B X : Nat) (P : Nat) (fb tX : Bool) (c z s o p : Bool) (w : World)
    (CL1 : ∀ w, Calls Try.prog 24 #[.int .i64 k, .int .u64 a] w fun e w' => e = .returned (.int .u64 (A : Int)) ∧ w = w')
    (CL2 : ∀ w, Calls Try.prog 24 #[.int .i64 k, .int .u64 b] w fun e w' => e = .returned (.int .u64 (B : Int)) ∧ w = w')
    (hP : IntKind.u64.wrap ((A : Int) * (B : Int)) = (P : Int))
    (CL3 : ∀ w, Calls Try.prog 24 #[.int .i64 k, .int .u64 (P : Int)] w fun e w' => e = .returned (.int .u64 (X : Int)) ∧ w = w')
    (CF : ∀ w, Calls Try.prog 44 #[.int .i64 k, .int .u64 A, .int .u64 B, .int .u64 X] w fun e w' => e = .returned (.bool fb) ∧ w = w')
    (CBy : ∀ w, Calls Try.prog 45 #[.int .i64 k, .int .u64 X, .agg #[.bool (!fb), .bool false, .bool false, .bool (!fb), .bool false]] w fun e w' => e = .returned (.agg #[.bool (!fb), .bool (X == 0), .bool tX, .bool (!fb), .bool (WM.par X)]) ∧ Below w.heap.size w w') :
    Calls Try.prog 23 #[.int .i64 8, .int .i64 k, .int .u64 a, .int .u64 b, .agg #[.bool c, .bool z, .bool s, .bool o, .bool p]] w fun e w' => e = .returned (.tuple #[.int .u64 (X : Int), .agg #[.bool (!fb), .bool (X == 0), .bool tX, .bool (!fb), .bool (WM.par X)]]) ∧ Below w.heap.size w w' := by
  have CL1' := Lib.hid CL1
  have CL2' := Lib.hid CL2
  have CL3' := Lib.hid CL3
  have CF' := Lib.hid CF
  have CBy' := Lib.hid CBy
  clear CL1 CL2 CL3 CF CBy
  cases c
  · go_enter Try.func23, Try.ntmps23
    go_wp2_with fail
    refine (CL1'.out _).mono ?_
    rintro e w' ⟨rfl, rfl⟩
    go_wp2_with fail
    refine (CL2'.out _).mono ?_
    rintro e w' ⟨rfl, rfl⟩
    go_wp2_with fail
    refine (CL3'.out _).mono ?_
    rintro e w' ⟨rfl, rfl⟩
    go_wp2_with fail
    refine (CF'.out _).mono ?_
    rintro e w' ⟨rfl, rfl⟩
    go_wp2_with fail
    refine (CBy'.out _).mono ?_
    rintro e w1 ⟨rfl, hb1⟩
    have hW := byW_of hb1
    obtain ⟨hs, hbel, r0, r1, r2, r3, r4, z1⟩ := hW
    clear hb1
    go_wp2_with fail
    refine bodyPost_ret (v := .tuple #[.int .u64 (X : Int), .agg #[.bool (!fb), .bool (X == 0), .bool tX, .bool (!fb), .bool (WM.par X)]]) (by simp [results, Try.results23, go_sem, r0, r1, r2, r3, r4]) rfl ⟨rfl, ?_⟩
    exact ((((hbel.setCell (by simp) _).setCell (by simp) _).setCell (by simp) _).setCell (by simp) _).setCell (by simp) _
  · go_enter Try.func23, Try.ntmps23
    go_wp2_with fail
    refine (CL1'.out _).mono ?_
    rintro e w' ⟨rfl, rfl⟩
    go_wp2_with fail
    refine (CL2'.out _).mono ?_
    rintro e w' ⟨rfl, rfl⟩
    go_wp2_with fail
    refine (CL3'.out _).mono ?_
    rintro e w' ⟨rfl, rfl⟩
    go_wp2_with fail
    refine (CF'.out _).mono ?_
    rintro e w' ⟨rfl, rfl⟩
    go_wp2_with fail
    refine (CBy'.out _).mono ?_
    rintro e w1 ⟨rfl, hb1⟩
    have hW := byW_of hb1
    obtain ⟨hs, hbel, r0, r1, r2, r3, r4, z1⟩ := hW
    clear hb1
    go_wp2_with fail
    refine bodyPost_ret (v := .tuple #[.int .u64 (X : Int), .agg #[.bool (!fb), .bool (X == 0), .bool tX, .bool (!fb), .bool (WM.par X)]]) (by simp [results, Try.results23, go_sem, r0, r1, r2, r3, r4]) rfl ⟨rfl, ?_⟩
    exact ((((hbel.setCell (by simp) _).setCell (by simp) _).setCell (by simp) _).setCell (by simp) _).setCell (by simp) _
end Go.Proofs.Ytklepefljdiepaa
