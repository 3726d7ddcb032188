import Derived.Test.YtklepefljdiepaaW4
import Derived.Test.YtklepefljdiepaaW5
import Derived.RegionTactic
import Derived.ChangeAlike
namespace Go.Proofs.Ytklepefljdiepaa
open Go.RowKit

theorem bz86 (w : World) : (zeroValue 84).run Try.prog w = .ok .nilFunc w := by kernel_rfl
/-- What a walk knows behind the table of Shift has been made. -/
structure ShW (c z s o p : Bool) (w w1 : World) : Prop where
  size : w.heap.size + 1 < w1.heap.size
  below : Below w.heap.size w w1
  f0 : w1.cell? ⟨w.heap.size, 0, none⟩ = some (.bool c)
  f1 : w1.cell? ⟨w.heap.size, 1, none⟩ = some (.bool z)
  f2 : w1.cell? ⟨w.heap.size, 2, none⟩ = some (.bool s)
  f3 : w1.cell? ⟨w.heap.size, 3, none⟩ = some (.bool o)
  f4 : w1.cell? ⟨w.heap.size, 4, none⟩ = some (.bool p)
  z0 : ∀ i, w1.frozen? ⟨w.heap.size, i, none⟩ = false
  r0 : w1.cell? ⟨w.heap.size + 1, 0, none⟩ = some (.bool false)
  r1 : w1.cell? ⟨w.heap.size + 1, 1, none⟩ = some (.bool false)
  r2 : w1.cell? ⟨w.heap.size + 1, 2, none⟩ = some (.bool false)
  r3 : w1.cell? ⟨w.heap.size + 1, 3, none⟩ = some (.bool false)
  r4 : w1.cell? ⟨w.heap.size + 1, 4, none⟩ = some (.bool false)
  z1 : ∀ i, w1.frozen? ⟨w.heap.size + 1, i, none⟩ = false
theorem shW_of {c z s o p : Bool} {w w1 : World} (hb1 : Below ((w.alloc (Obj.cells #[Value.bool c, Value.bool z, Value.bool s, Value.bool o, Value.bool p] 36)).alloc (Obj.cells #[Value.bool false, Value.bool false, Value.bool false, Value.bool false, Value.bool false] 36)).heap.size ((w.alloc (Obj.cells #[Value.bool c, Value.bool z, Value.bool s, Value.bool o, Value.bool p] 36)).alloc (Obj.cells #[Value.bool false, Value.bool false, Value.bool false, Value.bool false, Value.bool false] 36)) w1)
    (hs : w.heap.size + 1 < w1.heap.size) : ShW c z s o p w w1 where
  size := hs
  below := (((Below.refl w.heap.size w).alloc (Nat.le_refl _) _).alloc (by simp) _).trans (hb1.mono (by simp; omega))
  f0 := by rw [hb1.cell (by simp; omega)]; go_simp
  f1 := by rw [hb1.cell (by simp; omega)]; go_simp
  f2 := by rw [hb1.cell (by simp; omega)]; go_simp
  f3 := by rw [hb1.cell (by simp; omega)]; go_simp
  f4 := by rw [hb1.cell (by simp; omega)]; go_simp
  z0 := fun i => by rw [hb1.frozen (by simp; omega)]; go_simp
  r0 := by rw [hb1.cell (by simp)]; go_simp
  r1 := by rw [hb1.cell (by simp)]; go_simp
  r2 := by rw [hb1.cell (by simp)]; go_simp
  r3 := by rw [hb1.cell (by simp)]; go_simp
  r4 := by rw [hb1.cell (by simp)]; go_simp
  z1 := fun i => by rw [hb1.frozen (by simp)]; go_simp

set_option maxHeartbeats 800000 in
/-- Shift by a count that comes to 0. -/
theorem shift_zero (op : Int) (f : Nat) (k a n : Int) (c z s o p : Bool) (w : World) (hk : isW k = true) (k1 : k ≤ 64) (a0 : 0 ≤ a) (n0 : 0 ≤ n) (hat : fat shT op = some f) (h0 : WM.counted k.toNat n.toNat = 0) :
    Calls Try.prog 29 #[.int .i64 op, .int .i64 k, .int .u64 a, .int .u64 n, .agg #[.bool c, .bool z, .bool s, .bool o, .bool p]] w fun e w' => e = .returned (.tuple #[.int .u64 ((WM.low k.toNat a.toNat : Nat) : Int), .agg #[.bool c, .bool z, .bool s, .bool o, .bool p], .int .i64 0]) ∧ Below w.heap.size w w' := by
  have hw := isW_le hk
  go_enter Try.func29, Try.ntmps29
  go_wp2_with fail
  refine (shifts_any _).mono ?_
  rintro e w1 ⟨m, rfl, hm, hmb, hb1⟩
  have hlk := run_look_fmap Try.underlying86 Try.underlying51 bz86 shT hm op
  simp only [fval, hat, Option.isSome_some] at hlk
  have hs : w.heap.size + 1 < w1.heap.size := by have := hb1.size; simp at this; omega
  have HW := shW_of hb1 hs
  clear hmb hm hat hb1
  go_wp2_with (first | (go_at_call 39; refine (isWidth_any _ _).mono ?_; rintro e w' ⟨rfl, rfl⟩) | (go_at_call 40; refine (low_any _ _ _ (by omega) (by omega) (by omega)).mono ?_; rintro e w' ⟨rfl, rfl⟩))
  refine (counted_any _ _ _ n0).mono ?_
  rintro e w' ⟨rfl, rfl⟩
  rw [h0]
  clear hlk h0
  obtain ⟨_, hbel, f0, f1, f2, f3, f4, z0, r0, r1, r2, r3, r4, z1⟩ := HW
  go_wp2_with fail
  go_region
  go_wp2_with fail
  refine bodyPost_ret (v := .tuple #[.int .u64 ((WM.low k.toNat a.toNat : Nat) : Int), .agg #[.bool c, .bool z, .bool s, .bool o, .bool p], .int .i64 0]) (by simp [results, Try.results29, go_sem, r0, r1, r2, r3, r4]) rfl ⟨rfl, ?_⟩
  exact (((((hbel.setCell (by simp) _).setCell (by simp) _).setCell (by simp) _).setCell (by simp) _).setCell (by simp) _).drew
set_option maxHeartbeats 1000000 in
/-- Shift, of an operation in the table, by a count that does not come to 0: X, C, O: what the table's function answers. -/
theorem shift_core69 (op : Int) (N X : Nat) (C O : Bool) (k a n : Int) (c z s o p : Bool) (w : World) (hk : isW k = true) (k0 : 1 ≤ k) (k1 : k ≤ 64) (a0 : 0 ≤ a) (n0 : 0 ≤ n) (hat : fat shT op = some 69) (hN : WM.counted k.toNat n.toNat = N) (hN0 : 1 ≤ N) (hop : op < 4)
    (hX : X < 18446744073709551616)
    (hf : ∀ w, Calls Try.prog 69 #[.int .i64 k, .int .u64 ((WM.low k.toNat a.toNat : Nat) : Int), .int .u64 (N : Int)] w fun e w' => e = .returned (.tuple #[.int .u64 (X : Int), .bool C, .bool O]) ∧ w = w') :
    Calls Try.prog 29 #[.int .i64 op, .int .i64 k, .int .u64 a, .int .u64 n, .agg #[.bool c, .bool z, .bool s, .bool o, .bool p]] w fun e w' => e = .returned (.tuple #[.int .u64 (X : Int), .agg #[.bool C, .bool (X == 0), .bool (WM.top k.toNat X), .bool O, .bool (WM.par X)], .int .i64 0]) ∧ Below w.heap.size w w' := by
  have HF := Lib.hid hf
  clear hf
  have hNz : ((N : Int) == 0) = false := by rw [beq_eq_false_iff_ne]; omega
  have ho4 : (op == 4) = false := by rw [beq_eq_false_iff_ne]; omega
  have ho5 : (op == 5) = false := by rw [beq_eq_false_iff_ne]; omega
  clear hop
  go_enter Try.func29, Try.ntmps29
  go_wp2_with fail
  refine (shifts_any _).mono ?_
  rintro e w1 ⟨m, rfl, hm, hmb, hb1⟩
  have hlk := run_look_fmap Try.underlying86 Try.underlying51 bz86 shT hm op
  simp only [fval, hat, Option.isSome_some] at hlk
  have hs : w.heap.size + 1 < w1.heap.size := by have := hb1.size; simp at this; omega
  have HW := shW_of hb1 hs
  clear hmb hm hat hb1
  go_wp2_with (first | (go_at_call 39; refine (isWidth_any _ _).mono ?_; rintro e w' ⟨rfl, rfl⟩) | (go_at_call 40; refine (low_any _ _ _ (by omega) (by omega) (by omega)).mono ?_; rintro e w' ⟨rfl, rfl⟩))
  refine (counted_any _ _ _ n0).mono ?_
  rintro e w' ⟨rfl, rfl⟩
  rw [hN]
  clear hlk hN
  obtain ⟨_, hbel, f0, f1, f2, f3, f4, z0, r0, r1, r2, r3, r4, z1⟩ := HW
  go_wp2_with (go_at_call 69; refine (HF.out _).mono ?_; rintro e w' ⟨rfl, rfl⟩)
  refine (withAnswer_any _ _ _ _ _ k0 k1 (by omega) (by omega)).mono ?_
  rintro e w2 ⟨rfl, hb2⟩
  have hfw : ∀ o', w2.frozen? ⟨w.heap.size + 1, o', none⟩ = false := fun o' => by rw [hb2.frozen (by simpa using hs)]; exact z1 _
  have hcw : ∀ o' v, w1.cell? ⟨w.heap.size + 1, o', none⟩ = some v → w2.cell? ⟨w.heap.size + 1, o', none⟩ = some v := fun o' v h => by rw [hb2.cell (by simpa using hs)]; exact h
  have r0 := hcw 0 _ r0
  have r1 := hcw 1 _ r1
  have r2 := hcw 2 _ r2
  have r3 := hcw 3 _ r3
  have r4 := hcw 4 _ r4
  clear hcw f0 f1 f2 f3 f4 z0 z1
  go_wp2_with fail
  refine bodyPost_ret (v := .tuple #[.int .u64 (X : Int), .agg #[.bool C, .bool (X == 0), .bool (WM.top k.toNat X), .bool O, .bool (WM.par X)], .int .i64 0]) (by simp [results, Try.results29, go_sem, r0, r1, r2, r3, r4]) rfl ⟨rfl, ?_⟩
  have hb0 : Below w.heap.size w w2 := hbel.trans (hb2.mono (by omega))
  exact ((((hb0.setCell (by simp) _).setCell (by simp) _).setCell (by simp) _).setCell (by simp) _).setCell (by simp) _
set_option maxHeartbeats 1000000 in
/-- Shift, of an operation in the table, by a count that does not come to 0: X, C, O: what the table's function answers. -/
theorem shift_core71 (op : Int) (N X : Nat) (C O : Bool) (k a n : Int) (c z s o p : Bool) (w : World) (hk : isW k = true) (k0 : 1 ≤ k) (k1 : k ≤ 64) (a0 : 0 ≤ a) (n0 : 0 ≤ n) (hat : fat shT op = some 71) (hN : WM.counted k.toNat n.toNat = N) (hN0 : 1 ≤ N) (hop : op < 4)
    (hX : X < 18446744073709551616)
    (hf : ∀ w, Calls Try.prog 71 #[.int .i64 k, .int .u64 ((WM.low k.toNat a.toNat : Nat) : Int), .int .u64 (N : Int)] w fun e w' => e = .returned (.tuple #[.int .u64 (X : Int), .bool C, .bool O]) ∧ w = w') :
    Calls Try.prog 29 #[.int .i64 op, .int .i64 k, .int .u64 a, .int .u64 n, .agg #[.bool c, .bool z, .bool s, .bool o, .bool p]] w fun e w' => e = .returned (.tuple #[.int .u64 (X : Int), .agg #[.bool C, .bool (X == 0), .bool (WM.top k.toNat X), .bool O, .bool (WM.par X)], .int .i64 0]) ∧ Below w.heap.size w w' := by
  have HF := Lib.hid hf
  clear hf
  have hNz : ((N : Int) == 0) = false := by rw [beq_eq_false_iff_ne]; omega
  have ho4 : (op == 4) = false := by rw [beq_eq_false_iff_ne]; omega
  have ho5 : (op == 5) = false := by rw [beq_eq_false_iff_ne]; omega
  clear hop
  go_enter Try.func29, Try.ntmps29
  go_wp2_with fail
  refine (shifts_any _).mono ?_
  rintro e w1 ⟨m, rfl, hm, hmb, hb1⟩
  have hlk := run_look_fmap Try.underlying86 Try.underlying51 bz86 shT hm op
  simp only [fval, hat, Option.isSome_some] at hlk
  have hs : w.heap.size + 1 < w1.heap.size := by have := hb1.size; simp at this; omega
  have HW := shW_of hb1 hs
  clear hmb hm hat hb1
  go_wp2_with (first | (go_at_call 39; refine (isWidth_any _ _).mono ?_; rintro e w' ⟨rfl, rfl⟩) | (go_at_call 40; refine (low_any _ _ _ (by omega) (by omega) (by omega)).mono ?_; rintro e w' ⟨rfl, rfl⟩))
  refine (counted_any _ _ _ n0).mono ?_
  rintro e w' ⟨rfl, rfl⟩
  rw [hN]
  clear hlk hN
  obtain ⟨_, hbel, f0, f1, f2, f3, f4, z0, r0, r1, r2, r3, r4, z1⟩ := HW
  go_wp2_with (go_at_call 71; refine (HF.out _).mono ?_; rintro e w' ⟨rfl, rfl⟩)
  refine (withAnswer_any _ _ _ _ _ k0 k1 (by omega) (by omega)).mono ?_
  rintro e w2 ⟨rfl, hb2⟩
  have hfw : ∀ o', w2.frozen? ⟨w.heap.size + 1, o', none⟩ = false := fun o' => by rw [hb2.frozen (by simpa using hs)]; exact z1 _
  have hcw : ∀ o' v, w1.cell? ⟨w.heap.size + 1, o', none⟩ = some v → w2.cell? ⟨w.heap.size + 1, o', none⟩ = some v := fun o' v h => by rw [hb2.cell (by simpa using hs)]; exact h
  have r0 := hcw 0 _ r0
  have r1 := hcw 1 _ r1
  have r2 := hcw 2 _ r2
  have r3 := hcw 3 _ r3
  have r4 := hcw 4 _ r4
  clear hcw f0 f1 f2 f3 f4 z0 z1
  go_wp2_with fail
  refine bodyPost_ret (v := .tuple #[.int .u64 (X : Int), .agg #[.bool C, .bool (X == 0), .bool (WM.top k.toNat X), .bool O, .bool (WM.par X)], .int .i64 0]) (by simp [results, Try.results29, go_sem, r0, r1, r2, r3, r4]) rfl ⟨rfl, ?_⟩
  have hb0 : Below w.heap.size w w2 := hbel.trans (hb2.mono (by omega))
  exact ((((hb0.setCell (by simp) _).setCell (by simp) _).setCell (by simp) _).setCell (by simp) _).setCell (by simp) _
set_option maxHeartbeats 1000000 in
/-- Shift, of an operation in the table, by a count that does not come to 0: X, C, O: what the table's function answers. -/
theorem shift_core72 (op : Int) (N X : Nat) (C O : Bool) (k a n : Int) (c z s o p : Bool) (w : World) (hk : isW k = true) (k0 : 1 ≤ k) (k1 : k ≤ 64) (a0 : 0 ≤ a) (n0 : 0 ≤ n) (hat : fat shT op = some 72) (hN : WM.counted k.toNat n.toNat = N) (hN0 : 1 ≤ N) (hop : op < 4)
    (hX : X < 18446744073709551616)
    (hf : ∀ w, Calls Try.prog 72 #[.int .i64 k, .int .u64 ((WM.low k.toNat a.toNat : Nat) : Int), .int .u64 (N : Int)] w fun e w' => e = .returned (.tuple #[.int .u64 (X : Int), .bool C, .bool O]) ∧ w = w') :
    Calls Try.prog 29 #[.int .i64 op, .int .i64 k, .int .u64 a, .int .u64 n, .agg #[.bool c, .bool z, .bool s, .bool o, .bool p]] w fun e w' => e = .returned (.tuple #[.int .u64 (X : Int), .agg #[.bool C, .bool (X == 0), .bool (WM.top k.toNat X), .bool O, .bool (WM.par X)], .int .i64 0]) ∧ Below w.heap.size w w' := by
  have HF := Lib.hid hf
  clear hf
  have hNz : ((N : Int) == 0) = false := by rw [beq_eq_false_iff_ne]; omega
  have ho4 : (op == 4) = false := by rw [beq_eq_false_iff_ne]; omega
  have ho5 : (op == 5) = false := by rw [beq_eq_false_iff_ne]; omega
  clear hop
  go_enter Try.func29, Try.ntmps29
  go_wp2_with fail
  refine (shifts_any _).mono ?_
  rintro e w1 ⟨m, rfl, hm, hmb, hb1⟩
  have hlk := run_look_fmap Try.underlying86 Try.underlying51 bz86 shT hm op
  simp only [fval, hat, Option.isSome_some] at hlk
  have hs : w.heap.size + 1 < w1.heap.size := by have := hb1.size; simp at this; omega
  have HW := shW_of hb1 hs
  clear hmb hm hat hb1
  go_wp2_with (first | (go_at_call 39; refine (isWidth_any _ _).mono ?_; rintro e w' ⟨rfl, rfl⟩) | (go_at_call 40; refine (low_any _ _ _ (by omega) (by omega) (by omega)).mono ?_; rintro e w' ⟨rfl, rfl⟩))
  refine (counted_any _ _ _ n0).mono ?_
  rintro e w' ⟨rfl, rfl⟩
  rw [hN]
  clear hlk hN
  obtain ⟨_, hbel, f0, f1, f2, f3, f4, z0, r0, r1, r2, r3, r4, z1⟩ := HW
  go_wp2_with (go_at_call 72; refine (HF.out _).mono ?_; rintro e w' ⟨rfl, rfl⟩)
  refine (withAnswer_any _ _ _ _ _ k0 k1 (by omega) (by omega)).mono ?_
  rintro e w2 ⟨rfl, hb2⟩
  have hfw : ∀ o', w2.frozen? ⟨w.heap.size + 1, o', none⟩ = false := fun o' => by rw [hb2.frozen (by simpa using hs)]; exact z1 _
  have hcw : ∀ o' v, w1.cell? ⟨w.heap.size + 1, o', none⟩ = some v → w2.cell? ⟨w.heap.size + 1, o', none⟩ = some v := fun o' v h => by rw [hb2.cell (by simpa using hs)]; exact h
  have r0 := hcw 0 _ r0
  have r1 := hcw 1 _ r1
  have r2 := hcw 2 _ r2
  have r3 := hcw 3 _ r3
  have r4 := hcw 4 _ r4
  clear hcw f0 f1 f2 f3 f4 z0 z1
  go_wp2_with fail
  refine bodyPost_ret (v := .tuple #[.int .u64 (X : Int), .agg #[.bool C, .bool (X == 0), .bool (WM.top k.toNat X), .bool O, .bool (WM.par X)], .int .i64 0]) (by simp [results, Try.results29, go_sem, r0, r1, r2, r3, r4]) rfl ⟨rfl, ?_⟩
  have hb0 : Below w.heap.size w w2 := hbel.trans (hb2.mono (by omega))
  exact ((((hb0.setCell (by simp) _).setCell (by simp) _).setCell (by simp) _).setCell (by simp) _).setCell (by simp) _
set_option maxHeartbeats 1000000 in
/-- Shift, of an operation in the table, by a count that does not come to 0: X, C, O: what the table's function answers. -/
theorem shift_core73 (op : Int) (N X : Nat) (C O : Bool) (k a n : Int) (c z s o p : Bool) (w : World) (hk : isW k = true) (k0 : 1 ≤ k) (k1 : k ≤ 64) (a0 : 0 ≤ a) (n0 : 0 ≤ n) (hat : fat shT op = some 73) (hN : WM.counted k.toNat n.toNat = N) (hN0 : 1 ≤ N) (hop : op = 4)
    (_hX : X < 18446744073709551616)
    (hf : ∀ w, Calls Try.prog 73 #[.int .i64 k, .int .u64 ((WM.low k.toNat a.toNat : Nat) : Int), .int .u64 (N : Int)] w fun e w' => e = .returned (.tuple #[.int .u64 (X : Int), .bool C, .bool O]) ∧ w = w') :
    Calls Try.prog 29 #[.int .i64 op, .int .i64 k, .int .u64 a, .int .u64 n, .agg #[.bool c, .bool z, .bool s, .bool o, .bool p]] w fun e w' => e = .returned (.tuple #[.int .u64 (X : Int), .agg #[.bool C, .bool z, .bool s, .bool O, .bool p], .int .i64 0]) ∧ Below w.heap.size w w' := by
  have HF := Lib.hid hf
  clear hf
  have hNz : ((N : Int) == 0) = false := by rw [beq_eq_false_iff_ne]; omega
  have ho4 : (op == 4) = true := by subst hop; decide
  clear hop
  go_enter Try.func29, Try.ntmps29
  go_wp2_with fail
  refine (shifts_any _).mono ?_
  rintro e w1 ⟨m, rfl, hm, hmb, hb1⟩
  have hlk := run_look_fmap Try.underlying86 Try.underlying51 bz86 shT hm op
  simp only [fval, hat, Option.isSome_some] at hlk
  have hs : w.heap.size + 1 < w1.heap.size := by have := hb1.size; simp at this; omega
  have HW := shW_of hb1 hs
  clear hmb hm hat hb1
  go_wp2_with (first | (go_at_call 39; refine (isWidth_any _ _).mono ?_; rintro e w' ⟨rfl, rfl⟩) | (go_at_call 40; refine (low_any _ _ _ (by omega) (by omega) (by omega)).mono ?_; rintro e w' ⟨rfl, rfl⟩))
  refine (counted_any _ _ _ n0).mono ?_
  rintro e w' ⟨rfl, rfl⟩
  rw [hN]
  clear hlk hN
  obtain ⟨_, hbel, f0, f1, f2, f3, f4, z0, r0, r1, r2, r3, r4, z1⟩ := HW
  go_wp2_with (go_at_call 73; refine (HF.out _).mono ?_; rintro e w' ⟨rfl, rfl⟩)
  go_region
  go_wp2_with fail
  refine bodyPost_ret (v := .tuple #[.int .u64 (X : Int), .agg #[.bool C, .bool z, .bool s, .bool O, .bool p], .int .i64 0]) (by simp [results, Try.results29, go_sem, r0, r1, r2, r3, r4]) rfl ⟨rfl, ?_⟩
  have hb0 := (hbel.setCell (p := ⟨w.heap.size, 0, none⟩) (by simp) (.bool C)).setCell (p := ⟨w.heap.size, 3, none⟩) (by simp) (.bool O)
  exact (((((hb0.setCell (by simp) _).setCell (by simp) _).setCell (by simp) _).setCell (by simp) _).setCell (by simp) _).drew
set_option maxHeartbeats 1000000 in
/-- Shift, of an operation in the table, by a count that does not come to 0: X, C, O: what the table's function answers. -/
theorem shift_core75 (op : Int) (N X : Nat) (C O : Bool) (k a n : Int) (c z s o p : Bool) (w : World) (hk : isW k = true) (k0 : 1 ≤ k) (k1 : k ≤ 64) (a0 : 0 ≤ a) (n0 : 0 ≤ n) (hat : fat shT op = some 75) (hN : WM.counted k.toNat n.toNat = N) (hN0 : 1 ≤ N) (hop : op = 5)
    (_hX : X < 18446744073709551616)
    (hf : ∀ w, Calls Try.prog 75 #[.int .i64 k, .int .u64 ((WM.low k.toNat a.toNat : Nat) : Int), .int .u64 (N : Int)] w fun e w' => e = .returned (.tuple #[.int .u64 (X : Int), .bool C, .bool O]) ∧ w = w') :
    Calls Try.prog 29 #[.int .i64 op, .int .i64 k, .int .u64 a, .int .u64 n, .agg #[.bool c, .bool z, .bool s, .bool o, .bool p]] w fun e w' => e = .returned (.tuple #[.int .u64 (X : Int), .agg #[.bool C, .bool z, .bool s, .bool O, .bool p], .int .i64 0]) ∧ Below w.heap.size w w' := by
  have HF := Lib.hid hf
  clear hf
  have hNz : ((N : Int) == 0) = false := by rw [beq_eq_false_iff_ne]; omega
  have ho4 : (op == 4) = false := by subst hop; decide
  have ho5 : (op == 5) = true := by subst hop; decide
  clear hop
  go_enter Try.func29, Try.ntmps29
  go_wp2_with fail
  refine (shifts_any _).mono ?_
  rintro e w1 ⟨m, rfl, hm, hmb, hb1⟩
  have hlk := run_look_fmap Try.underlying86 Try.underlying51 bz86 shT hm op
  simp only [fval, hat, Option.isSome_some] at hlk
  have hs : w.heap.size + 1 < w1.heap.size := by have := hb1.size; simp at this; omega
  have HW := shW_of hb1 hs
  clear hmb hm hat hb1
  go_wp2_with (first | (go_at_call 39; refine (isWidth_any _ _).mono ?_; rintro e w' ⟨rfl, rfl⟩) | (go_at_call 40; refine (low_any _ _ _ (by omega) (by omega) (by omega)).mono ?_; rintro e w' ⟨rfl, rfl⟩))
  refine (counted_any _ _ _ n0).mono ?_
  rintro e w' ⟨rfl, rfl⟩
  rw [hN]
  clear hlk hN
  obtain ⟨_, hbel, f0, f1, f2, f3, f4, z0, r0, r1, r2, r3, r4, z1⟩ := HW
  go_wp2_with (go_at_call 75; refine (HF.out _).mono ?_; rintro e w' ⟨rfl, rfl⟩)
  go_region
  go_wp2_with fail
  refine bodyPost_ret (v := .tuple #[.int .u64 (X : Int), .agg #[.bool C, .bool z, .bool s, .bool O, .bool p], .int .i64 0]) (by simp [results, Try.results29, go_sem, r0, r1, r2, r3, r4]) rfl ⟨rfl, ?_⟩
  have hb0 := (hbel.setCell (p := ⟨w.heap.size, 0, none⟩) (by simp) (.bool C)).setCell (p := ⟨w.heap.size, 3, none⟩) (by simp) (.bool O)
  exact (((((hb0.setCell (by simp) _).setCell (by simp) _).setCell (by simp) _).setCell (by simp) _).setCell (by simp) _).drew
theorem fat_shT (op : Int) : (∃ f, fat shT op = some f) ↔ (1 ≤ op ∧ op ≤ 5) := by
  constructor
  · rintro ⟨f, hf⟩
    by_cases h1 : op = 1; · omega
    by_cases h2 : op = 2; · omega
    by_cases h3 : op = 3; · omega
    by_cases h4 : op = 4; · omega
    by_cases h5 : op = 5; · omega
    simp [fat, shT, *] at hf
  · rintro ⟨h1, h2⟩
    have : op = 1 ∨ op = 2 ∨ op = 3 ∨ op = 4 ∨ op = 5 := by omega
    rcases this with rfl | rfl | rfl | rfl | rfl
    all_goals exact ⟨_, rfl⟩
theorem shOk_at {f op : Nat} (h : ShOk f op) (k a : Int) (N : Nat) (k0 : 8 ≤ k) (k1 : k ≤ 64) (hN0 : 1 ≤ N) (hN : N < 64) (w : World) :
    Calls Try.prog f #[.int .i64 k, .int .u64 ((WM.low k.toNat a.toNat : Nat) : Int), .int .u64 (N : Int)] w fun e w' => e = .returned (.tuple #[.int .u64 ((WM.shX op k.toNat (WM.low k.toNat a.toNat) N : Nat) : Int), .bool (WM.shC op k.toNat (WM.low k.toNat a.toNat) N), .bool (WM.shO op k.toNat (WM.low k.toNat a.toNat) N)]) ∧ w = w' := by
  have := h k.toNat (WM.low k.toNat a.toNat) N w (by omega) (by omega) (WM.low_lt _ _) hN0 hN
  rw [show ((k.toNat : Nat) : Int) = k from Int.toNat_of_nonneg (by omega)] at this
  exact this
theorem shX_lt64 (op k a N : Nat) (k1 : k ≤ 64) : WM.shX op k (WM.low k a) N < 18446744073709551616 := Nat.lt_of_lt_of_le (WM.shX_lt (WM.low_lt _ _)) (WM.pow_le64 k1)
theorem shiftX_pos {op k a n : Nat} (h : WM.counted k n ≠ 0) : WM.shiftX op k a n = WM.shX op k (WM.low k a) (WM.counted k n) := by simp [WM.shiftX, h]
theorem shiftF_lt {op k a n : Nat} {f : WM.Fl} (h : WM.counted k n ≠ 0) (ho : op < 4) : WM.shiftF op k a n f = ⟨WM.shC op k (WM.low k a) (WM.counted k n), WM.shiftX op k a n == 0, WM.top k (WM.shiftX op k a n), WM.shO op k (WM.low k a) (WM.counted k n), WM.par (WM.shiftX op k a n)⟩ := by simp [WM.shiftF, h, ho]
theorem shiftF_ge {op k a n : Nat} {f : WM.Fl} (h : WM.counted k n ≠ 0) (ho : ¬ op < 4) : WM.shiftF op k a n f = { f with c := WM.shC op k (WM.low k a) (WM.counted k n), o := WM.shO op k (WM.low k a) (WM.counted k n) } := by simp [WM.shiftF, h, ho]
/-- SHIFT, OF A WIDTH AND AN OPERATION THAT ARE. -/
theorem shift_any (op k a n : Int) (c z s o p : Bool) (w : World) (hk : isW k = true) (h1 : 1 ≤ op) (h5 : op ≤ 5) (a0 : 0 ≤ a) (n0 : 0 ≤ n) (X : Nat) (F : WM.Fl) (hX : WM.shiftX op.toNat k.toNat a.toNat n.toNat = X) (hF : WM.shiftF op.toNat k.toNat a.toNat n.toNat ⟨c, z, s, o, p⟩ = F) :
    Calls Try.prog 29 #[.int .i64 op, .int .i64 k, .int .u64 a, .int .u64 n, .agg #[.bool c, .bool z, .bool s, .bool o, .bool p]] w fun e w' => e = .returned (.tuple #[.int .u64 (X : Int), .agg #[.bool F.c, .bool F.z, .bool F.s, .bool F.o, .bool F.p], .int .i64 0]) ∧ Below w.heap.size w w' := by
  have hw := isW_le hk
  have k0 : 1 ≤ k := by omega
  have hcl := WM.counted_lt k.toNat n.toNat
  by_cases hz : WM.counted k.toNat n.toNat = 0
  · obtain ⟨f, hat⟩ := (fat_shT op).2 ⟨h1, h5⟩
    have eX : WM.low k.toNat a.toNat = X := by rw [← hX]; simp [WM.shiftX, hz]
    have eF : F = ⟨c, z, s, o, p⟩ := by rw [← hF]; simp [WM.shiftF, hz]
    subst eX eF
    exact shift_zero op f k a n c z s o p w hk hw.2 a0 n0 hat hz
  · rw [shiftX_pos hz] at hX
    have : op = 1 ∨ op = 2 ∨ op = 3 ∨ op = 4 ∨ op = 5 := by omega
    rcases this with rfl | rfl | rfl | rfl | rfl
    · rw [shiftF_lt hz (by decide), shiftX_pos hz] at hF
      subst hX hF
      exact shift_core69 1 _ _ _ _ k a n c z s o p w hk k0 hw.2 a0 n0 rfl rfl (by omega) (by decide) (shX_lt64 _ _ _ _ (by omega)) (shOk_at sh1_any k a _ hw.1 hw.2 (by omega) hcl)
    · rw [shiftF_lt hz (by decide), shiftX_pos hz] at hF
      subst hX hF
      exact shift_core71 2 _ _ _ _ k a n c z s o p w hk k0 hw.2 a0 n0 rfl rfl (by omega) (by decide) (shX_lt64 _ _ _ _ (by omega)) (shOk_at sh2_any k a _ hw.1 hw.2 (by omega) hcl)
    · rw [shiftF_lt hz (by decide), shiftX_pos hz] at hF
      subst hX hF
      exact shift_core72 3 _ _ _ _ k a n c z s o p w hk k0 hw.2 a0 n0 rfl rfl (by omega) (by decide) (shX_lt64 _ _ _ _ (by omega)) (shOk_at sh3_any k a _ hw.1 hw.2 (by omega) hcl)
    · rw [shiftF_ge hz (by decide)] at hF
      subst hX hF
      exact shift_core73 4 _ _ _ _ k a n c z s o p w hk k0 hw.2 a0 n0 rfl rfl (by omega) rfl (shX_lt64 _ _ _ _ (by omega)) (shOk_at sh4_any k a _ hw.1 hw.2 (by omega) hcl)
    · rw [shiftF_ge hz (by decide)] at hF
      subst hX hF
      exact shift_core75 5 _ _ _ _ k a n c z s o p w hk k0 hw.2 a0 n0 rfl rfl (by omega) rfl (shX_lt64 _ _ _ _ (by omega)) (shOk_at sh5_any k a _ hw.1 hw.2 (by omega) hcl)
set_option maxHeartbeats 800000 in
/-- SHIFT, REFUSED. -/
theorem shift_bad (op k a b : Int) (c z s o p : Bool) (w : World) (hk : isW k = false ∨ op < 1 ∨ 5 < op) :
    Calls Try.prog 29 #[.int .i64 op, .int .i64 k, .int .u64 a, .int .u64 b, .agg #[.bool c, .bool z, .bool s, .bool o, .bool p]] w fun e w' => e = .returned (.tuple #[.int .u64 0, .agg #[.bool false, .bool false, .bool false, .bool false, .bool false], .int .i64 2]) ∧ Below w.heap.size w w' := by
  cases hat : fat shT op with
  | none =>
    clear hk
    go_enter Try.func29, Try.ntmps29
    go_wp2_with fail
    refine (shifts_any _).mono ?_
    rintro e w1 ⟨m, rfl, hm, hmb, hb1⟩
    have hlk := run_look_fmap Try.underlying86 Try.underlying51 bz86 shT hm op
    simp only [fval, hat, Option.isSome_none] at hlk
    have hs : w.heap.size + 1 < w1.heap.size := by have := hb1.size; simp at this; omega
    have hcw : ∀ o' v, ((w.alloc (Obj.cells #[Value.bool c, Value.bool z, Value.bool s, Value.bool o, Value.bool p] 36)).alloc (Obj.cells #[Value.bool false, Value.bool false, Value.bool false, Value.bool false, Value.bool false] 36)).cell? ⟨w.heap.size + 1, o', none⟩ = some v → w1.cell? ⟨w.heap.size + 1, o', none⟩ = some v := fun o' v h => by
      rw [hb1.cell (by simp)]; exact h
    have hfw : ∀ o', w1.frozen? ⟨w.heap.size + 1, o', none⟩ = false := fun o' => by rw [hb1.frozen (by simp)]; go_simp
    have r0 := hcw 0 (.bool false) (by go_simp)
    have r1 := hcw 1 (.bool false) (by go_simp)
    have r2 := hcw 2 (.bool false) (by go_simp)
    have r3 := hcw 3 (.bool false) (by go_simp)
    have r4 := hcw 4 (.bool false) (by go_simp)
    clear hcw hmb hm hat
    go_wp2_with fail
    refine bodyPost_ret (v := .tuple #[.int .u64 0, .agg #[.bool false, .bool false, .bool false, .bool false, .bool false], .int .i64 2]) (by simp [results, Try.results29, go_sem, r0, r1, r2, r3, r4]) rfl ⟨rfl, ?_⟩
    have hb0 : Below w.heap.size w w1 := (((Below.refl w.heap.size w).alloc (Nat.le_refl _) _).alloc (by simp) _).trans (hb1.mono (by simp; omega))
    exact ((((hb0.setCell (by simp) _).setCell (by simp) _).setCell (by simp) _).setCell (by simp) _).setCell (by simp) _
  | some f =>
    have hk' : isW k = false := by
      have := (fat_shT op).1 ⟨f, hat⟩
      rcases hk with h | h | h
      · exact h
      · omega
      · omega
    clear hk
    go_enter Try.func29, Try.ntmps29
    go_wp2_with fail
    refine (shifts_any _).mono ?_
    rintro e w1 ⟨m, rfl, hm, hmb, hb1⟩
    have hlk := run_look_fmap Try.underlying86 Try.underlying51 bz86 shT hm op
    simp only [fval, hat, Option.isSome_some] at hlk
    have hs : w.heap.size + 1 < w1.heap.size := by have := hb1.size; simp at this; omega
    have hcw : ∀ o' v, ((w.alloc (Obj.cells #[Value.bool c, Value.bool z, Value.bool s, Value.bool o, Value.bool p] 36)).alloc (Obj.cells #[Value.bool false, Value.bool false, Value.bool false, Value.bool false, Value.bool false] 36)).cell? ⟨w.heap.size + 1, o', none⟩ = some v → w1.cell? ⟨w.heap.size + 1, o', none⟩ = some v := fun o' v h => by
      rw [hb1.cell (by simp)]; exact h
    have hfw : ∀ o', w1.frozen? ⟨w.heap.size + 1, o', none⟩ = false := fun o' => by rw [hb1.frozen (by simp)]; go_simp
    have r0 := hcw 0 (.bool false) (by go_simp)
    have r1 := hcw 1 (.bool false) (by go_simp)
    have r2 := hcw 2 (.bool false) (by go_simp)
    have r3 := hcw 3 (.bool false) (by go_simp)
    have r4 := hcw 4 (.bool false) (by go_simp)
    clear hcw hmb hm hat
    go_wp2_with (go_at_call 39; refine (isWidth_any _ _).mono ?_; rintro e w' ⟨rfl, rfl⟩)
    refine bodyPost_ret (v := .tuple #[.int .u64 0, .agg #[.bool false, .bool false, .bool false, .bool false, .bool false], .int .i64 2]) (by simp [results, Try.results29, go_sem, r0, r1, r2, r3, r4]) rfl ⟨rfl, ?_⟩
    have hb0 : Below w.heap.size w w1 := (((Below.refl w.heap.size w).alloc (Nat.le_refl _) _).alloc (by simp) _).trans (hb1.mono (by simp; omega))
    exact ((((hb0.setCell (by simp) _).setCell (by simp) _).setCell (by simp) _).setCell (by simp) _).setCell (by simp) _
end Go.Proofs.Ytklepefljdiepaa
