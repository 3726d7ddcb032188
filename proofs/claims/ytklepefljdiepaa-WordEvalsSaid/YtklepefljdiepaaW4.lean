import Derived.Test.YtklepefljdiepaaW3
import Derived.Deep.QuietTactic
import Derived.BigQuiet
import Derived.Lib.Hide
namespace Go.Proofs.Ytklepefljdiepaa
open Go.RowKit

theorem bz79 (w : World) : (zeroValue 77).run Try.prog w = .ok .nilFunc w := by kernel_rfl
set_option maxHeartbeats 800000 in
/-- Do, of an operation in the table: X, C, O: what the table's function answers of the low parts. -/
theorem do_core58 (op : Int) (X : Nat) (C O : Bool) (k a b : Int) (c z s o p : Bool) (w : World) (hk : isW k = true) (k0 : 1 ≤ k) (k1 : k ≤ 64) (a0 : 0 ≤ a) (b0 : 0 ≤ b) (hat : fat binT op = some 58) (hX : X < 18446744073709551616)
    (hf : ∀ w, Calls Try.prog 58 #[.int .i64 k, .int .u64 ((WM.low k.toNat a.toNat : Nat) : Int), .int .u64 ((WM.low k.toNat b.toNat : Nat) : Int), .int .u64 ((WM.one c : Nat) : Int)] w fun e w' => e = .returned (.tuple #[.int .u64 (X : Int), .bool C, .bool O]) ∧ w' = w) :
    Calls Try.prog 28 #[.int .i64 op, .int .i64 k, .int .u64 a, .int .u64 b, .agg #[.bool c, .bool z, .bool s, .bool o, .bool p]] w fun e w' => e = .returned (.tuple #[.int .u64 (X : Int), .agg #[.bool C, .bool (X == 0), .bool (WM.top k.toNat X), .bool O, .bool (WM.par X)], .int .i64 0]) ∧ Below w.heap.size w w' := by
  have HF := Lib.hid hf
  clear hf
  go_enter Try.func28, Try.ntmps28
  go_wp2_with fail
  refine (binaries_any _).mono ?_
  rintro e w1 ⟨m, rfl, hm, hmb, hb1⟩
  have hlk := run_look_fmap Try.underlying79 Try.underlying42 bz79 binT hm op
  simp only [fval, hat, Option.isSome_some] at hlk
  have hc1 := fun b' o' => hb1.cell (p := ⟨b', o', none⟩)
  have q0 : w1.cell? ⟨w.heap.size, 0, none⟩ = some (.bool c) := by rw [hc1 _ _ (by simp; omega)]; go_simp
  clear hat hc1
  go_wp2_with (go_at_call 39; refine (isWidth_any _ _).mono ?_; rintro e w' ⟨rfl, rfl⟩)
  have hl1 := WM.low_lt64 (k := k.toNat) a.toNat (by omega)
  have hl2 := WM.low_lt64 (k := k.toNat) b.toNat (by omega)
  have ho := WM.one_le c
  clear hlk
  go_quiet ((first | (go_at_call 40; exact Calls.quiet_of_same ((low_any _ _ _ (by omega) (by omega) (by omega)).mono fun _ _ h => ⟨h.1, h.2.symm⟩)) | (go_at_call 48; exact Calls.quiet_of_same ((oneIf_any _ _).mono fun _ _ h => ⟨h.1, h.2.symm⟩)) | (go_at_call 58; exact Calls.quiet_of_same (HF.out _))))
  go_wp2_with fail
  refine (withAnswer_any _ _ _ _ _ k0 k1 (by omega) (by omega)).mono ?_
  rintro e w2 ⟨rfl, hb2⟩
  have hs : w.heap.size + 1 < w1.heap.size := by have := hb1.size; simp at this; omega
  have hcw : ∀ o' v, ((w.alloc (Obj.cells #[Value.bool c, Value.bool z, Value.bool s, Value.bool o, Value.bool p] 36)).alloc (Obj.cells #[Value.bool false, Value.bool false, Value.bool false, Value.bool false, Value.bool false] 36)).cell? ⟨w.heap.size + 1, o', none⟩ = some v → w2.cell? ⟨w.heap.size + 1, o', none⟩ = some v := fun o' v h => by
    rw [hb2.cell (by simpa using hs)]; show w1.cell? _ = _; rw [hb1.cell (by simp)]; exact h
  have hfw : ∀ o', w2.frozen? ⟨w.heap.size + 1, o', none⟩ = false := fun o' => by
    rw [hb2.frozen (by simpa using hs)]; show w1.frozen? _ = _; rw [hb1.frozen (by simp)]; go_simp
  have r0 := hcw 0 (.bool false) (by go_simp)
  have r1 := hcw 1 (.bool false) (by go_simp)
  have r2 := hcw 2 (.bool false) (by go_simp)
  have r3 := hcw 3 (.bool false) (by go_simp)
  have r4 := hcw 4 (.bool false) (by go_simp)
  clear hcw hmb hm q0
  go_wp2_with fail
  refine bodyPost_ret (v := .tuple #[.int .u64 (X : Int), .agg #[.bool C, .bool (X == 0), .bool (WM.top k.toNat X), .bool O, .bool (WM.par X)], .int .i64 0]) (by simp [results, Try.results28, go_sem, r0, r1, r2, r3, r4]) rfl ⟨rfl, ?_⟩
  have hb0 : Below w.heap.size w w2 := ((((Below.refl w.heap.size w).alloc (Nat.le_refl _) _).alloc (by simp) _).trans (hb1.mono (by simp; omega))).trans ((below_drewN (Below.refl _ w1) nq).trans (hb2.mono (by show _ ≤ w1.heap.size; omega)))
  exact ((((hb0.setCell (by simp) _).setCell (by simp) _).setCell (by simp) _).setCell (by simp) _).setCell (by simp) _
set_option maxHeartbeats 800000 in
/-- Do, of an operation in the table: X, C, O: what the table's function answers of the low parts. -/
theorem do_core59 (op : Int) (X : Nat) (C O : Bool) (k a b : Int) (c z s o p : Bool) (w : World) (hk : isW k = true) (k0 : 1 ≤ k) (k1 : k ≤ 64) (a0 : 0 ≤ a) (b0 : 0 ≤ b) (hat : fat binT op = some 59) (hX : X < 18446744073709551616)
    (hf : ∀ w, Calls Try.prog 59 #[.int .i64 k, .int .u64 ((WM.low k.toNat a.toNat : Nat) : Int), .int .u64 ((WM.low k.toNat b.toNat : Nat) : Int), .int .u64 ((WM.one c : Nat) : Int)] w fun e w' => e = .returned (.tuple #[.int .u64 (X : Int), .bool C, .bool O]) ∧ w' = w) :
    Calls Try.prog 28 #[.int .i64 op, .int .i64 k, .int .u64 a, .int .u64 b, .agg #[.bool c, .bool z, .bool s, .bool o, .bool p]] w fun e w' => e = .returned (.tuple #[.int .u64 (X : Int), .agg #[.bool C, .bool (X == 0), .bool (WM.top k.toNat X), .bool O, .bool (WM.par X)], .int .i64 0]) ∧ Below w.heap.size w w' := by
  have HF := Lib.hid hf
  clear hf
  go_enter Try.func28, Try.ntmps28
  go_wp2_with fail
  refine (binaries_any _).mono ?_
  rintro e w1 ⟨m, rfl, hm, hmb, hb1⟩
  have hlk := run_look_fmap Try.underlying79 Try.underlying42 bz79 binT hm op
  simp only [fval, hat, Option.isSome_some] at hlk
  have hc1 := fun b' o' => hb1.cell (p := ⟨b', o', none⟩)
  have q0 : w1.cell? ⟨w.heap.size, 0, none⟩ = some (.bool c) := by rw [hc1 _ _ (by simp; omega)]; go_simp
  clear hat hc1
  go_wp2_with (go_at_call 39; refine (isWidth_any _ _).mono ?_; rintro e w' ⟨rfl, rfl⟩)
  have hl1 := WM.low_lt64 (k := k.toNat) a.toNat (by omega)
  have hl2 := WM.low_lt64 (k := k.toNat) b.toNat (by omega)
  have ho := WM.one_le c
  clear hlk
  go_quiet ((first | (go_at_call 40; exact Calls.quiet_of_same ((low_any _ _ _ (by omega) (by omega) (by omega)).mono fun _ _ h => ⟨h.1, h.2.symm⟩)) | (go_at_call 48; exact Calls.quiet_of_same ((oneIf_any _ _).mono fun _ _ h => ⟨h.1, h.2.symm⟩)) | (go_at_call 59; exact Calls.quiet_of_same (HF.out _))))
  go_wp2_with fail
  refine (withAnswer_any _ _ _ _ _ k0 k1 (by omega) (by omega)).mono ?_
  rintro e w2 ⟨rfl, hb2⟩
  have hs : w.heap.size + 1 < w1.heap.size := by have := hb1.size; simp at this; omega
  have hcw : ∀ o' v, ((w.alloc (Obj.cells #[Value.bool c, Value.bool z, Value.bool s, Value.bool o, Value.bool p] 36)).alloc (Obj.cells #[Value.bool false, Value.bool false, Value.bool false, Value.bool false, Value.bool false] 36)).cell? ⟨w.heap.size + 1, o', none⟩ = some v → w2.cell? ⟨w.heap.size + 1, o', none⟩ = some v := fun o' v h => by
    rw [hb2.cell (by simpa using hs)]; show w1.cell? _ = _; rw [hb1.cell (by simp)]; exact h
  have hfw : ∀ o', w2.frozen? ⟨w.heap.size + 1, o', none⟩ = false := fun o' => by
    rw [hb2.frozen (by simpa using hs)]; show w1.frozen? _ = _; rw [hb1.frozen (by simp)]; go_simp
  have r0 := hcw 0 (.bool false) (by go_simp)
  have r1 := hcw 1 (.bool false) (by go_simp)
  have r2 := hcw 2 (.bool false) (by go_simp)
  have r3 := hcw 3 (.bool false) (by go_simp)
  have r4 := hcw 4 (.bool false) (by go_simp)
  clear hcw hmb hm q0
  go_wp2_with fail
  refine bodyPost_ret (v := .tuple #[.int .u64 (X : Int), .agg #[.bool C, .bool (X == 0), .bool (WM.top k.toNat X), .bool O, .bool (WM.par X)], .int .i64 0]) (by simp [results, Try.results28, go_sem, r0, r1, r2, r3, r4]) rfl ⟨rfl, ?_⟩
  have hb0 : Below w.heap.size w w2 := ((((Below.refl w.heap.size w).alloc (Nat.le_refl _) _).alloc (by simp) _).trans (hb1.mono (by simp; omega))).trans ((below_drewN (Below.refl _ w1) nq).trans (hb2.mono (by show _ ≤ w1.heap.size; omega)))
  exact ((((hb0.setCell (by simp) _).setCell (by simp) _).setCell (by simp) _).setCell (by simp) _).setCell (by simp) _
set_option maxHeartbeats 800000 in
/-- Do, of an operation in the table: X, C, O: what the table's function answers of the low parts. -/
theorem do_core60 (op : Int) (X : Nat) (C O : Bool) (k a b : Int) (c z s o p : Bool) (w : World) (hk : isW k = true) (k0 : 1 ≤ k) (k1 : k ≤ 64) (a0 : 0 ≤ a) (b0 : 0 ≤ b) (hat : fat binT op = some 60) (hX : X < 18446744073709551616)
    (hf : ∀ w, Calls Try.prog 60 #[.int .i64 k, .int .u64 ((WM.low k.toNat a.toNat : Nat) : Int), .int .u64 ((WM.low k.toNat b.toNat : Nat) : Int), .int .u64 ((WM.one c : Nat) : Int)] w fun e w' => e = .returned (.tuple #[.int .u64 (X : Int), .bool C, .bool O]) ∧ w' = w) :
    Calls Try.prog 28 #[.int .i64 op, .int .i64 k, .int .u64 a, .int .u64 b, .agg #[.bool c, .bool z, .bool s, .bool o, .bool p]] w fun e w' => e = .returned (.tuple #[.int .u64 (X : Int), .agg #[.bool C, .bool (X == 0), .bool (WM.top k.toNat X), .bool O, .bool (WM.par X)], .int .i64 0]) ∧ Below w.heap.size w w' := by
  have HF := Lib.hid hf
  clear hf
  go_enter Try.func28, Try.ntmps28
  go_wp2_with fail
  refine (binaries_any _).mono ?_
  rintro e w1 ⟨m, rfl, hm, hmb, hb1⟩
  have hlk := run_look_fmap Try.underlying79 Try.underlying42 bz79 binT hm op
  simp only [fval, hat, Option.isSome_some] at hlk
  have hc1 := fun b' o' => hb1.cell (p := ⟨b', o', none⟩)
  have q0 : w1.cell? ⟨w.heap.size, 0, none⟩ = some (.bool c) := by rw [hc1 _ _ (by simp; omega)]; go_simp
  clear hat hc1
  go_wp2_with (go_at_call 39; refine (isWidth_any _ _).mono ?_; rintro e w' ⟨rfl, rfl⟩)
  have hl1 := WM.low_lt64 (k := k.toNat) a.toNat (by omega)
  have hl2 := WM.low_lt64 (k := k.toNat) b.toNat (by omega)
  have ho := WM.one_le c
  clear hlk
  go_quiet ((first | (go_at_call 40; exact Calls.quiet_of_same ((low_any _ _ _ (by omega) (by omega) (by omega)).mono fun _ _ h => ⟨h.1, h.2.symm⟩)) | (go_at_call 48; exact Calls.quiet_of_same ((oneIf_any _ _).mono fun _ _ h => ⟨h.1, h.2.symm⟩)) | (go_at_call 60; exact Calls.quiet_of_same (HF.out _))))
  go_wp2_with fail
  refine (withAnswer_any _ _ _ _ _ k0 k1 (by omega) (by omega)).mono ?_
  rintro e w2 ⟨rfl, hb2⟩
  have hs : w.heap.size + 1 < w1.heap.size := by have := hb1.size; simp at this; omega
  have hcw : ∀ o' v, ((w.alloc (Obj.cells #[Value.bool c, Value.bool z, Value.bool s, Value.bool o, Value.bool p] 36)).alloc (Obj.cells #[Value.bool false, Value.bool false, Value.bool false, Value.bool false, Value.bool false] 36)).cell? ⟨w.heap.size + 1, o', none⟩ = some v → w2.cell? ⟨w.heap.size + 1, o', none⟩ = some v := fun o' v h => by
    rw [hb2.cell (by simpa using hs)]; show w1.cell? _ = _; rw [hb1.cell (by simp)]; exact h
  have hfw : ∀ o', w2.frozen? ⟨w.heap.size + 1, o', none⟩ = false := fun o' => by
    rw [hb2.frozen (by simpa using hs)]; show w1.frozen? _ = _; rw [hb1.frozen (by simp)]; go_simp
  have r0 := hcw 0 (.bool false) (by go_simp)
  have r1 := hcw 1 (.bool false) (by go_simp)
  have r2 := hcw 2 (.bool false) (by go_simp)
  have r3 := hcw 3 (.bool false) (by go_simp)
  have r4 := hcw 4 (.bool false) (by go_simp)
  clear hcw hmb hm q0
  go_wp2_with fail
  refine bodyPost_ret (v := .tuple #[.int .u64 (X : Int), .agg #[.bool C, .bool (X == 0), .bool (WM.top k.toNat X), .bool O, .bool (WM.par X)], .int .i64 0]) (by simp [results, Try.results28, go_sem, r0, r1, r2, r3, r4]) rfl ⟨rfl, ?_⟩
  have hb0 : Below w.heap.size w w2 := ((((Below.refl w.heap.size w).alloc (Nat.le_refl _) _).alloc (by simp) _).trans (hb1.mono (by simp; omega))).trans ((below_drewN (Below.refl _ w1) nq).trans (hb2.mono (by show _ ≤ w1.heap.size; omega)))
  exact ((((hb0.setCell (by simp) _).setCell (by simp) _).setCell (by simp) _).setCell (by simp) _).setCell (by simp) _
set_option maxHeartbeats 800000 in
/-- Do, of an operation in the table: X, C, O: what the table's function answers of the low parts. -/
theorem do_core61 (op : Int) (X : Nat) (C O : Bool) (k a b : Int) (c z s o p : Bool) (w : World) (hk : isW k = true) (k0 : 1 ≤ k) (k1 : k ≤ 64) (a0 : 0 ≤ a) (b0 : 0 ≤ b) (hat : fat binT op = some 61) (hX : X < 18446744073709551616)
    (hf : ∀ w, Calls Try.prog 61 #[.int .i64 k, .int .u64 ((WM.low k.toNat a.toNat : Nat) : Int), .int .u64 ((WM.low k.toNat b.toNat : Nat) : Int), .int .u64 ((WM.one c : Nat) : Int)] w fun e w' => e = .returned (.tuple #[.int .u64 (X : Int), .bool C, .bool O]) ∧ w' = w) :
    Calls Try.prog 28 #[.int .i64 op, .int .i64 k, .int .u64 a, .int .u64 b, .agg #[.bool c, .bool z, .bool s, .bool o, .bool p]] w fun e w' => e = .returned (.tuple #[.int .u64 (X : Int), .agg #[.bool C, .bool (X == 0), .bool (WM.top k.toNat X), .bool O, .bool (WM.par X)], .int .i64 0]) ∧ Below w.heap.size w w' := by
  have HF := Lib.hid hf
  clear hf
  go_enter Try.func28, Try.ntmps28
  go_wp2_with fail
  refine (binaries_any _).mono ?_
  rintro e w1 ⟨m, rfl, hm, hmb, hb1⟩
  have hlk := run_look_fmap Try.underlying79 Try.underlying42 bz79 binT hm op
  simp only [fval, hat, Option.isSome_some] at hlk
  have hc1 := fun b' o' => hb1.cell (p := ⟨b', o', none⟩)
  have q0 : w1.cell? ⟨w.heap.size, 0, none⟩ = some (.bool c) := by rw [hc1 _ _ (by simp; omega)]; go_simp
  clear hat hc1
  go_wp2_with (go_at_call 39; refine (isWidth_any _ _).mono ?_; rintro e w' ⟨rfl, rfl⟩)
  have hl1 := WM.low_lt64 (k := k.toNat) a.toNat (by omega)
  have hl2 := WM.low_lt64 (k := k.toNat) b.toNat (by omega)
  have ho := WM.one_le c
  clear hlk
  go_quiet ((first | (go_at_call 40; exact Calls.quiet_of_same ((low_any _ _ _ (by omega) (by omega) (by omega)).mono fun _ _ h => ⟨h.1, h.2.symm⟩)) | (go_at_call 48; exact Calls.quiet_of_same ((oneIf_any _ _).mono fun _ _ h => ⟨h.1, h.2.symm⟩)) | (go_at_call 61; exact Calls.quiet_of_same (HF.out _))))
  go_wp2_with fail
  refine (withAnswer_any _ _ _ _ _ k0 k1 (by omega) (by omega)).mono ?_
  rintro e w2 ⟨rfl, hb2⟩
  have hs : w.heap.size + 1 < w1.heap.size := by have := hb1.size; simp at this; omega
  have hcw : ∀ o' v, ((w.alloc (Obj.cells #[Value.bool c, Value.bool z, Value.bool s, Value.bool o, Value.bool p] 36)).alloc (Obj.cells #[Value.bool false, Value.bool false, Value.bool false, Value.bool false, Value.bool false] 36)).cell? ⟨w.heap.size + 1, o', none⟩ = some v → w2.cell? ⟨w.heap.size + 1, o', none⟩ = some v := fun o' v h => by
    rw [hb2.cell (by simpa using hs)]; show w1.cell? _ = _; rw [hb1.cell (by simp)]; exact h
  have hfw : ∀ o', w2.frozen? ⟨w.heap.size + 1, o', none⟩ = false := fun o' => by
    rw [hb2.frozen (by simpa using hs)]; show w1.frozen? _ = _; rw [hb1.frozen (by simp)]; go_simp
  have r0 := hcw 0 (.bool false) (by go_simp)
  have r1 := hcw 1 (.bool false) (by go_simp)
  have r2 := hcw 2 (.bool false) (by go_simp)
  have r3 := hcw 3 (.bool false) (by go_simp)
  have r4 := hcw 4 (.bool false) (by go_simp)
  clear hcw hmb hm q0
  go_wp2_with fail
  refine bodyPost_ret (v := .tuple #[.int .u64 (X : Int), .agg #[.bool C, .bool (X == 0), .bool (WM.top k.toNat X), .bool O, .bool (WM.par X)], .int .i64 0]) (by simp [results, Try.results28, go_sem, r0, r1, r2, r3, r4]) rfl ⟨rfl, ?_⟩
  have hb0 : Below w.heap.size w w2 := ((((Below.refl w.heap.size w).alloc (Nat.le_refl _) _).alloc (by simp) _).trans (hb1.mono (by simp; omega))).trans ((below_drewN (Below.refl _ w1) nq).trans (hb2.mono (by show _ ≤ w1.heap.size; omega)))
  exact ((((hb0.setCell (by simp) _).setCell (by simp) _).setCell (by simp) _).setCell (by simp) _).setCell (by simp) _
set_option maxHeartbeats 800000 in
/-- Do, of an operation in the table: X, C, O: what the table's function answers of the low parts. -/
theorem do_core62 (op : Int) (X : Nat) (C O : Bool) (k a b : Int) (c z s o p : Bool) (w : World) (hk : isW k = true) (k0 : 1 ≤ k) (k1 : k ≤ 64) (a0 : 0 ≤ a) (b0 : 0 ≤ b) (hat : fat binT op = some 62) (hX : X < 18446744073709551616)
    (hf : ∀ w, Calls Try.prog 62 #[.int .i64 k, .int .u64 ((WM.low k.toNat a.toNat : Nat) : Int), .int .u64 ((WM.low k.toNat b.toNat : Nat) : Int), .int .u64 ((WM.one c : Nat) : Int)] w fun e w' => e = .returned (.tuple #[.int .u64 (X : Int), .bool C, .bool O]) ∧ w' = w) :
    Calls Try.prog 28 #[.int .i64 op, .int .i64 k, .int .u64 a, .int .u64 b, .agg #[.bool c, .bool z, .bool s, .bool o, .bool p]] w fun e w' => e = .returned (.tuple #[.int .u64 (X : Int), .agg #[.bool C, .bool (X == 0), .bool (WM.top k.toNat X), .bool O, .bool (WM.par X)], .int .i64 0]) ∧ Below w.heap.size w w' := by
  have HF := Lib.hid hf
  clear hf
  go_enter Try.func28, Try.ntmps28
  go_wp2_with fail
  refine (binaries_any _).mono ?_
  rintro e w1 ⟨m, rfl, hm, hmb, hb1⟩
  have hlk := run_look_fmap Try.underlying79 Try.underlying42 bz79 binT hm op
  simp only [fval, hat, Option.isSome_some] at hlk
  have hc1 := fun b' o' => hb1.cell (p := ⟨b', o', none⟩)
  have q0 : w1.cell? ⟨w.heap.size, 0, none⟩ = some (.bool c) := by rw [hc1 _ _ (by simp; omega)]; go_simp
  clear hat hc1
  go_wp2_with (go_at_call 39; refine (isWidth_any _ _).mono ?_; rintro e w' ⟨rfl, rfl⟩)
  have hl1 := WM.low_lt64 (k := k.toNat) a.toNat (by omega)
  have hl2 := WM.low_lt64 (k := k.toNat) b.toNat (by omega)
  have ho := WM.one_le c
  clear hlk
  go_quiet ((first | (go_at_call 40; exact Calls.quiet_of_same ((low_any _ _ _ (by omega) (by omega) (by omega)).mono fun _ _ h => ⟨h.1, h.2.symm⟩)) | (go_at_call 48; exact Calls.quiet_of_same ((oneIf_any _ _).mono fun _ _ h => ⟨h.1, h.2.symm⟩)) | (go_at_call 62; exact Calls.quiet_of_same (HF.out _))))
  go_wp2_with fail
  refine (withAnswer_any _ _ _ _ _ k0 k1 (by omega) (by omega)).mono ?_
  rintro e w2 ⟨rfl, hb2⟩
  have hs : w.heap.size + 1 < w1.heap.size := by have := hb1.size; simp at this; omega
  have hcw : ∀ o' v, ((w.alloc (Obj.cells #[Value.bool c, Value.bool z, Value.bool s, Value.bool o, Value.bool p] 36)).alloc (Obj.cells #[Value.bool false, Value.bool false, Value.bool false, Value.bool false, Value.bool false] 36)).cell? ⟨w.heap.size + 1, o', none⟩ = some v → w2.cell? ⟨w.heap.size + 1, o', none⟩ = some v := fun o' v h => by
    rw [hb2.cell (by simpa using hs)]; show w1.cell? _ = _; rw [hb1.cell (by simp)]; exact h
  have hfw : ∀ o', w2.frozen? ⟨w.heap.size + 1, o', none⟩ = false := fun o' => by
    rw [hb2.frozen (by simpa using hs)]; show w1.frozen? _ = _; rw [hb1.frozen (by simp)]; go_simp
  have r0 := hcw 0 (.bool false) (by go_simp)
  have r1 := hcw 1 (.bool false) (by go_simp)
  have r2 := hcw 2 (.bool false) (by go_simp)
  have r3 := hcw 3 (.bool false) (by go_simp)
  have r4 := hcw 4 (.bool false) (by go_simp)
  clear hcw hmb hm q0
  go_wp2_with fail
  refine bodyPost_ret (v := .tuple #[.int .u64 (X : Int), .agg #[.bool C, .bool (X == 0), .bool (WM.top k.toNat X), .bool O, .bool (WM.par X)], .int .i64 0]) (by simp [results, Try.results28, go_sem, r0, r1, r2, r3, r4]) rfl ⟨rfl, ?_⟩
  have hb0 : Below w.heap.size w w2 := ((((Below.refl w.heap.size w).alloc (Nat.le_refl _) _).alloc (by simp) _).trans (hb1.mono (by simp; omega))).trans ((below_drewN (Below.refl _ w1) nq).trans (hb2.mono (by show _ ≤ w1.heap.size; omega)))
  exact ((((hb0.setCell (by simp) _).setCell (by simp) _).setCell (by simp) _).setCell (by simp) _).setCell (by simp) _
set_option maxHeartbeats 800000 in
/-- Do, of an operation in the table: X, C, O: what the table's function answers of the low parts. -/
theorem do_core63 (op : Int) (X : Nat) (C O : Bool) (k a b : Int) (c z s o p : Bool) (w : World) (hk : isW k = true) (k0 : 1 ≤ k) (k1 : k ≤ 64) (a0 : 0 ≤ a) (b0 : 0 ≤ b) (hat : fat binT op = some 63) (hX : X < 18446744073709551616)
    (hf : ∀ w, Calls Try.prog 63 #[.int .i64 k, .int .u64 ((WM.low k.toNat a.toNat : Nat) : Int), .int .u64 ((WM.low k.toNat b.toNat : Nat) : Int), .int .u64 ((WM.one c : Nat) : Int)] w fun e w' => e = .returned (.tuple #[.int .u64 (X : Int), .bool C, .bool O]) ∧ w' = w) :
    Calls Try.prog 28 #[.int .i64 op, .int .i64 k, .int .u64 a, .int .u64 b, .agg #[.bool c, .bool z, .bool s, .bool o, .bool p]] w fun e w' => e = .returned (.tuple #[.int .u64 (X : Int), .agg #[.bool C, .bool (X == 0), .bool (WM.top k.toNat X), .bool O, .bool (WM.par X)], .int .i64 0]) ∧ Below w.heap.size w w' := by
  have HF := Lib.hid hf
  clear hf
  go_enter Try.func28, Try.ntmps28
  go_wp2_with fail
  refine (binaries_any _).mono ?_
  rintro e w1 ⟨m, rfl, hm, hmb, hb1⟩
  have hlk := run_look_fmap Try.underlying79 Try.underlying42 bz79 binT hm op
  simp only [fval, hat, Option.isSome_some] at hlk
  have hc1 := fun b' o' => hb1.cell (p := ⟨b', o', none⟩)
  have q0 : w1.cell? ⟨w.heap.size, 0, none⟩ = some (.bool c) := by rw [hc1 _ _ (by simp; omega)]; go_simp
  clear hat hc1
  go_wp2_with (go_at_call 39; refine (isWidth_any _ _).mono ?_; rintro e w' ⟨rfl, rfl⟩)
  have hl1 := WM.low_lt64 (k := k.toNat) a.toNat (by omega)
  have hl2 := WM.low_lt64 (k := k.toNat) b.toNat (by omega)
  have ho := WM.one_le c
  clear hlk
  go_quiet ((first | (go_at_call 40; exact Calls.quiet_of_same ((low_any _ _ _ (by omega) (by omega) (by omega)).mono fun _ _ h => ⟨h.1, h.2.symm⟩)) | (go_at_call 48; exact Calls.quiet_of_same ((oneIf_any _ _).mono fun _ _ h => ⟨h.1, h.2.symm⟩)) | (go_at_call 63; exact Calls.quiet_of_same (HF.out _))))
  go_wp2_with fail
  refine (withAnswer_any _ _ _ _ _ k0 k1 (by omega) (by omega)).mono ?_
  rintro e w2 ⟨rfl, hb2⟩
  have hs : w.heap.size + 1 < w1.heap.size := by have := hb1.size; simp at this; omega
  have hcw : ∀ o' v, ((w.alloc (Obj.cells #[Value.bool c, Value.bool z, Value.bool s, Value.bool o, Value.bool p] 36)).alloc (Obj.cells #[Value.bool false, Value.bool false, Value.bool false, Value.bool false, Value.bool false] 36)).cell? ⟨w.heap.size + 1, o', none⟩ = some v → w2.cell? ⟨w.heap.size + 1, o', none⟩ = some v := fun o' v h => by
    rw [hb2.cell (by simpa using hs)]; show w1.cell? _ = _; rw [hb1.cell (by simp)]; exact h
  have hfw : ∀ o', w2.frozen? ⟨w.heap.size + 1, o', none⟩ = false := fun o' => by
    rw [hb2.frozen (by simpa using hs)]; show w1.frozen? _ = _; rw [hb1.frozen (by simp)]; go_simp
  have r0 := hcw 0 (.bool false) (by go_simp)
  have r1 := hcw 1 (.bool false) (by go_simp)
  have r2 := hcw 2 (.bool false) (by go_simp)
  have r3 := hcw 3 (.bool false) (by go_simp)
  have r4 := hcw 4 (.bool false) (by go_simp)
  clear hcw hmb hm q0
  go_wp2_with fail
  refine bodyPost_ret (v := .tuple #[.int .u64 (X : Int), .agg #[.bool C, .bool (X == 0), .bool (WM.top k.toNat X), .bool O, .bool (WM.par X)], .int .i64 0]) (by simp [results, Try.results28, go_sem, r0, r1, r2, r3, r4]) rfl ⟨rfl, ?_⟩
  have hb0 : Below w.heap.size w w2 := ((((Below.refl w.heap.size w).alloc (Nat.le_refl _) _).alloc (by simp) _).trans (hb1.mono (by simp; omega))).trans ((below_drewN (Below.refl _ w1) nq).trans (hb2.mono (by show _ ≤ w1.heap.size; omega)))
  exact ((((hb0.setCell (by simp) _).setCell (by simp) _).setCell (by simp) _).setCell (by simp) _).setCell (by simp) _
set_option maxHeartbeats 800000 in
/-- Do, of an operation in the table: X, C, O: what the table's function answers of the low parts. -/
theorem do_core64 (op : Int) (X : Nat) (C O : Bool) (k a b : Int) (c z s o p : Bool) (w : World) (hk : isW k = true) (k0 : 1 ≤ k) (k1 : k ≤ 64) (a0 : 0 ≤ a) (b0 : 0 ≤ b) (hat : fat binT op = some 64) (hX : X < 18446744073709551616)
    (hf : ∀ w, Calls Try.prog 64 #[.int .i64 k, .int .u64 ((WM.low k.toNat a.toNat : Nat) : Int), .int .u64 ((WM.low k.toNat b.toNat : Nat) : Int), .int .u64 ((WM.one c : Nat) : Int)] w fun e w' => e = .returned (.tuple #[.int .u64 (X : Int), .bool C, .bool O]) ∧ w' = w) :
    Calls Try.prog 28 #[.int .i64 op, .int .i64 k, .int .u64 a, .int .u64 b, .agg #[.bool c, .bool z, .bool s, .bool o, .bool p]] w fun e w' => e = .returned (.tuple #[.int .u64 (X : Int), .agg #[.bool C, .bool (X == 0), .bool (WM.top k.toNat X), .bool O, .bool (WM.par X)], .int .i64 0]) ∧ Below w.heap.size w w' := by
  have HF := Lib.hid hf
  clear hf
  go_enter Try.func28, Try.ntmps28
  go_wp2_with fail
  refine (binaries_any _).mono ?_
  rintro e w1 ⟨m, rfl, hm, hmb, hb1⟩
  have hlk := run_look_fmap Try.underlying79 Try.underlying42 bz79 binT hm op
  simp only [fval, hat, Option.isSome_some] at hlk
  have hc1 := fun b' o' => hb1.cell (p := ⟨b', o', none⟩)
  have q0 : w1.cell? ⟨w.heap.size, 0, none⟩ = some (.bool c) := by rw [hc1 _ _ (by simp; omega)]; go_simp
  clear hat hc1
  go_wp2_with (go_at_call 39; refine (isWidth_any _ _).mono ?_; rintro e w' ⟨rfl, rfl⟩)
  have hl1 := WM.low_lt64 (k := k.toNat) a.toNat (by omega)
  have hl2 := WM.low_lt64 (k := k.toNat) b.toNat (by omega)
  have ho := WM.one_le c
  clear hlk
  go_quiet ((first | (go_at_call 40; exact Calls.quiet_of_same ((low_any _ _ _ (by omega) (by omega) (by omega)).mono fun _ _ h => ⟨h.1, h.2.symm⟩)) | (go_at_call 48; exact Calls.quiet_of_same ((oneIf_any _ _).mono fun _ _ h => ⟨h.1, h.2.symm⟩)) | (go_at_call 64; exact Calls.quiet_of_same (HF.out _))))
  go_wp2_with fail
  refine (withAnswer_any _ _ _ _ _ k0 k1 (by omega) (by omega)).mono ?_
  rintro e w2 ⟨rfl, hb2⟩
  have hs : w.heap.size + 1 < w1.heap.size := by have := hb1.size; simp at this; omega
  have hcw : ∀ o' v, ((w.alloc (Obj.cells #[Value.bool c, Value.bool z, Value.bool s, Value.bool o, Value.bool p] 36)).alloc (Obj.cells #[Value.bool false, Value.bool false, Value.bool false, Value.bool false, Value.bool false] 36)).cell? ⟨w.heap.size + 1, o', none⟩ = some v → w2.cell? ⟨w.heap.size + 1, o', none⟩ = some v := fun o' v h => by
    rw [hb2.cell (by simpa using hs)]; show w1.cell? _ = _; rw [hb1.cell (by simp)]; exact h
  have hfw : ∀ o', w2.frozen? ⟨w.heap.size + 1, o', none⟩ = false := fun o' => by
    rw [hb2.frozen (by simpa using hs)]; show w1.frozen? _ = _; rw [hb1.frozen (by simp)]; go_simp
  have r0 := hcw 0 (.bool false) (by go_simp)
  have r1 := hcw 1 (.bool false) (by go_simp)
  have r2 := hcw 2 (.bool false) (by go_simp)
  have r3 := hcw 3 (.bool false) (by go_simp)
  have r4 := hcw 4 (.bool false) (by go_simp)
  clear hcw hmb hm q0
  go_wp2_with fail
  refine bodyPost_ret (v := .tuple #[.int .u64 (X : Int), .agg #[.bool C, .bool (X == 0), .bool (WM.top k.toNat X), .bool O, .bool (WM.par X)], .int .i64 0]) (by simp [results, Try.results28, go_sem, r0, r1, r2, r3, r4]) rfl ⟨rfl, ?_⟩
  have hb0 : Below w.heap.size w w2 := ((((Below.refl w.heap.size w).alloc (Nat.le_refl _) _).alloc (by simp) _).trans (hb1.mono (by simp; omega))).trans ((below_drewN (Below.refl _ w1) nq).trans (hb2.mono (by show _ ≤ w1.heap.size; omega)))
  exact ((((hb0.setCell (by simp) _).setCell (by simp) _).setCell (by simp) _).setCell (by simp) _).setCell (by simp) _
set_option maxHeartbeats 800000 in
/-- Do, of an operation in the table: X, C, O: what the table's function answers of the low parts. -/
theorem do_core65 (op : Int) (X : Nat) (C O : Bool) (k a b : Int) (c z s o p : Bool) (w : World) (hk : isW k = true) (k0 : 1 ≤ k) (k1 : k ≤ 64) (a0 : 0 ≤ a) (b0 : 0 ≤ b) (hat : fat binT op = some 65) (hX : X < 18446744073709551616)
    (hf : ∀ w, Calls Try.prog 65 #[.int .i64 k, .int .u64 ((WM.low k.toNat a.toNat : Nat) : Int), .int .u64 ((WM.low k.toNat b.toNat : Nat) : Int), .int .u64 ((WM.one c : Nat) : Int)] w fun e w' => e = .returned (.tuple #[.int .u64 (X : Int), .bool C, .bool O]) ∧ w' = w) :
    Calls Try.prog 28 #[.int .i64 op, .int .i64 k, .int .u64 a, .int .u64 b, .agg #[.bool c, .bool z, .bool s, .bool o, .bool p]] w fun e w' => e = .returned (.tuple #[.int .u64 (X : Int), .agg #[.bool C, .bool (X == 0), .bool (WM.top k.toNat X), .bool O, .bool (WM.par X)], .int .i64 0]) ∧ Below w.heap.size w w' := by
  have HF := Lib.hid hf
  clear hf
  go_enter Try.func28, Try.ntmps28
  go_wp2_with fail
  refine (binaries_any _).mono ?_
  rintro e w1 ⟨m, rfl, hm, hmb, hb1⟩
  have hlk := run_look_fmap Try.underlying79 Try.underlying42 bz79 binT hm op
  simp only [fval, hat, Option.isSome_some] at hlk
  have hc1 := fun b' o' => hb1.cell (p := ⟨b', o', none⟩)
  have q0 : w1.cell? ⟨w.heap.size, 0, none⟩ = some (.bool c) := by rw [hc1 _ _ (by simp; omega)]; go_simp
  clear hat hc1
  go_wp2_with (go_at_call 39; refine (isWidth_any _ _).mono ?_; rintro e w' ⟨rfl, rfl⟩)
  have hl1 := WM.low_lt64 (k := k.toNat) a.toNat (by omega)
  have hl2 := WM.low_lt64 (k := k.toNat) b.toNat (by omega)
  have ho := WM.one_le c
  clear hlk
  go_quiet ((first | (go_at_call 40; exact Calls.quiet_of_same ((low_any _ _ _ (by omega) (by omega) (by omega)).mono fun _ _ h => ⟨h.1, h.2.symm⟩)) | (go_at_call 48; exact Calls.quiet_of_same ((oneIf_any _ _).mono fun _ _ h => ⟨h.1, h.2.symm⟩)) | (go_at_call 65; exact Calls.quiet_of_same (HF.out _))))
  go_wp2_with fail
  refine (withAnswer_any _ _ _ _ _ k0 k1 (by omega) (by omega)).mono ?_
  rintro e w2 ⟨rfl, hb2⟩
  have hs : w.heap.size + 1 < w1.heap.size := by have := hb1.size; simp at this; omega
  have hcw : ∀ o' v, ((w.alloc (Obj.cells #[Value.bool c, Value.bool z, Value.bool s, Value.bool o, Value.bool p] 36)).alloc (Obj.cells #[Value.bool false, Value.bool false, Value.bool false, Value.bool false, Value.bool false] 36)).cell? ⟨w.heap.size + 1, o', none⟩ = some v → w2.cell? ⟨w.heap.size + 1, o', none⟩ = some v := fun o' v h => by
    rw [hb2.cell (by simpa using hs)]; show w1.cell? _ = _; rw [hb1.cell (by simp)]; exact h
  have hfw : ∀ o', w2.frozen? ⟨w.heap.size + 1, o', none⟩ = false := fun o' => by
    rw [hb2.frozen (by simpa using hs)]; show w1.frozen? _ = _; rw [hb1.frozen (by simp)]; go_simp
  have r0 := hcw 0 (.bool false) (by go_simp)
  have r1 := hcw 1 (.bool false) (by go_simp)
  have r2 := hcw 2 (.bool false) (by go_simp)
  have r3 := hcw 3 (.bool false) (by go_simp)
  have r4 := hcw 4 (.bool false) (by go_simp)
  clear hcw hmb hm q0
  go_wp2_with fail
  refine bodyPost_ret (v := .tuple #[.int .u64 (X : Int), .agg #[.bool C, .bool (X == 0), .bool (WM.top k.toNat X), .bool O, .bool (WM.par X)], .int .i64 0]) (by simp [results, Try.results28, go_sem, r0, r1, r2, r3, r4]) rfl ⟨rfl, ?_⟩
  have hb0 : Below w.heap.size w w2 := ((((Below.refl w.heap.size w).alloc (Nat.le_refl _) _).alloc (by simp) _).trans (hb1.mono (by simp; omega))).trans ((below_drewN (Below.refl _ w1) nq).trans (hb2.mono (by show _ ≤ w1.heap.size; omega)))
  exact ((((hb0.setCell (by simp) _).setCell (by simp) _).setCell (by simp) _).setCell (by simp) _).setCell (by simp) _
theorem isW_le {k : Int} (h : isW k = true) : 8 ≤ k ∧ k ≤ 64 := by
  unfold isW at h; simp at h; omega
theorem fat_binT (op : Int) : (∃ f, fat binT op = some f) ↔ (1 ≤ op ∧ op ≤ 8) := by
  constructor
  · rintro ⟨f, hf⟩
    by_cases h1 : op = 1; · omega
    by_cases h2 : op = 2; · omega
    by_cases h3 : op = 3; · omega
    by_cases h4 : op = 4; · omega
    by_cases h5 : op = 5; · omega
    by_cases h6 : op = 6; · omega
    by_cases h7 : op = 7; · omega
    by_cases h8 : op = 8; · omega
    simp [fat, binT, *] at hf
  · rintro ⟨h1, h2⟩
    have : op = 1 ∨ op = 2 ∨ op = 3 ∨ op = 4 ∨ op = 5 ∨ op = 6 ∨ op = 7 ∨ op = 8 := by omega
    rcases this with rfl | rfl | rfl | rfl | rfl | rfl | rfl | rfl
    all_goals exact ⟨_, rfl⟩
theorem binOk_at {f op : Nat} (h : BinOk f op) (k a b : Int) (c : Bool) (k0 : 1 ≤ k) (k1 : k ≤ 64) (w : World) :
    Calls Try.prog f #[.int .i64 k, .int .u64 ((WM.low k.toNat a.toNat : Nat) : Int), .int .u64 ((WM.low k.toNat b.toNat : Nat) : Int), .int .u64 ((WM.one c : Nat) : Int)] w fun e w' => e = .returned (.tuple #[.int .u64 ((WM.doX op k.toNat a.toNat b.toNat c : Nat) : Int), .bool (WM.doF op k.toNat a.toNat b.toNat c).c, .bool (WM.doF op k.toNat a.toNat b.toNat c).o]) ∧ w' = w := by
  have hl1 := WM.low_lt64 (k := k.toNat) a.toNat (by omega)
  have hl2 := WM.low_lt64 (k := k.toNat) b.toNat (by omega)
  have ho := WM.one_le c
  refine (h k _ _ _ w k0 k1 (by omega) (by omega) (by omega) (by omega) (by omega) (by omega)).mono fun e w' he => ⟨?_, he.2.symm⟩
  rw [he.1]
  simp only [Int.toNat_natCast, WM.doX_def, WM.doF]
/-- DO, OF A WIDTH AND AN OPERATION THAT ARE. -/
theorem do_any (op k a b : Int) (c z s o p : Bool) (w : World) (hk : isW k = true) (h1 : 1 ≤ op) (h8 : op ≤ 8) (a0 : 0 ≤ a) (b0 : 0 ≤ b) :
    Calls Try.prog 28 #[.int .i64 op, .int .i64 k, .int .u64 a, .int .u64 b, .agg #[.bool c, .bool z, .bool s, .bool o, .bool p]] w fun e w' => e = .returned (.tuple #[.int .u64 ((WM.doX op.toNat k.toNat a.toNat b.toNat c : Nat) : Int), .agg #[.bool (WM.doF op.toNat k.toNat a.toNat b.toNat c).c, .bool (WM.doF op.toNat k.toNat a.toNat b.toNat c).z, .bool (WM.doF op.toNat k.toNat a.toNat b.toNat c).s, .bool (WM.doF op.toNat k.toNat a.toNat b.toNat c).o, .bool (WM.doF op.toNat k.toNat a.toNat b.toNat c).p], .int .i64 0]) ∧ Below w.heap.size w w' := by
  have hw := isW_le hk
  have k0 : 1 ≤ k := by omega
  have : op = 1 ∨ op = 2 ∨ op = 3 ∨ op = 4 ∨ op = 5 ∨ op = 6 ∨ op = 7 ∨ op = 8 := by omega
  rcases this with rfl | rfl | rfl | rfl | rfl | rfl | rfl | rfl
  · exact do_core58 1 _ _ _ k a b c z s o p w hk k0 hw.2 a0 b0 rfl (WM.doX_lt64 _ _ _ _ _ (by omega)) (binOk_at bin1_any k a b c k0 hw.2)
  · exact do_core59 2 _ _ _ k a b c z s o p w hk k0 hw.2 a0 b0 rfl (WM.doX_lt64 _ _ _ _ _ (by omega)) (binOk_at bin2_any k a b c k0 hw.2)
  · exact do_core60 3 _ _ _ k a b c z s o p w hk k0 hw.2 a0 b0 rfl (WM.doX_lt64 _ _ _ _ _ (by omega)) (binOk_at bin3_any k a b c k0 hw.2)
  · exact do_core61 4 _ _ _ k a b c z s o p w hk k0 hw.2 a0 b0 rfl (WM.doX_lt64 _ _ _ _ _ (by omega)) (binOk_at bin4_any k a b c k0 hw.2)
  · exact do_core62 5 _ _ _ k a b c z s o p w hk k0 hw.2 a0 b0 rfl (WM.doX_lt64 _ _ _ _ _ (by omega)) (binOk_at bin5_any k a b c k0 hw.2)
  · exact do_core63 6 _ _ _ k a b c z s o p w hk k0 hw.2 a0 b0 rfl (WM.doX_lt64 _ _ _ _ _ (by omega)) (binOk_at bin6_any k a b c k0 hw.2)
  · exact do_core64 7 _ _ _ k a b c z s o p w hk k0 hw.2 a0 b0 rfl (WM.doX_lt64 _ _ _ _ _ (by omega)) (binOk_at bin7_any k a b c k0 hw.2)
  · exact do_core65 8 _ _ _ k a b c z s o p w hk k0 hw.2 a0 b0 rfl (WM.doX_lt64 _ _ _ _ _ (by omega)) (binOk_at bin8_any k a b c k0 hw.2)
set_option maxHeartbeats 800000 in
/-- DO, REFUSED. -/
theorem do_bad (op k a b : Int) (c z s o p : Bool) (w : World) (hk : isW k = false ∨ op < 1 ∨ 8 < op) :
    Calls Try.prog 28 #[.int .i64 op, .int .i64 k, .int .u64 a, .int .u64 b, .agg #[.bool c, .bool z, .bool s, .bool o, .bool p]] w fun e w' => e = .returned (.tuple #[.int .u64 0, .agg #[.bool false, .bool false, .bool false, .bool false, .bool false], .int .i64 2]) ∧ Below w.heap.size w w' := by
  cases hat : fat binT op with
  | none =>
    clear hk
    go_enter Try.func28, Try.ntmps28
    go_wp2_with fail
    refine (binaries_any _).mono ?_
    rintro e w1 ⟨m, rfl, hm, hmb, hb1⟩
    have hlk := run_look_fmap Try.underlying79 Try.underlying42 bz79 binT hm op
    simp only [fval, hat, Option.isSome_none] at hlk
    have hs : w.heap.size + 1 < w1.heap.size := by have := hb1.size; simp at this; omega
    have hcw : ∀ o' v, ((w.alloc (Obj.cells #[Value.bool c, Value.bool z, Value.bool s, Value.bool o, Value.bool p] 36)).alloc (Obj.cells #[Value.bool false, Value.bool false, Value.bool false, Value.bool false, Value.bool false] 36)).cell? ⟨w.heap.size + 1, o', none⟩ = some v → w1.cell? ⟨w.heap.size + 1, o', none⟩ = some v := fun o' v h => by
      rw [hb1.cell (by simp)]; exact h
    have hfw : ∀ o', w1.frozen? ⟨w.heap.size + 1, o', none⟩ = false := fun o' => by rw [hb1.frozen (by simp)]; go_simp
    have r0 := hcw 0 (.bool false) (by go_simp)
    have r1 := hcw 1 (.bool false) (by go_simp)
    have r2 := hcw 2 (.bool false) (by go_simp)
    have r3 := hcw 3 (.bool false) (by go_simp)
    have r4 := hcw 4 (.bool false) (by go_simp)
    clear hcw hmb hm hat
    go_wp2_with fail
    refine bodyPost_ret (v := .tuple #[.int .u64 0, .agg #[.bool false, .bool false, .bool false, .bool false, .bool false], .int .i64 2]) (by simp [results, Try.results28, go_sem, r0, r1, r2, r3, r4]) rfl ⟨rfl, ?_⟩
    have hb0 : Below w.heap.size w w1 := (((Below.refl w.heap.size w).alloc (Nat.le_refl _) _).alloc (by simp) _).trans (hb1.mono (by simp; omega))
    exact ((((hb0.setCell (by simp) _).setCell (by simp) _).setCell (by simp) _).setCell (by simp) _).setCell (by simp) _
  | some f =>
    have hk' : isW k = false := by
      have := (fat_binT op).1 ⟨f, hat⟩
      rcases hk with h | h | h
      · exact h
      · omega
      · omega
    clear hk
    go_enter Try.func28, Try.ntmps28
    go_wp2_with fail
    refine (binaries_any _).mono ?_
    rintro e w1 ⟨m, rfl, hm, hmb, hb1⟩
    have hlk := run_look_fmap Try.underlying79 Try.underlying42 bz79 binT hm op
    simp only [fval, hat, Option.isSome_some] at hlk
    have hs : w.heap.size + 1 < w1.heap.size := by have := hb1.size; simp at this; omega
    have hcw : ∀ o' v, ((w.alloc (Obj.cells #[Value.bool c, Value.bool z, Value.bool s, Value.bool o, Value.bool p] 36)).alloc (Obj.cells #[Value.bool false, Value.bool false, Value.bool false, Value.bool false, Value.bool false] 36)).cell? ⟨w.heap.size + 1, o', none⟩ = some v → w1.cell? ⟨w.heap.size + 1, o', none⟩ = some v := fun o' v h => by
      rw [hb1.cell (by simp)]; exact h
    have hfw : ∀ o', w1.frozen? ⟨w.heap.size + 1, o', none⟩ = false := fun o' => by rw [hb1.frozen (by simp)]; go_simp
    have r0 := hcw 0 (.bool false) (by go_simp)
    have r1 := hcw 1 (.bool false) (by go_simp)
    have r2 := hcw 2 (.bool false) (by go_simp)
    have r3 := hcw 3 (.bool false) (by go_simp)
    have r4 := hcw 4 (.bool false) (by go_simp)
    clear hcw hmb hm hat
    go_wp2_with (go_at_call 39; refine (isWidth_any _ _).mono ?_; rintro e w' ⟨rfl, rfl⟩)
    refine bodyPost_ret (v := .tuple #[.int .u64 0, .agg #[.bool false, .bool false, .bool false, .bool false, .bool false], .int .i64 2]) (by simp [results, Try.results28, go_sem, r0, r1, r2, r3, r4]) rfl ⟨rfl, ?_⟩
    have hb0 : Below w.heap.size w w1 := (((Below.refl w.heap.size w).alloc (Nat.le_refl _) _).alloc (by simp) _).trans (hb1.mono (by simp; omega))
    exact ((((hb0.setCell (by simp) _).setCell (by simp) _).setCell (by simp) _).setCell (by simp) _).setCell (by simp) _
end Go.Proofs.Ytklepefljdiepaa
