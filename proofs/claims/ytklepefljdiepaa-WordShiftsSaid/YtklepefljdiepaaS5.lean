/- The document's shift. -/
import Derived.Test.YtklepefljdiepaaR9
import Derived.RegionTactic
import Derived.Deep.RegionWith
namespace Go.Proofs.Ytklepefljdiepaa
open Go.RowKit
set_option maxHeartbeats 1600000 in
theorem refShift5t (k a n N L X Y : Nat) (c z s o p B b64 tX tY : Bool) (w : World) (hb : ((k : Int) == 64) = b64) (hN : (if b64 = true then n % 64 else n % 32) = N) (hN1 : 1 ≤ N) (hN2 : N < 64)
    (hX : WM.itX 5 k L N = X) (hB : WM.itB 5 k L N = B) (hg : decide (k < N) = true)
    (CL : ∀ w, Calls Try.prog 24 #[.int .i64 k, .int .u64 a] w fun e w' => e = .returned (.int .u64 (L : Int)) ∧ w = w')
    (CS : ∀ j w, Calls Try.prog 52 #[.int .i64 5, .int .i64 k, .int .u64 ((WM.itX 5 k L j : Nat) : Int)] w fun e w' => e = .returned (.tuple #[.int .u64 ((WM.itX 5 k L (j + 1) : Nat) : Int), .bool (WM.itB 5 k L (j + 1))]) ∧ w = w')
    (CtX : ∀ w, Calls Try.prog 43 #[.int .i64 k, .int .u64 X] w fun e w' => e = .returned (.bool tX) ∧ w = w')
    (CLY : ∀ w, Calls Try.prog 24 #[.int .i64 k, .int .u64 ((X * 2 % 18446744073709551616 : Nat) : Int)] w fun e w' => e = .returned (.int .u64 (Y : Int)) ∧ w = w')
    (CtY : ∀ w, Calls Try.prog 43 #[.int .i64 k, .int .u64 Y] w fun e w' => e = .returned (.bool tY) ∧ w = w') :
    Calls Try.prog 30 #[.int .i64 5, .int .i64 k, .int .u64 a, .int .u64 n, .agg #[.bool c, .bool z, .bool s, .bool o, .bool p]] w fun e w' => e = .returned (.tuple #[.int .u64 (X : Int), .agg #[.bool tX, .bool z, .bool s, .bool (tX != tY), .bool p]]) ∧ Below w.heap.size w w' := by
  have CL' := Lib.hid CL
  have CS' := Lib.hid CS
  have CtX' := Lib.hid CtX
  have CLY' := Lib.hid CLY
  have CtY' := Lib.hid CtY
  have HX := Lib.hid hX
  have HB := Lib.hid hB
  have h0 : ((N : Int) == 0) = false := by rw [beq_eq_false_iff_ne]; omega
  have hN32 : b64 = false → (n : Int) % 32 = (N : Int) := by intro h; rw [h, if_neg (by decide)] at hN; omega
  have hN64 : b64 = true → (n : Int) % 64 = (N : Int) := by intro h; rw [h, if_pos rfl] at hN; omega
  have hw : IntKind.u64.wrap ((X : Int) * 2) = ((X * 2 % 18446744073709551616 : Nat) : Int) := by rw [IntKind.wrap_u64]; omega
  clear CL CS hN hN1 hX hB CtX CLY CtY
  cases b64 with
  | true =>
    have hN' := hN64 rfl
    clear hN32 hN64
    go_enter Try.func30, Try.ntmps30
    go_wp2_with fail
    refine (CL'.out _).mono ?_
    rintro e w' ⟨rfl, rfl⟩
    go_wp2_with fail
    obtain ⟨W, hW⟩ : ∃ W, (w.alloc (Obj.cells #[Value.bool c, Value.bool z, Value.bool s, Value.bool o, Value.bool p] 36)).alloc (Obj.cells #[Value.bool false, Value.bool false, Value.bool false, Value.bool false, Value.bool false] 36) = W := ⟨_, rfl⟩
    have HW : ShW c z s o p w W := hW ▸ shW_of (Below.refl _ _) (by simp)
    rw [hW]
    clear hW
    go_loopw [13, 14, 15] (fun v b i wr => ∃ j : Nat, j ≤ N ∧ i = .int .i64 j ∧ v = .int .u64 ((WM.itX 5 k L j : Nat) : Int) ∧ b = .bool (WM.itB 5 k L j) ∧ W = wr) (fun _ _ i _ => N - (intOf i).toNat)
    case atStart => exact ⟨0, Nat.zero_le _, rfl, rfl, rfl, rfl⟩
    case round =>
      obtain ⟨j, hj, rfl, rfl, rfl, rfl⟩ := hrel
      by_cases hlt : j < N
      · have d1 : decide (j < N) = true := decide_eq_true hlt
        clear HW
        go_wp2_with fail
        refine (CS'.out j _).mono ?_
        rintro e w' ⟨rfl, rfl⟩
        go_wp2_with fail
        exact ⟨⟨j + 1, hlt, by go_num, rfl, rfl, trivial⟩, by simp [intOf]; omega⟩
      · obtain rfl : j = N := by omega
        clear hlt hj
        rw [HX.out, HB.out]
        obtain ⟨hs0, hbel, f0, f1, f2, f3, f4, z0, r0, r1, r2, r3, r4, z1⟩ := HW
        go_wp2_with fail
        refine (CtX'.out _).mono ?_
        rintro e w' ⟨rfl, rfl⟩
        go_wp2_with fail
        refine (CtX'.out _).mono ?_
        rintro e w' ⟨rfl, rfl⟩
        go_wp2_with fail
        refine (CLY'.out _).mono ?_
        rintro e w' ⟨rfl, rfl⟩
        go_wp2_with fail
        refine (CtY'.out _).mono ?_
        rintro e w' ⟨rfl, rfl⟩
        go_wp2_with fail
        go_region
        go_wp2_with fail
        refine bodyPost_ret (v := .tuple #[.int .u64 (X : Int), .agg #[.bool tX, .bool z, .bool s, .bool (tX != tY), .bool p]]) (by simp [results, Try.results30, go_sem, r0, r1, r2, r3, r4]; cases tX <;> cases tY <;> rfl) rfl ⟨rfl, ?_⟩
        repeat (first | with_reducible exact hbel | with_reducible refine Below.setCell ?_ (by simp) _ | with_reducible refine Below.drew ?_)
  | false =>
    have hN' := hN32 rfl
    clear hN32 hN64
    go_enter Try.func30, Try.ntmps30
    go_wp2_with fail
    refine (CL'.out _).mono ?_
    rintro e w' ⟨rfl, rfl⟩
    go_wp2_with fail
    obtain ⟨W, hW⟩ : ∃ W, (w.alloc (Obj.cells #[Value.bool c, Value.bool z, Value.bool s, Value.bool o, Value.bool p] 36)).alloc (Obj.cells #[Value.bool false, Value.bool false, Value.bool false, Value.bool false, Value.bool false] 36) = W := ⟨_, rfl⟩
    have HW : ShW c z s o p w W := hW ▸ shW_of (Below.refl _ _) (by simp)
    rw [hW]
    clear hW
    go_loopw [13, 14, 15] (fun v b i wr => ∃ j : Nat, j ≤ N ∧ i = .int .i64 j ∧ v = .int .u64 ((WM.itX 5 k L j : Nat) : Int) ∧ b = .bool (WM.itB 5 k L j) ∧ W = wr) (fun _ _ i _ => N - (intOf i).toNat)
    case atStart => exact ⟨0, Nat.zero_le _, rfl, rfl, rfl, rfl⟩
    case round =>
      obtain ⟨j, hj, rfl, rfl, rfl, rfl⟩ := hrel
      by_cases hlt : j < N
      · have d1 : decide (j < N) = true := decide_eq_true hlt
        clear HW
        go_wp2_with fail
        refine (CS'.out j _).mono ?_
        rintro e w' ⟨rfl, rfl⟩
        go_wp2_with fail
        exact ⟨⟨j + 1, hlt, by go_num, rfl, rfl, trivial⟩, by simp [intOf]; omega⟩
      · obtain rfl : j = N := by omega
        clear hlt hj
        rw [HX.out, HB.out]
        obtain ⟨hs0, hbel, f0, f1, f2, f3, f4, z0, r0, r1, r2, r3, r4, z1⟩ := HW
        go_wp2_with fail
        refine (CtX'.out _).mono ?_
        rintro e w' ⟨rfl, rfl⟩
        go_wp2_with fail
        refine (CtX'.out _).mono ?_
        rintro e w' ⟨rfl, rfl⟩
        go_wp2_with fail
        refine (CLY'.out _).mono ?_
        rintro e w' ⟨rfl, rfl⟩
        go_wp2_with fail
        refine (CtY'.out _).mono ?_
        rintro e w' ⟨rfl, rfl⟩
        go_wp2_with fail
        go_region
        go_wp2_with fail
        refine bodyPost_ret (v := .tuple #[.int .u64 (X : Int), .agg #[.bool tX, .bool z, .bool s, .bool (tX != tY), .bool p]]) (by simp [results, Try.results30, go_sem, r0, r1, r2, r3, r4]; cases tX <;> cases tY <;> rfl) rfl ⟨rfl, ?_⟩
        repeat (first | with_reducible exact hbel | with_reducible refine Below.setCell ?_ (by simp) _ | with_reducible refine Below.drew ?_)
set_option maxHeartbeats 1600000 in
theorem refShift5f (k a n N L X Y : Nat) (c z s o p B b64 tX tY : Bool) (w : World) (hb : ((k : Int) == 64) = b64) (hN : (if b64 = true then n % 64 else n % 32) = N) (hN1 : 1 ≤ N) (hN2 : N < 64)
    (hX : WM.itX 5 k L N = X) (hB : WM.itB 5 k L N = B) (hg : decide (k < N) = false)
    (CL : ∀ w, Calls Try.prog 24 #[.int .i64 k, .int .u64 a] w fun e w' => e = .returned (.int .u64 (L : Int)) ∧ w = w')
    (CS : ∀ j w, Calls Try.prog 52 #[.int .i64 5, .int .i64 k, .int .u64 ((WM.itX 5 k L j : Nat) : Int)] w fun e w' => e = .returned (.tuple #[.int .u64 ((WM.itX 5 k L (j + 1) : Nat) : Int), .bool (WM.itB 5 k L (j + 1))]) ∧ w = w')
    (CtX : ∀ w, Calls Try.prog 43 #[.int .i64 k, .int .u64 X] w fun e w' => e = .returned (.bool tX) ∧ w = w')
    (CLY : ∀ w, Calls Try.prog 24 #[.int .i64 k, .int .u64 ((X * 2 % 18446744073709551616 : Nat) : Int)] w fun e w' => e = .returned (.int .u64 (Y : Int)) ∧ w = w')
    (CtY : ∀ w, Calls Try.prog 43 #[.int .i64 k, .int .u64 Y] w fun e w' => e = .returned (.bool tY) ∧ w = w') :
    Calls Try.prog 30 #[.int .i64 5, .int .i64 k, .int .u64 a, .int .u64 n, .agg #[.bool c, .bool z, .bool s, .bool o, .bool p]] w fun e w' => e = .returned (.tuple #[.int .u64 (X : Int), .agg #[.bool tX, .bool z, .bool s, .bool (tX != tY), .bool p]]) ∧ Below w.heap.size w w' := by
  have CL' := Lib.hid CL
  have CS' := Lib.hid CS
  have CtX' := Lib.hid CtX
  have CLY' := Lib.hid CLY
  have CtY' := Lib.hid CtY
  have HX := Lib.hid hX
  have HB := Lib.hid hB
  have h0 : ((N : Int) == 0) = false := by rw [beq_eq_false_iff_ne]; omega
  have hN32 : b64 = false → (n : Int) % 32 = (N : Int) := by intro h; rw [h, if_neg (by decide)] at hN; omega
  have hN64 : b64 = true → (n : Int) % 64 = (N : Int) := by intro h; rw [h, if_pos rfl] at hN; omega
  have hw : IntKind.u64.wrap ((X : Int) * 2) = ((X * 2 % 18446744073709551616 : Nat) : Int) := by rw [IntKind.wrap_u64]; omega
  clear CL CS hN hN1 hX hB CtX CLY CtY
  cases b64 with
  | true =>
    have hN' := hN64 rfl
    clear hN32 hN64
    go_enter Try.func30, Try.ntmps30
    go_wp2_with fail
    refine (CL'.out _).mono ?_
    rintro e w' ⟨rfl, rfl⟩
    go_wp2_with fail
    obtain ⟨W, hW⟩ : ∃ W, (w.alloc (Obj.cells #[Value.bool c, Value.bool z, Value.bool s, Value.bool o, Value.bool p] 36)).alloc (Obj.cells #[Value.bool false, Value.bool false, Value.bool false, Value.bool false, Value.bool false] 36) = W := ⟨_, rfl⟩
    have HW : ShW c z s o p w W := hW ▸ shW_of (Below.refl _ _) (by simp)
    rw [hW]
    clear hW
    go_loopw [13, 14, 15] (fun v b i wr => ∃ j : Nat, j ≤ N ∧ i = .int .i64 j ∧ v = .int .u64 ((WM.itX 5 k L j : Nat) : Int) ∧ b = .bool (WM.itB 5 k L j) ∧ W = wr) (fun _ _ i _ => N - (intOf i).toNat)
    case atStart => exact ⟨0, Nat.zero_le _, rfl, rfl, rfl, rfl⟩
    case round =>
      obtain ⟨j, hj, rfl, rfl, rfl, rfl⟩ := hrel
      by_cases hlt : j < N
      · have d1 : decide (j < N) = true := decide_eq_true hlt
        clear HW
        go_wp2_with fail
        refine (CS'.out j _).mono ?_
        rintro e w' ⟨rfl, rfl⟩
        go_wp2_with fail
        exact ⟨⟨j + 1, hlt, by go_num, rfl, rfl, trivial⟩, by simp [intOf]; omega⟩
      · obtain rfl : j = N := by omega
        clear hlt hj
        rw [HX.out, HB.out]
        obtain ⟨hs0, hbel, f0, f1, f2, f3, f4, z0, r0, r1, r2, r3, r4, z1⟩ := HW
        go_wp2_with fail
        refine (CtX'.out _).mono ?_
        rintro e w' ⟨rfl, rfl⟩
        go_wp2_with fail
        refine (CtX'.out _).mono ?_
        rintro e w' ⟨rfl, rfl⟩
        go_wp2_with fail
        refine (CLY'.out _).mono ?_
        rintro e w' ⟨rfl, rfl⟩
        go_wp2_with fail
        refine (CtY'.out _).mono ?_
        rintro e w' ⟨rfl, rfl⟩
        go_wp2_with fail
        go_region
        go_wp2_with fail
        refine bodyPost_ret (v := .tuple #[.int .u64 (X : Int), .agg #[.bool tX, .bool z, .bool s, .bool (tX != tY), .bool p]]) (by simp [results, Try.results30, go_sem, r0, r1, r2, r3, r4]; cases tX <;> cases tY <;> rfl) rfl ⟨rfl, ?_⟩
        repeat (first | with_reducible exact hbel | with_reducible refine Below.setCell ?_ (by simp) _ | with_reducible refine Below.drew ?_)
  | false =>
    have hN' := hN32 rfl
    clear hN32 hN64
    go_enter Try.func30, Try.ntmps30
    go_wp2_with fail
    refine (CL'.out _).mono ?_
    rintro e w' ⟨rfl, rfl⟩
    go_wp2_with fail
    obtain ⟨W, hW⟩ : ∃ W, (w.alloc (Obj.cells #[Value.bool c, Value.bool z, Value.bool s, Value.bool o, Value.bool p] 36)).alloc (Obj.cells #[Value.bool false, Value.bool false, Value.bool false, Value.bool false, Value.bool false] 36) = W := ⟨_, rfl⟩
    have HW : ShW c z s o p w W := hW ▸ shW_of (Below.refl _ _) (by simp)
    rw [hW]
    clear hW
    go_loopw [13, 14, 15] (fun v b i wr => ∃ j : Nat, j ≤ N ∧ i = .int .i64 j ∧ v = .int .u64 ((WM.itX 5 k L j : Nat) : Int) ∧ b = .bool (WM.itB 5 k L j) ∧ W = wr) (fun _ _ i _ => N - (intOf i).toNat)
    case atStart => exact ⟨0, Nat.zero_le _, rfl, rfl, rfl, rfl⟩
    case round =>
      obtain ⟨j, hj, rfl, rfl, rfl, rfl⟩ := hrel
      by_cases hlt : j < N
      · have d1 : decide (j < N) = true := decide_eq_true hlt
        clear HW
        go_wp2_with fail
        refine (CS'.out j _).mono ?_
        rintro e w' ⟨rfl, rfl⟩
        go_wp2_with fail
        exact ⟨⟨j + 1, hlt, by go_num, rfl, rfl, trivial⟩, by simp [intOf]; omega⟩
      · obtain rfl : j = N := by omega
        clear hlt hj
        rw [HX.out, HB.out]
        obtain ⟨hs0, hbel, f0, f1, f2, f3, f4, z0, r0, r1, r2, r3, r4, z1⟩ := HW
        go_wp2_with fail
        refine (CtX'.out _).mono ?_
        rintro e w' ⟨rfl, rfl⟩
        go_wp2_with fail
        refine (CtX'.out _).mono ?_
        rintro e w' ⟨rfl, rfl⟩
        go_wp2_with fail
        refine (CLY'.out _).mono ?_
        rintro e w' ⟨rfl, rfl⟩
        go_wp2_with fail
        refine (CtY'.out _).mono ?_
        rintro e w' ⟨rfl, rfl⟩
        go_wp2_with fail
        go_region
        go_wp2_with fail
        refine bodyPost_ret (v := .tuple #[.int .u64 (X : Int), .agg #[.bool tX, .bool z, .bool s, .bool (tX != tY), .bool p]]) (by simp [results, Try.results30, go_sem, r0, r1, r2, r3, r4]; cases tX <;> cases tY <;> rfl) rfl ⟨rfl, ?_⟩
        repeat (first | with_reducible exact hbel | with_reducible refine Below.setCell ?_ (by simp) _ | with_reducible refine Below.drew ?_)
end Go.Proofs.Ytklepefljdiepaa
