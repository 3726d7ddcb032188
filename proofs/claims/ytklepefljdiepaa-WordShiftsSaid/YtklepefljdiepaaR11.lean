/- The document's shift, any operation and any count. -/
import Derived.Test.YtklepefljdiepaaR5
import Derived.Test.YtklepefljdiepaaS1
import Derived.Test.YtklepefljdiepaaS2
import Derived.Test.YtklepefljdiepaaS3
import Derived.Test.YtklepefljdiepaaS4
import Derived.Test.YtklepefljdiepaaS5
namespace Go.Proofs.Ytklepefljdiepaa
open Go.RowKit
namespace WM
theorem sf_lt {op k a n : Nat} (f : Fl) (h0 : ¬ counted k n = 0) (h : op < 4) : shiftF op k a n f = ⟨shC op k (low k a) (counted k n), shiftX op k a n == 0, top k (shiftX op k a n), shO op k (low k a) (counted k n), par (shiftX op k a n)⟩ := by
  unfold shiftF; rw [if_neg h0, if_pos h]
theorem sf_ge {op k a n : Nat} (f : Fl) (h0 : ¬ counted k n = 0) (h : ¬ op < 4) : shiftF op k a n f = ⟨shC op k (low k a) (counted k n), f.z, f.s, shO op k (low k a) (counted k n), f.p⟩ := by
  unfold shiftF; rw [if_neg h0, if_neg h]
theorem sx_ne {op k a n : Nat} (h0 : ¬ counted k n = 0) : shiftX op k a n = shX op k (low k a) (counted k n) := by
  unfold shiftX; rw [if_neg h0]
theorem rc_t {op k a n : Nat} (h : k < n) : refC op k a n = (op == 3 && top k a) := by unfold refC; rw [if_pos h]
theorem rc_f {op k a n : Nat} (h : ¬ k < n) : refC op k a n = itB op k a n := by unfold refC; rw [if_neg h]
end WM
set_option maxHeartbeats 800000 in
theorem refShift_zero (op k a n L : Nat) (c z s o p b64 : Bool) (w : World) (hb : ((k : Int) == 64) = b64) (hN : (if b64 = true then n % 64 else n % 32) = 0)
    (CL : ∀ w, Calls Try.prog 24 #[.int .i64 k, .int .u64 a] w fun e w' => e = .returned (.int .u64 (L : Int)) ∧ w = w') :
    Calls Try.prog 30 #[.int .i64 op, .int .i64 k, .int .u64 a, .int .u64 n, .agg #[.bool c, .bool z, .bool s, .bool o, .bool p]] w fun e w' => e = .returned (.tuple #[.int .u64 (L : Int), .agg #[.bool c, .bool z, .bool s, .bool o, .bool p]]) ∧ Below w.heap.size w w' := by
  have CL' := Lib.hid CL
  have hN32 : b64 = false → (n : Int) % 32 = 0 := by intro h; rw [h, if_neg (by decide)] at hN; omega
  have hN64 : b64 = true → (n : Int) % 64 = 0 := by intro h; rw [h, if_pos rfl] at hN; omega
  clear CL hN
  cases b64 with
  | true =>
    have hN' := hN64 rfl
    clear hN32 hN64
    go_enter Try.func30, Try.ntmps30
    go_wp2_with fail
    refine (CL'.out _).mono ?_
    rintro e w' ⟨rfl, rfl⟩
    go_wp2_with fail
    go_region
    go_wp2_with fail
    refine bodyPost_ret (v := .tuple #[.int .u64 (L : Int), .agg #[.bool c, .bool z, .bool s, .bool o, .bool p]]) (by simp [results, Try.results30, go_sem]) rfl ⟨rfl, ?_⟩
    repeat (first | with_reducible exact Below.refl _ _ | with_reducible refine Below.setCell ?_ (by simp) _ | with_reducible refine Below.drew ?_ | with_reducible refine Below.alloc ?_ (by simp) _)
  | false =>
    have hN' := hN32 rfl
    clear hN32 hN64
    go_enter Try.func30, Try.ntmps30
    go_wp2_with fail
    refine (CL'.out _).mono ?_
    rintro e w' ⟨rfl, rfl⟩
    go_wp2_with fail
    go_region
    go_wp2_with fail
    refine bodyPost_ret (v := .tuple #[.int .u64 (L : Int), .agg #[.bool c, .bool z, .bool s, .bool o, .bool p]]) (by simp [results, Try.results30, go_sem]) rfl ⟨rfl, ?_⟩
    repeat (first | with_reducible exact Below.refl _ _ | with_reducible refine Below.setCell ?_ (by simp) _ | with_reducible refine Below.drew ?_ | with_reducible refine Below.alloc ?_ (by simp) _)
set_option maxHeartbeats 800000 in
theorem refShift_any (op k a n : Nat) (f : WM.Fl) (w : World) (h1 : 1 ≤ op) (h5 : op ≤ 5) (hk : k = 8 ∨ k = 16 ∨ k = 32 ∨ k = 64) (ha : a < 18446744073709551616) :
    Calls Try.prog 30 #[.int .i64 op, .int .i64 k, .int .u64 a, .int .u64 n, .agg #[.bool f.c, .bool f.z, .bool f.s, .bool f.o, .bool f.p]] w fun e w' => e = .returned (.tuple #[.int .u64 ((WM.shiftX op k a n : Nat) : Int), .agg #[.bool (WM.shiftF op k a n f).c, .bool (WM.shiftF op k a n f).z, .bool (WM.shiftF op k a n f).s, .bool (WM.shiftF op k a n f).o, .bool (WM.shiftF op k a n f).p]]) ∧ Below w.heap.size w w' := by
  have k1 : 1 ≤ k := by omega
  have k64 : k ≤ 64 := by omega
  have hb : ((k : Int) == 64) = decide (k = 64) := by rw [Bool.eq_iff_iff]; simp only [beq_iff_eq, decide_eq_true_eq]; omega
  have hc : (if decide (k = 64) = true then n % 64 else n % 32) = WM.counted k n := by unfold WM.counted; simp only [decide_eq_true_eq]
  have CL := fun w => refLow_any k a w hk ha
  by_cases h0 : WM.counted k n = 0
  · have eX : WM.shiftX op k a n = WM.low k a := by unfold WM.shiftX; rw [if_pos h0]
    have eF : WM.shiftF op k a n f = f := by unfold WM.shiftF; rw [if_pos h0]
    rw [eX, eF]
    exact refShift_zero op k a n _ f.c f.z f.s f.o f.p _ w hb (hc.trans h0) CL
  have hN1 : 1 ≤ WM.counted k n := by omega
  have hN2 := WM.counted_lt k n
  have hL := WM.low_lt k a
  have eX0 := WM.sx_ne (op := op) (a := a) h0
  have hF3 := WM.sf_lt (op := op) (a := a) f h0
  have hF4 := WM.sf_ge (op := op) (a := a) f h0
  rw [← WM.itX_sh h1 h5 k1 k64 hL] at eX0
  rw [eX0] at hF3
  have hx := WM.itX_sh (n := WM.counted k n) h1 h5 k1 k64 hL
  clear h0
  generalize WM.counted k n = N at *
  generalize WM.low k a = L at *
  rw [eX0]
  have : op = 1 ∨ op = 2 ∨ op = 3 ∨ op = 4 ∨ op = 5 := by omega
  rcases this with rfl | rfl | rfl | rfl | rfl
  · by_cases hg : k < N
    · have hC : WM.shC 1 k L N = false := by rw [← WM.refC1 k1 k64 hN1 hL, WM.rc_t hg]; rfl
      have hO : WM.shO 1 k L N = WM.top k (WM.itX 1 k L N) := by
        rw [show WM.shO 1 k L N = (WM.shC 1 k L N != WM.top k (WM.shX 1 k L N)) from rfl, ← hx, hC]; cases WM.top k (WM.itX 1 k L N) <;> rfl
      rw [hF3 (by decide), hC, hO]
      exact (refShift1t k a n N L (WM.itX 1 k L N)  f.c f.z f.s f.o f.p (WM.itB 1 k L N) (decide (k = 64)) (WM.top k (WM.itX 1 k L N)) w hb hc hN1 hN2 rfl rfl (decide_eq_true hg) CL (fun j w => refStep_any 1 k (WM.itX 1 k L j) w (by decide) (by decide) hk (WM.itX_lt j (by decide) (by decide) k1 k64 hL)) (fun w => refTop_any k _ w k1 k64) (fun w => refBy_any k _ _ _ _ _ _ w k1 k64))
    · have hC : WM.shC 1 k L N = WM.itB 1 k L N := by rw [← WM.refC1 k1 k64 hN1 hL, WM.rc_f hg]
      have hO : WM.shO 1 k L N = (WM.itB 1 k L N != WM.top k (WM.itX 1 k L N)) := by
        rw [show WM.shO 1 k L N = (WM.shC 1 k L N != WM.top k (WM.shX 1 k L N)) from rfl, ← hx, hC]
      rw [hF3 (by decide), hC, hO]
      exact (refShift1f k a n N L (WM.itX 1 k L N)  f.c f.z f.s f.o f.p (WM.itB 1 k L N) (decide (k = 64)) (WM.top k (WM.itX 1 k L N)) w hb hc hN1 hN2 rfl rfl (decide_eq_false hg) CL (fun j w => refStep_any 1 k (WM.itX 1 k L j) w (by decide) (by decide) hk (WM.itX_lt j (by decide) (by decide) k1 k64 hL)) (fun w => refTop_any k _ w k1 k64) (fun w => refBy_any k _ _ _ _ _ _ w k1 k64))
  · by_cases hg : k < N
    · have hC : WM.shC 2 k L N = false := by rw [← WM.refC2 hN1 hL, WM.rc_t hg]; rfl
      have hO : WM.shO 2 k L N = WM.top k L := rfl
      rw [hF3 (by decide), hC, hO]
      exact (refShift2t k a n N L (WM.itX 2 k L N)  f.c f.z f.s f.o f.p (WM.itB 2 k L N) (decide (k = 64)) (WM.top k (WM.itX 2 k L N)) (WM.top k L) w hb hc hN1 hN2 rfl rfl (decide_eq_true hg) CL (fun j w => refStep_any 2 k (WM.itX 2 k L j) w (by decide) (by decide) hk (WM.itX_lt j (by decide) (by decide) k1 k64 hL)) (fun w => refTop_any k L w k1 k64) (fun w => refBy_any k _ _ _ _ _ _ w k1 k64))
    · have hC : WM.shC 2 k L N = WM.itB 2 k L N := by rw [← WM.refC2 hN1 hL, WM.rc_f hg]
      have hO : WM.shO 2 k L N = WM.top k L := rfl
      rw [hF3 (by decide), hC, hO]
      exact (refShift2f k a n N L (WM.itX 2 k L N)  f.c f.z f.s f.o f.p (WM.itB 2 k L N) (decide (k = 64)) (WM.top k (WM.itX 2 k L N)) (WM.top k L) w hb hc hN1 hN2 rfl rfl (decide_eq_false hg) CL (fun j w => refStep_any 2 k (WM.itX 2 k L j) w (by decide) (by decide) hk (WM.itX_lt j (by decide) (by decide) k1 k64 hL)) (fun w => refTop_any k L w k1 k64) (fun w => refBy_any k _ _ _ _ _ _ w k1 k64))
  · by_cases hg : k < N
    · have hC : WM.shC 3 k L N = WM.top k L := by rw [← WM.refC3 k1 k64 hN1 hN2 hL, WM.rc_t hg]; rfl
      have hO : WM.shO 3 k L N = false := rfl
      rw [hF3 (by decide), hC, hO]
      exact (refShift3t k a n N L (WM.itX 3 k L N)  f.c f.z f.s f.o f.p (WM.itB 3 k L N) (decide (k = 64)) (WM.top k (WM.itX 3 k L N)) (WM.top k L) w hb hc hN1 hN2 rfl rfl (decide_eq_true hg) CL (fun j w => refStep_any 3 k (WM.itX 3 k L j) w (by decide) (by decide) hk (WM.itX_lt j (by decide) (by decide) k1 k64 hL)) (fun w => refTop_any k L w k1 k64) (fun w => refBy_any k _ _ _ _ _ _ w k1 k64))
    · have hC : WM.shC 3 k L N = WM.itB 3 k L N := by rw [← WM.refC3 k1 k64 hN1 hN2 hL, WM.rc_f hg]
      have hO : WM.shO 3 k L N = false := rfl
      rw [hF3 (by decide), hC, hO]
      exact (refShift3f k a n N L (WM.itX 3 k L N)  f.c f.z f.s f.o f.p (WM.itB 3 k L N) (decide (k = 64)) (WM.top k (WM.itX 3 k L N)) w hb hc hN1 hN2 rfl rfl (decide_eq_false hg) CL (fun j w => refStep_any 3 k (WM.itX 3 k L j) w (by decide) (by decide) hk (WM.itX_lt j (by decide) (by decide) k1 k64 hL)) (fun w => refBy_any k _ _ _ _ _ _ w k1 k64))
  · by_cases hg : k < N
    · have hC : WM.shC 4 k L N = ((WM.itX 4 k L N) % 2 == 1) := by
        rw [hx, show WM.shC 4 k L N = WM.bit (WM.shX 4 k L N) 0 from rfl]; unfold WM.bit; rw [Nat.pow_zero, Nat.div_one]
      have hO : WM.shO 4 k L N = (((WM.itX 4 k L N) % 2 == 1) != WM.top k (WM.itX 4 k L N)) := by
        rw [show WM.shO 4 k L N = (WM.shC 4 k L N != WM.top k (WM.shX 4 k L N)) from rfl, ← hx, hC]
      rw [hF4 (by decide), hC, hO]
      exact (refShift4t k a n N L (WM.itX 4 k L N)  f.c f.z f.s f.o f.p (WM.itB 4 k L N) (decide (k = 64)) (WM.top k (WM.itX 4 k L N)) ((WM.itX 4 k L N) % 2 == 1) w hb hc hN1 hN2 rfl rfl (decide_eq_true hg) (mod_one _) CL (fun j w => refStep_any 4 k (WM.itX 4 k L j) w (by decide) (by decide) hk (WM.itX_lt j (by decide) (by decide) k1 k64 hL)) (fun w => refTop_any k _ w k1 k64))
    · have hC : WM.shC 4 k L N = ((WM.itX 4 k L N) % 2 == 1) := by
        rw [hx, show WM.shC 4 k L N = WM.bit (WM.shX 4 k L N) 0 from rfl]; unfold WM.bit; rw [Nat.pow_zero, Nat.div_one]
      have hO : WM.shO 4 k L N = (((WM.itX 4 k L N) % 2 == 1) != WM.top k (WM.itX 4 k L N)) := by
        rw [show WM.shO 4 k L N = (WM.shC 4 k L N != WM.top k (WM.shX 4 k L N)) from rfl, ← hx, hC]
      rw [hF4 (by decide), hC, hO]
      exact (refShift4f k a n N L (WM.itX 4 k L N)  f.c f.z f.s f.o f.p (WM.itB 4 k L N) (decide (k = 64)) (WM.top k (WM.itX 4 k L N)) ((WM.itX 4 k L N) % 2 == 1) w hb hc hN1 hN2 rfl rfl (decide_eq_false hg) (mod_one _) CL (fun j w => refStep_any 4 k (WM.itX 4 k L j) w (by decide) (by decide) hk (WM.itX_lt j (by decide) (by decide) k1 k64 hL)) (fun w => refTop_any k _ w k1 k64))
  · by_cases hg : k < N
    · have hC : WM.shC 5 k L N = WM.top k (WM.itX 5 k L N) := by rw [hx]; rfl
      have hO : WM.shO 5 k L N = (WM.top k (WM.itX 5 k L N) != WM.top k (WM.low k ((WM.itX 5 k L N) * 2 % 18446744073709551616))) := by
        rw [WM.top_half (by omega) k64, hx]; rfl
      rw [hF4 (by decide), hC, hO]
      exact (refShift5t k a n N L (WM.itX 5 k L N) (WM.low k ((WM.itX 5 k L N) * 2 % 18446744073709551616))  f.c f.z f.s f.o f.p (WM.itB 5 k L N) (decide (k = 64)) (WM.top k (WM.itX 5 k L N)) (WM.top k (WM.low k ((WM.itX 5 k L N) * 2 % 18446744073709551616))) w hb hc hN1 hN2 rfl rfl (decide_eq_true hg) CL (fun j w => refStep_any 5 k (WM.itX 5 k L j) w (by decide) (by decide) hk (WM.itX_lt j (by decide) (by decide) k1 k64 hL)) (fun w => refTop_any k _ w k1 k64) (fun w => refLow_any k _ w hk (Nat.mod_lt _ (by decide))) (fun w => refTop_any k _ w k1 k64))
    · have hC : WM.shC 5 k L N = WM.top k (WM.itX 5 k L N) := by rw [hx]; rfl
      have hO : WM.shO 5 k L N = (WM.top k (WM.itX 5 k L N) != WM.top k (WM.low k ((WM.itX 5 k L N) * 2 % 18446744073709551616))) := by
        rw [WM.top_half (by omega) k64, hx]; rfl
      rw [hF4 (by decide), hC, hO]
      exact (refShift5f k a n N L (WM.itX 5 k L N) (WM.low k ((WM.itX 5 k L N) * 2 % 18446744073709551616))  f.c f.z f.s f.o f.p (WM.itB 5 k L N) (decide (k = 64)) (WM.top k (WM.itX 5 k L N)) (WM.top k (WM.low k ((WM.itX 5 k L N) * 2 % 18446744073709551616))) w hb hc hN1 hN2 rfl rfl (decide_eq_false hg) CL (fun j w => refStep_any 5 k (WM.itX 5 k L j) w (by decide) (by decide) hk (WM.itX_lt j (by decide) (by decide) k1 k64 hL)) (fun w => refTop_any k _ w k1 k64) (fun w => refLow_any k _ w hk (Nat.mod_lt _ (by decide))) (fun w => refTop_any k _ w k1 k64))
end Go.Proofs.Ytklepefljdiepaa
