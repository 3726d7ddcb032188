import Derived.Test.YtklepefljdiepaaW9
import Derived.Laws.StructEq
namespace Go.Proofs.Ytklepefljdiepaa
open Go.RowKit

set_option maxHeartbeats 400000 in
theorem num_any (e : Int) (w : World) : Calls Try.prog 16 #[.int .i64 e] w fun r w' => r = .returned (.int .i64 e) ∧ w = w' := by
  go_enter Try.func16, Try.ntmps16
  go_wp2
  go_ret
  exact ⟨rfl, rfl⟩
set_option maxHeartbeats 800000 in
theorem bin_true (op a b want : Int) (c z s o p : Bool) (w : World) (h1 : 1 ≤ op) (h8 : op ≤ 8) (a0 : 0 ≤ a) (b0 : 0 ≤ b) (hX : ((WM.doX op.toNat 8 a.toNat b.toNat false : Nat) : Int) = want) (hF : WM.doF op.toNat 8 a.toNat b.toNat false = ⟨c, z, s, o, p⟩) :
    Calls Try.prog 34 #[.int .i64 op, .int .u64 a, .int .u64 b, .int .u64 want, .agg #[.bool c, .bool z, .bool s, .bool o, .bool p]] w fun e w' => e = .returned (.bool true) ∧ Below w.heap.size w w' := by
  have HD := Lib.hid (fun wx => do_any op 8 a b false false false false false wx rfl h1 h8 a0 b0)
  rw [show Int.toNat 8 = 8 from rfl, hX, hF] at HD
  clear hX hF
  go_enter Try.func34, Try.ntmps34
  go_wp2_with fail
  refine (HD.out _).mono ?_
  rintro e w1 ⟨rfl, hb1⟩
  have hs : w.heap.size < w1.heap.size := by have := hb1.size; simp at this; omega
  have f0 : w1.cell? ⟨w.heap.size, 0, none⟩ = some (.bool c) := by rw [hb1.cell (by simp)]; go_simp
  have f1 : w1.cell? ⟨w.heap.size, 1, none⟩ = some (.bool z) := by rw [hb1.cell (by simp)]; go_simp
  have f2 : w1.cell? ⟨w.heap.size, 2, none⟩ = some (.bool s) := by rw [hb1.cell (by simp)]; go_simp
  have f3 : w1.cell? ⟨w.heap.size, 3, none⟩ = some (.bool o) := by rw [hb1.cell (by simp)]; go_simp
  have f4 : w1.cell? ⟨w.heap.size, 4, none⟩ = some (.bool p) := by rw [hb1.cell (by simp)]; go_simp
  go_wp2_with (go_at_call 16; refine (num_any _ _).mono ?_; rintro e w' ⟨rfl, rfl⟩)
  go_ret
  exact ⟨rfl, (((Below.refl w.heap.size w).alloc (Nat.le_refl _) _).trans (hb1.mono (by simp))).alloc (by omega) _⟩
set_option maxHeartbeats 800000 in
theorem shift_true (op a b want : Int) (c z s o p : Bool) (w : World) (h1 : 1 ≤ op) (h5 : op ≤ 5) (a0 : 0 ≤ a) (b0 : 0 ≤ b) (hX : ((WM.shiftX op.toNat 8 a.toNat b.toNat : Nat) : Int) = want) (hF : WM.shiftF op.toNat 8 a.toNat b.toNat ⟨false, false, false, false, false⟩ = ⟨c, z, s, o, p⟩) :
    Calls Try.prog 35 #[.int .i64 op, .int .u64 a, .int .u64 b, .int .u64 want, .agg #[.bool c, .bool z, .bool s, .bool o, .bool p]] w fun e w' => e = .returned (.bool true) ∧ Below w.heap.size w w' := by
  have HD := Lib.hid (fun wx => shift_any op 8 a b false false false false false wx rfl h1 h5 a0 b0 _ _ rfl rfl)
  rw [show Int.toNat 8 = 8 from rfl, hX, hF] at HD
  clear hX hF
  go_enter Try.func35, Try.ntmps35
  go_wp2_with fail
  refine (HD.out _).mono ?_
  rintro e w1 ⟨rfl, hb1⟩
  have hs : w.heap.size < w1.heap.size := by have := hb1.size; simp at this; omega
  have f0 : w1.cell? ⟨w.heap.size, 0, none⟩ = some (.bool c) := by rw [hb1.cell (by simp)]; go_simp
  have f1 : w1.cell? ⟨w.heap.size, 1, none⟩ = some (.bool z) := by rw [hb1.cell (by simp)]; go_simp
  have f2 : w1.cell? ⟨w.heap.size, 2, none⟩ = some (.bool s) := by rw [hb1.cell (by simp)]; go_simp
  have f3 : w1.cell? ⟨w.heap.size, 3, none⟩ = some (.bool o) := by rw [hb1.cell (by simp)]; go_simp
  have f4 : w1.cell? ⟨w.heap.size, 4, none⟩ = some (.bool p) := by rw [hb1.cell (by simp)]; go_simp
  go_wp2_with (go_at_call 16; refine (num_any _ _).mono ?_; rintro e w' ⟨rfl, rfl⟩)
  go_ret
  exact ⟨rfl, (((Below.refl w.heap.size w).alloc (Nat.le_refl _) _).trans (hb1.mono (by simp))).alloc (by omega) _⟩
set_option maxHeartbeats 800000 in
theorem eval_true (op want : Int) (n : Nat) (bl off cap a b c : Nat) (w : World) (hn : argsZ op = (n : Int)) (hn0 : 1 ≤ n) (ha : a < 18446744073709551616) (hb : b < 18446744073709551616) (hV : ((WM.ev op.toNat a b c : Nat) : Int) = want)
    (hbl : bl < w.heap.size) (h0 : w.cell? ⟨bl, off, none⟩ = some (.int .u64 a)) (h1 : 2 ≤ n → w.cell? ⟨bl, off + 1, none⟩ = some (.int .u64 b)) (h2 : 3 ≤ n → w.cell? ⟨bl, off + 2, none⟩ = some (.int .u64 c)) :
    Calls Try.prog 36 #[.int .i64 op, .int .u64 want, .slice (some ⟨bl, off, none⟩) n cap] w fun e w' => e = .returned (.bool true) ∧ Below w.heap.size w w' := by
  have HD := Lib.hid (eval_any op n _ bl off cap a b c w hn hn0 ha hb rfl hbl h0 h1 h2)
  rw [hV] at HD
  clear hV hn ha hb h0 h1 h2 hn0 hbl
  go_enter Try.func36, Try.ntmps36
  go_wp2_with fail
  refine HD.out.mono ?_
  rintro e w1 ⟨rfl, hb1⟩
  go_wp2_with (go_at_call 16; refine (num_any _ _).mono ?_; rintro e w' ⟨rfl, rfl⟩)
  go_ret
  exact ⟨rfl, hb1⟩
end Go.Proofs.Ytklepefljdiepaa
