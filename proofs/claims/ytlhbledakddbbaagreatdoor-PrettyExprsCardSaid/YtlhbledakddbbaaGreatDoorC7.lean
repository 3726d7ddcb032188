/- The law's small functions. -/
import Derived.Test.YtlhbledakddbbaaGreatDoorC6
import Derived.Test.YtlhbledakddbbaaGreatDoorA8
namespace Go.Proofs.YtlhbledakddbbaaGreatDoor
open Go.RowKit

theorem num_any (v : Value) (w : World) : Calls Tryz.prog 14 #[v] w fun e w' => e = .returned v ∧ w = w' := by
  go_enter Tryz.func14, Tryz.ntmps14
  go_wp2_with fail
  go_ret
  exact ⟨rfl, rfl⟩

theorem v_any (s : ByteArray) (w : World) : Calls Tryz.prog 32 #[.string s] w fun e w' => e = .returned (.agg #[.int .i64 2, .int .u64 0, .string s, .slice none 0 0]) ∧ Below w.heap.size w w' := by
  go_enter Tryz.func32, Tryz.ntmps32
  go_wp2_with fail
  have h0 : (w.alloc (.cells #[.int .i64 2, .int .u64 0, .string s, .slice none 0 0] 26)).cell? ⟨w.heap.size, 0, none⟩ = some (#[.int .i64 2, .int .u64 0, .string s, .slice none 0 0][0]) := by simp [go_sem]
  have h1 : (w.alloc (.cells #[.int .i64 2, .int .u64 0, .string s, .slice none 0 0] 26)).cell? ⟨w.heap.size, 1, none⟩ = some (#[.int .i64 2, .int .u64 0, .string s, .slice none 0 0][1]) := by simp [go_sem]
  have h2 : (w.alloc (.cells #[.int .i64 2, .int .u64 0, .string s, .slice none 0 0] 26)).cell? ⟨w.heap.size, 2, none⟩ = some (#[.int .i64 2, .int .u64 0, .string s, .slice none 0 0][2]) := by simp [go_sem]
  have h3 : (w.alloc (.cells #[.int .i64 2, .int .u64 0, .string s, .slice none 0 0] 26)).cell? ⟨w.heap.size, 3, none⟩ = some (#[.int .i64 2, .int .u64 0, .string s, .slice none 0 0][3]) := by simp [go_sem]
  refine bodyPost_ret (v := .agg #[.int .i64 2, .int .u64 0, .string s, .slice none 0 0]) (by simp [results, Tryz.results32, go_sem]) rfl ?_
  exact ⟨rfl, (Below.refl _ _).alloc (Nat.le_refl _) _⟩

theorem c_any (n : Int) (w : World) : Calls Tryz.prog 34 #[.int .u64 n] w fun e w' => e = .returned (.agg #[.int .i64 1, .int .u64 n, .string ⟨#[]⟩, .slice none 0 0]) ∧ Below w.heap.size w w' := by
  go_enter Tryz.func34, Tryz.ntmps34
  go_wp2_with fail
  have h0 : (w.alloc (.cells #[.int .i64 1, .int .u64 n, .string ⟨#[]⟩, .slice none 0 0] 26)).cell? ⟨w.heap.size, 0, none⟩ = some (#[.int .i64 1, .int .u64 n, .string ⟨#[]⟩, .slice none 0 0][0]) := by simp [go_sem]
  have h1 : (w.alloc (.cells #[.int .i64 1, .int .u64 n, .string ⟨#[]⟩, .slice none 0 0] 26)).cell? ⟨w.heap.size, 1, none⟩ = some (#[.int .i64 1, .int .u64 n, .string ⟨#[]⟩, .slice none 0 0][1]) := by simp [go_sem]
  have h2 : (w.alloc (.cells #[.int .i64 1, .int .u64 n, .string ⟨#[]⟩, .slice none 0 0] 26)).cell? ⟨w.heap.size, 2, none⟩ = some (#[.int .i64 1, .int .u64 n, .string ⟨#[]⟩, .slice none 0 0][2]) := by simp [go_sem]
  have h3 : (w.alloc (.cells #[.int .i64 1, .int .u64 n, .string ⟨#[]⟩, .slice none 0 0] 26)).cell? ⟨w.heap.size, 3, none⟩ = some (#[.int .i64 1, .int .u64 n, .string ⟨#[]⟩, .slice none 0 0][3]) := by simp [go_sem]
  refine bodyPost_ret (v := .agg #[.int .i64 1, .int .u64 n, .string ⟨#[]⟩, .slice none 0 0]) (by simp [results, Tryz.results34, go_sem]) rfl ?_
  exact ⟨rfl, (Below.refl _ _).alloc (Nat.le_refl _) _⟩

theorem op_any (o : Int) (p : Option Addr) (n c : Nat) (w : World) : Calls Tryz.prog 31 #[.int .i64 o, .slice p n c] w fun e w' => e = .returned (.agg #[.int .i64 o, .int .u64 0, .string ⟨#[]⟩, .slice p n c]) ∧ Below w.heap.size w w' := by
  go_enter Tryz.func31, Tryz.ntmps31
  go_wp2_with fail
  have h0 : (w.alloc (.cells #[.int .i64 o, .int .u64 0, .string ⟨#[]⟩, .slice p n c] 26)).cell? ⟨w.heap.size, 0, none⟩ = some (#[.int .i64 o, .int .u64 0, .string ⟨#[]⟩, .slice p n c][0]) := by simp [go_sem]
  have h1 : (w.alloc (.cells #[.int .i64 o, .int .u64 0, .string ⟨#[]⟩, .slice p n c] 26)).cell? ⟨w.heap.size, 1, none⟩ = some (#[.int .i64 o, .int .u64 0, .string ⟨#[]⟩, .slice p n c][1]) := by simp [go_sem]
  have h2 : (w.alloc (.cells #[.int .i64 o, .int .u64 0, .string ⟨#[]⟩, .slice p n c] 26)).cell? ⟨w.heap.size, 2, none⟩ = some (#[.int .i64 o, .int .u64 0, .string ⟨#[]⟩, .slice p n c][2]) := by simp [go_sem]
  have h3 : (w.alloc (.cells #[.int .i64 o, .int .u64 0, .string ⟨#[]⟩, .slice p n c] 26)).cell? ⟨w.heap.size, 3, none⟩ = some (#[.int .i64 o, .int .u64 0, .string ⟨#[]⟩, .slice p n c][3]) := by simp [go_sem]
  refine bodyPost_ret (v := .agg #[.int .i64 o, .int .u64 0, .string ⟨#[]⟩, .slice p n c]) (by simp [results, Tryz.results31, go_sem]) rfl ?_
  exact ⟨rfl, (Below.refl _ _).alloc (Nat.le_refl _) _⟩


set_option maxHeartbeats 1600000 in
theorem tells_any (x : Ex) (p : Option Addr) (c N : Nat) (s : List UInt8) (w : World) (hx6 : x.size ≤ 1000000) (h : x.Ok w N p) (hN : N ≤ w.heap.size) (hG : Glob w) (hl : x.may = true → x.text.length ≤ 1000000000) (hR : exprR x = s) (hE : exprE x = 0) :
    Calls Tryz.prog 33 #[x.val p c, .string (str s)] w fun e w' => e = .returned (.bool true) ∧ Below w.heap.size w w' := by
  have hB0 : Below w.heap.size w (w.alloc (.cells #[.int .i64 x.op, .int .u64 (x.word : Int), .string (str x.name), .slice p x.args.len c] 26)) := (Below.refl _ _).alloc (Nat.le_refl _) _
  have HX := Lib.hid (expr_any x p c N (w.alloc (.cells #[.int .i64 x.op, .int .u64 (x.word : Int), .string (str x.name), .slice p x.args.len c] 26)) hx6 (h.later (hB0.mono hN) (Nat.le_refl _)) (by simp; omega) (hG.later hB0) hl)
  rw [hR, hE] at HX
  have HB0 := Lib.hid hB0
  unfold Ex.val at HX ⊢
  clear hR hE hl hG h hB0
  go_enter Tryz.func33, Tryz.ntmps33
  go_wp2_with fail
  refine HX.out.mono ?_
  rintro e w2 ⟨rfl, hB2⟩
  have HB2 := Lib.hid (HB0.out.trans (hB2.mono (by simp)))
  clear hB2
  go_wp2_with fail
  refine (num_any _ _).mono ?_
  rintro e w' ⟨rfl, rfl⟩
  go_wp2_with fail
  go_ret
  exact ⟨rfl, HB2.out⟩
end Go.Proofs.YtlhbledakddbbaaGreatDoor
