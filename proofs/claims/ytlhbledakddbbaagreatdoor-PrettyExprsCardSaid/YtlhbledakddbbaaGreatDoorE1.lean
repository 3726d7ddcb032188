/- The document's Depth. -/
import Derived.Test.YtlhbledakddbbaaGreatDoorA4
namespace Go.Proofs.YtlhbledakddbbaaGreatDoor
open Go.RowKit

def RDepthTo (n : Nat) : Prop := ∀ (x : Ex), x.size < n → x.size ≤ 1000000 → ∀ (p : Option Addr) (c N : Nat) (w : World), x.Ok w N p → N ≤ w.heap.size →
    Calls Tryz.prog 12 #[x.val p c] w fun e w' => e = .returned (.int .i64 x.depth) ∧ Below w.heap.size w w'

/-- an argument that lies in a row: its cells, and that it is an expression -/
theorem Ex.At.open {w : World} {N : Nat} {x : Ex} {b o : Nat} (h : x.At w N b o) : ∃ p c, w.cell? ⟨b, o, none⟩ = some (.int .i64 x.op) ∧ w.cell? ⟨b, o + 1, none⟩ = some (.int .u64 (x.word : Int)) ∧ w.cell? ⟨b, o + 2, none⟩ = some (.string (str x.name)) ∧ w.cell? ⟨b, o + 3, none⟩ = some (.slice p x.args.len c) ∧ x.Ok w N p := by
  obtain ⟨op, wd, nm, ar⟩ := x
  obtain ⟨⟨h0, h1, h2, h3⟩, ⟨p, c, h4, s4⟩⟩ := h
  exact ⟨p, c, h0, h1, h2, h4, s4, h3⟩

set_option maxHeartbeats 3200000 in
theorem rdepth_step (n : Nat) (ih : RDepthTo n) : RDepthTo (n + 1) := by
  intro x hxs hx6 p c N w hx hN
  have IH := Lib.hid ih
  clear ih
  obtain ⟨w1, hw1⟩ : ∃ w1, w.alloc (.cells #[.int .i64 x.op, .int .u64 (x.word : Int), .string (str x.name), .slice p x.args.len c] 26) = w1 := ⟨_, rfl⟩
  have hB1 : Below w.heap.size w w1 := by rw [← hw1]; exact (Below.refl _ _).alloc (Nat.le_refl _) _
  have e0 : w1.heap[w.heap.size]? = some (.cells #[.int .i64 x.op, .int .u64 (x.word : Int), .string (str x.name), .slice p x.args.len c] 26 (0, 0)) := by rw [← hw1]; exact heap_alloc_new w _
  have hOk1 := (hx.later (hB1.mono hN) (Nat.le_trans hN hB1.size)).1
  have HB1 := Lib.hid hB1
  have HE0 := Lib.hid e0
  have hd : x.depth = 1 + x.args.deepest := by obtain ⟨op, wd, nm, ar⟩ := x; rw [Ex.depth]; rfl
  have hsz : x.args.size + 1 = x.size := by obtain ⟨op, wd, nm, ar⟩ := x; rw [Ex.size]; rfl
  have HD := Lib.hid (Exs.deepest_le x.args)
  have hlz : w.heap.size < w1.heap.size := lt_of_block e0
  rw [hd]
  unfold Ex.val
  generalize x.args = l at hOk1 hsz HD hw1 HE0 ⊢
  clear e0 hd hB1
  obtain ⟨hm, hs⟩ := hOk1
  have hstart : ∃ b o, (l.len = 0 ∨ p = some ⟨b, o, none⟩) ∧ b < w1.heap.size ∧ l.At w1 w1.heap.size b o := by
    rcases hs with h0 | ⟨b, o, hp, hb, ha⟩
    · exact ⟨0, 0, .inl h0, by omega, by cases l with | nil => trivial | cons => simp [Exs.len] at h0⟩
    · exact ⟨b, o, .inr hp, hb, ha⟩
  obtain ⟨b, o, hp, hb, ha⟩ := hstart
  have HB := Lib.hid hb
  go_enter Tryz.func12, Tryz.ntmps12
  go_wp2_with fail
  go_loopw [3, 4] (fun d i wr => ∃ (k m : Nat) (r : Exs), d = .int .i64 m ∧ i = .int .i64 k ∧ k + r.len = l.len ∧ r.size ≤ n ∧ r.size ≤ 1000000 ∧ Hid (r.At w1 w1.heap.size b (o + k * 4)) ∧ Hid (l.deepest = max m r.deepest) ∧ m ≤ 1000000 ∧ Hid (Below w1.heap.size w1 wr)) (fun _ i _ => l.len - (intOf i).toNat)
  case atStart => exact ⟨0, 0, l, rfl, rfl, by omega, by omega, by omega, Lib.hid (by rw [Nat.zero_mul]; exact ha), Lib.hid (by omega), by omega, Lib.hid (Below.refl _ _)⟩
  case round =>
    obtain ⟨k, m, r, rfl, rfl, hk, hrs, hr6, hr, hE, hm6, hBr⟩ := hrel
    have c3 : wr.cell? ⟨w.heap.size, 3, none⟩ = some (.slice p l.len c) := by
      have := (hBr.out.block _ (lt_of_block HE0.out)).trans HE0.out
      simp [World.cell?, this]
    cases r with
    | nil =>
      simp only [Exs.len] at hk
      have hge : ¬ k < l.len := by omega
      have hw : IntKind.i64.wrap ((m : Int) + 1) = (m : Int) + 1 := by simp [IntKind.wrap, IntKind.bits, IntKind.signed]; omega
      go_wp2_with fail
      go_ret
      exact ⟨ret_int (by rw [hE.out]; simp [Exs.deepest]; omega), HB1.out.trans (hBr.out.mono (by omega))⟩
    | cons y r =>
      obtain ⟨hy, hr'⟩ := hr.out
      simp only [Exs.len] at hk
      simp only [Exs.size] at hrs hr6
      have hlt : k < l.len := by omega
      have hyd := Ex.depth_le y
      rcases hp with h0 | rfl
      · omega
      have hyr := Ex.At.later hBr.out hBr.out.size y b (o + k * 4) HB.out hy
      obtain ⟨q, cq, d0, d1, d2, d3, hok⟩ := hyr.open
      have HC := Lib.hid (IH.out y (by omega) (by omega) q cq wr.heap.size wr hok (Nat.le_refl _))
      have HE := Lib.hid (show l.deepest = max (max m y.depth) r.deepest by rw [hE.out, Exs.deepest]; omega)
      have hmx : ((max m y.depth : Nat) : Int) = max (m : Int) (y.depth : Int) := by omega
      have HR := Lib.hid hr'
      unfold Ex.val at HC
      generalize y.depth = dy at HC HE hyd hmx
      clear hy hr' hr hyr hok
      go_wp2_with fail
      refine HC.out.mono ?_
      rintro e w2 ⟨rfl, hB2⟩
      have HB2 := Lib.hid (hBr.out.trans (hB2.mono hBr.out.size))
      clear hB2 HC
      go_wp2_with fail
      go_roundw
      case rel => exact ⟨k + 1, max m dy, r, by rw [hmx], by go_num, by omega, by omega, by omega, Lib.hid (by rw [show o + (k + 1) * 4 = o + k * 4 + 4 by omega]; exact HR.out), HE, by omega, HB2⟩
      case measure => simp [intOf]; omega
theorem rdepth_to : ∀ n, RDepthTo n
  | 0 => fun _ h => absurd h (Nat.not_lt_zero _)
  | n + 1 => rdepth_step n (rdepth_to n)
theorem rdepth_any (x : Ex) (hx6 : x.size ≤ 1000000) (p : Option Addr) (c N : Nat) (w : World) (h : x.Ok w N p) (hN : N ≤ w.heap.size) :
    Calls Tryz.prog 12 #[x.val p c] w fun e w' => e = .returned (.int .i64 x.depth) ∧ Below w.heap.size w w' :=
  rdepth_to _ x (Nat.lt_succ_self _) hx6 p c N w h hN
end Go.Proofs.YtlhbledakddbbaaGreatDoor
