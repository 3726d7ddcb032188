/- How much an expression has: the document's countExpr, LongExpr. -/
import Derived.Test.YtlhbledakddbbaaGreatDoorE1
namespace Go.Proofs.YtlhbledakddbbaaGreatDoor
open Go.RowKit

mutual
def Ex.total : Ex → Nat
  | .mk _ _ nm a => 1 + nm.length + a.total
def Exs.total : Exs → Nat
  | .nil => 0
  | .cons x r => x.total + r.total
end
theorem rname_any (s : ByteArray) (M : Nat) (hM : M ≤ 5000) (w : World) : Calls Tryz.prog 42 #[.string s, .int .i64 M] w fun e w' => e = .returned (.int .i64 ((1 + min s.size M : Nat) : Int)) ∧ w = w' := by
  have h1 : ((1 + min s.size M : Nat) : Int) = 1 + min (s.size : Int) (M : Int) := by omega
  have h2 : IntKind.i64.wrap (1 + min (s.size : Int) (M : Int)) = 1 + min (s.size : Int) (M : Int) := by simp [IntKind.wrap, IntKind.bits, IntKind.signed]; omega
  rw [h1]
  go_enter Tryz.func42, Tryz.ntmps42
  go_wp2_with fail
  go_ret
  exact ⟨rfl, rfl⟩
def RCountTo (n : Nat) : Prop := ∀ (x : Ex), x.size < n → ∀ (M : Nat), M ≤ 5000 → ∀ (p : Option Addr) (c N : Nat) (w : World), x.Ok w N p → N ≤ w.heap.size →
    Calls Tryz.prog 30 #[x.val p c, .int .i64 M] w fun e w' => (∃ v : Nat, e = .returned (.int .i64 v) ∧ v ≤ M + 1 ∧ ((v ≤ M ∧ x.total = v) ∨ (M < v ∧ M < x.total))) ∧ Below w.heap.size w w'

set_option maxHeartbeats 3200000 in
theorem rcount_step (n : Nat) (ih : RCountTo n) : RCountTo (n + 1) := by
  intro x hxs M hM p c N w hx hN
  have IH := Lib.hid ih
  clear ih
  obtain ⟨w1, hw1⟩ : ∃ w1, w.alloc (.cells #[.int .i64 x.op, .int .u64 (x.word : Int), .string (str x.name), .slice p x.args.len c] 26) = w1 := ⟨_, rfl⟩
  have hB1 : Below w.heap.size w w1 := by rw [← hw1]; exact (Below.refl _ _).alloc (Nat.le_refl _) _
  have e0 : w1.heap[w.heap.size]? = some (.cells #[.int .i64 x.op, .int .u64 (x.word : Int), .string (str x.name), .slice p x.args.len c] 26 (0, 0)) := by rw [← hw1]; exact heap_alloc_new w _
  have hOk1 := (hx.later (hB1.mono hN) (Nat.le_trans hN hB1.size)).1
  have HB1 := Lib.hid hB1
  have HE0 := Lib.hid e0
  have hd : x.total = 1 + x.name.length + x.args.total := by obtain ⟨op, wd, nm, ar⟩ := x; rw [Ex.total]; rfl
  have hsz : x.args.size + 1 = x.size := by obtain ⟨op, wd, nm, ar⟩ := x; rw [Ex.size]; rfl
  have hlz : w.heap.size < w1.heap.size := lt_of_block e0
  have c2 : w1.cell? ⟨w.heap.size, 2, none⟩ = some (.string (str x.name)) := by simp [World.cell?, e0]
  have HN := Lib.hid (fun w => rname_any (str x.name) M hM w)
  have hns := size_str x.name
  rw [hns] at HN
  clear hns
  unfold Ex.val
  generalize x.args = l at hOk1 hsz hw1 HE0 hd ⊢
  generalize x.total = tot at hd ⊢
  clear e0 hB1
  obtain ⟨hm, hs⟩ := hOk1
  have hstart : ∃ b o, (l.len = 0 ∨ p = some ⟨b, o, none⟩) ∧ b < w1.heap.size ∧ l.At w1 w1.heap.size b o := by
    rcases hs with h0 | ⟨b, o, hp, hb, ha⟩
    · exact ⟨0, 0, .inl h0, by omega, by cases l with | nil => trivial | cons => simp [Exs.len] at h0⟩
    · exact ⟨b, o, .inr hp, hb, ha⟩
  obtain ⟨b, o, hp, hb, ha⟩ := hstart
  have HB := Lib.hid hb
  go_enter Tryz.func30, Tryz.ntmps30
  go_wp2_with fail
  refine (HN.out _).mono ?_
  rintro e wq ⟨rfl, rfl⟩
  have hn0 : 1 + min x.name.length M ≤ M + 1 := by omega
  have hi0 : (1 + min x.name.length M ≤ M ∧ tot = 1 + min x.name.length M + l.total) ∨ (M < 1 + min x.name.length M ∧ M < tot) := by omega
  generalize 1 + min x.name.length M = v0 at hn0 hi0 ⊢
  clear hd HN
  go_wp2_with fail
  go_loopw [5, 6] (fun d i wr => ∃ (k v : Nat) (r : Exs), d = .int .i64 v ∧ i = .int .i64 k ∧ k + r.len = l.len ∧ r.size ≤ n ∧ Hid (r.At w1 w1.heap.size b (o + k * 4)) ∧ v ≤ M + 1 ∧ Hid ((v ≤ M ∧ tot = v + r.total) ∨ (M < v ∧ M < tot)) ∧ Hid (Below w1.heap.size w1 wr)) (fun _ i _ => l.len - (intOf i).toNat)
  case atStart => exact ⟨0, v0, l, rfl, rfl, by omega, by omega, Lib.hid (by rw [Nat.zero_mul]; exact ha), hn0, Lib.hid hi0, Lib.hid (Below.refl _ _)⟩
  case round =>
    obtain ⟨k, v, r, rfl, rfl, hk, hrs, hr, hv, hE, hBr⟩ := hrel
    have c3 : wr.cell? ⟨w.heap.size, 3, none⟩ = some (.slice p l.len c) := by
      have := (hBr.out.block _ (lt_of_block HE0.out)).trans HE0.out
      simp [World.cell?, this]
    cases r with
    | nil =>
      simp only [Exs.len] at hk
      have hge : ¬ k < l.len := by omega
      go_wp2_with fail
      go_ret
      exact ⟨⟨v, rfl, hv, by have := hE.out; simp only [Exs.total] at this; omega⟩, HB1.out.trans (hBr.out.mono (by omega))⟩
    | cons y r =>
      obtain ⟨hy, hr'⟩ := hr.out
      simp only [Exs.len] at hk
      simp only [Exs.size] at hrs
      have hlt : k < l.len := by omega
      by_cases hvM : v ≤ M
      · rcases hp with h0 | rfl
        · omega
        have hyr := Ex.At.later hBr.out hBr.out.size y b (o + k * 4) HB.out hy
        obtain ⟨q, cq, d0, d1, d2, d3, hok⟩ := hyr.open
        have HC := Lib.hid (IH.out y (by omega) (M - v) (by omega) q cq wr.heap.size wr hok (Nat.le_refl _))
        have hsub : ((M - v : Nat) : Int) = (M : Int) - (v : Int) := by omega
        rw [hsub] at HC
        have hw0 : IntKind.i64.wrap ((M : Int) - (v : Int)) = (M : Int) - (v : Int) := by simp [IntKind.wrap, IntKind.bits, IntKind.signed]; omega
        have HR := Lib.hid hr'
        unfold Ex.val at HC
        clear hy hr' hr hyr hok
        go_wp2_with fail
        refine HC.out.mono ?_
        rintro e w2 ⟨⟨u, rfl, hu, hcase⟩, hB2⟩
        have HB2 := Lib.hid (hBr.out.trans (hB2.mono hBr.out.size))
        have HE2 := Lib.hid (show (v + u ≤ M ∧ tot = v + u + r.total) ∨ (M < v + u ∧ M < tot) by have := hE.out; simp only [Exs.total] at this; omega)
        have hadd : ((v + u : Nat) : Int) = (v : Int) + (u : Int) := by omega
        have hw1' : IntKind.i64.wrap ((v : Int) + (u : Int)) = (v : Int) + (u : Int) := by simp [IntKind.wrap, IntKind.bits, IntKind.signed]; omega
        clear hB2 HC hcase
        go_wp2_with fail
        go_roundw
        case rel => exact ⟨k + 1, v + u, r, by rw [hadd], by go_num, by omega, by omega, Lib.hid (by rw [show o + (k + 1) * 4 = o + k * 4 + 4 by omega]; exact HR.out), by omega, HE2, HB2⟩
        case measure => simp [intOf]; omega
      · go_wp2_with fail
        go_ret
        exact ⟨⟨v, rfl, hv, by have := hE.out; omega⟩, HB1.out.trans (hBr.out.mono (by omega))⟩
theorem rcount_to : ∀ n, RCountTo n
  | 0 => fun _ h => absurd h (Nat.not_lt_zero _)
  | n + 1 => rcount_step n (rcount_to n)

set_option maxHeartbeats 1600000 in
/-- is it long? -/
theorem longExpr_any (x : Ex) (p : Option Addr) (c N : Nat) (w : World) (h : x.Ok w N p) (hN : N ≤ w.heap.size) :
    Calls Tryz.prog 8 #[x.val p c, .int .i64 5000] w fun e w' => e = .returned (.bool (decide (5000 < x.total))) ∧ Below w.heap.size w w' := by
  have hB0 : Below w.heap.size w (w.alloc (.cells #[.int .i64 x.op, .int .u64 (x.word : Int), .string (str x.name), .slice p x.args.len c] 26)) := (Below.refl _ _).alloc (Nat.le_refl _) _
  have HC := Lib.hid (rcount_to _ x (Nat.lt_succ_self _) 5000 (Nat.le_refl _) p c N (w.alloc (.cells #[.int .i64 x.op, .int .u64 (x.word : Int), .string (str x.name), .slice p x.args.len c] 26)) (h.later (hB0.mono hN) (Nat.le_refl _)) (by simp; omega))
  have HB0 := Lib.hid hB0
  unfold Ex.val at HC ⊢
  generalize x.total = tot at HC ⊢
  clear h hB0
  go_enter Tryz.func8, Tryz.ntmps8
  go_wp2_with fail
  refine HC.out.mono ?_
  rintro e w2 ⟨⟨u, rfl, hu, hcase⟩, hB2⟩
  have HB2 := Lib.hid (HB0.out.trans (hB2.mono (by simp)))
  have hb : decide (5000 < tot) = decide (5000 < u) := by rcases hcase with ⟨a, b⟩ | ⟨a, b⟩ <;> simp <;> omega
  clear hB2 hcase
  go_wp2_with fail
  go_ret
  exact ⟨ret_bool (by rw [hb]; simp; omega), HB2.out⟩
end Go.Proofs.YtlhbledakddbbaaGreatDoor
