/- The document's: is an expression nothing; how many expressions there are. -/
import Derived.Test.YtnghehcjklkoeaaQA
import Derived.Test.YtnghehcjklkoeaaF1
import Derived.Test.YtnghehcjklkoeaaE4
import Derived.Test.YtnghehcjklkoeaaK3
import Derived.Deep.RegionLaw
namespace Go.Proofs.Ytnghehcjklkoeaa
open Go.RowKit

set_option maxHeartbeats 800000 in
theorem nothing_any (x : Ex) (p : Option Addr) (c : Nat) (w : World) :
    Calls Try.prog 87 #[x.val p c] w fun z w' => z = .returned (.bool x.isZ) ∧ Below w.heap.size w w' := by
  obtain ⟨W0, hW0, k0, hB0, hz0⟩ := one_alloc w (.cells #[.int .i64 x.op, .int .u64 (x.word : Int), .string (str x.name), .slice p x.args.len c] 42)
  have c0 : W0.cell? ⟨w.heap.size, 0, none⟩ = some (.int .i64 x.op) := cell_blk k0 rfl
  have c1 : W0.cell? ⟨w.heap.size, 1, none⟩ = some (.int .u64 (x.word : Int)) := cell_blk k0 rfl
  have c2 : W0.cell? ⟨w.heap.size, 2, none⟩ = some (.string (str x.name)) := cell_blk k0 rfl
  have c3 : W0.cell? ⟨w.heap.size, 3, none⟩ = some (.slice p x.args.len c) := cell_blk k0 rfl
  have HB0 := Lib.hid hB0
  have e3 : (str x.name).toList.isEmpty = x.name.isEmpty := by rw [Lib.toList_data, str_data]
  unfold Ex.isZ Ex.val
  generalize e1 : (x.op == 0) = t1
  generalize e2 : (((x.word : Nat) : Int) == 0) = t2
  generalize x.name.isEmpty = t3 at e3
  generalize e4 : (((x.args.len : Nat) : Int) == 0) = t4
  clear k0 hB0 hz0
  cases t1 <;> cases t2 <;> cases t3 <;> cases t4 <;>
  · go_enter Try.func87, Try.ntmps87
    go_wp2
    go_ret
    exact ⟨rfl, HB0.out⟩

mutual
theorem Ex.wc_le : ∀ (x : Ex) (deep : Nat), x.wc deep ≤ x.size
  | .mk _ _ _ a, deep => by rw [Ex.wc, Ex.size]; have := Exs.wc_le a (deep + 1); omega
theorem Exs.wc_le : ∀ (l : Exs) (deep : Nat), l.wc deep ≤ l.size
  | .nil, _ => by rw [Exs.wc]; exact Nat.zero_le _
  | .cons x r, deep => by
    rw [Exs.wc, Exs.size]
    have h1 := Ex.wc_le x deep
    have h2 := Exs.wc_le r deep
    split <;> omega
end
/-- an expression's, so deep -/
def Ex.wd (x : Ex) (deep : Nat) : Nat := if 64 < deep then 0 else x.wc deep
theorem Exs.wc_wd (x : Ex) (r : Exs) (deep : Nat) : (Exs.cons x r).wc deep = x.wd deep + r.wc deep := by
  unfold Ex.wd
  by_cases h : 64 < deep
  · rw [Exs.wc_deep _ _ h, Exs.wc_deep _ _ h, if_pos h]
  · rw [Exs.wc, if_neg h, if_neg h]
theorem Ex.wd_le (x : Ex) (deep : Nat) : x.wd deep ≤ x.size := by
  unfold Ex.wd; have := x.wc_le deep; split <;> omega
def RX (n : Nat) : Prop := ∀ (x : Ex), x.size < n → x.size ≤ 4000000 → ∀ (deep : Nat), deep ≤ 65 → ∀ (p : Option Addr) (c N : Nat) (w : World), x.Ok w N p → N ≤ w.heap.size →
    Calls Try.prog 88 #[x.val p c, .int .i64 (deep : Int)] w fun z w' => z = .returned (.int .i64 (x.wd deep : Nat)) ∧ Below w.heap.size w w'
set_option maxHeartbeats 3200000 in
theorem rexprs_step (n : Nat) (ih : RX n) : RX (n + 1) := by
  intro x hxs hbig deep hd p c N w hx hN
  have IH := Lib.hid ih
  clear ih
  obtain ⟨w1, hw1, k0, hB1, hz1⟩ := one_alloc w (.cells #[.int .i64 x.op, .int .u64 (x.word : Int), .string (str x.name), .slice p x.args.len c] 42)
  have hOk1 := (hx.later (hB1.mono hN) (Nat.le_refl N)).1
  have HB1 := Lib.hid hB1
  have HE0 := Lib.hid k0
  unfold Ex.val
  by_cases hdp : 64 < deep
  · rw [show x.wd deep = 0 from if_pos hdp]
    have hi : (64 : Int) < (deep : Int) := by omega
    clear hOk1 hx k0 hB1 hz1
    go_enter Try.func88, Try.ntmps88
    go_wp2_with fail
    go_ret
    exact ⟨rfl, HB1.out⟩
  have hi : ¬ (64 : Int) < (deep : Int) := by omega
  have hwd : IntKind.i64.wrap ((deep : Int) + 1) = ((deep + 1 : Nat) : Int) := by simp [IntKind.wrap, IntKind.bits, IntKind.signed]; omega
  have htot : x.wd deep = 1 + x.args.wc (deep + 1) := by rw [show x.wd deep = x.wc deep from if_neg hdp, Ex.wc_eq]
  have hle : x.wd deep ≤ 4000000 := Nat.le_trans (x.wd_le deep) hbig
  have hsz : x.args.size + 1 = x.size := by obtain ⟨op, wd, nm, ar⟩ := x; rw [Ex.size]; rfl
  have hlz : w.heap.size < w1.heap.size := lt_blk k0
  have HNN := Lib.hid hN
  generalize x.args = l at hOk1 hsz hw1 HE0 htot ⊢
  generalize x.wd deep = tot at htot hle ⊢
  clear k0 hB1 hx
  obtain ⟨hm, hs⟩ := hOk1
  have hstart : ∃ b o, (l.len = 0 ∨ p = some ⟨b, o, none⟩) ∧ (b < N ∨ l.len = 0) ∧ l.At w1 N b o := by
    rcases hs with h0 | ⟨b, o, hp, hb, ha⟩
    · exact ⟨0, 0, .inl h0, .inr h0, by cases l with | nil => trivial | cons => simp [Exs.len] at h0⟩
    · exact ⟨b, o, .inr hp, .inl hb, ha⟩
  obtain ⟨b, o, hp, hb, ha⟩ := hstart
  have HB := Lib.hid hb
  clear hb hs
  go_enter Try.func88, Try.ntmps88
  go_wp2_with fail
  go_loopw [5, 6] (fun d i wr => ∃ (k v : Nat) (r : Exs), d = .int .i64 v ∧ i = .int .i64 k ∧ k + r.len = l.len ∧ r.size ≤ l.size ∧ Hid (r.At w1 N b (o + k * 4)) ∧ Hid (v + r.wc (deep + 1) = tot) ∧ Hid (Below w1.heap.size w1 wr)) (fun _ i _ => l.len - (intOf i).toNat)
  case atStart => exact ⟨0, 1, l, rfl, rfl, by omega, by omega, Lib.hid (by rw [Nat.zero_mul]; exact ha), Lib.hid htot.symm, Lib.hid (Below.refl _ _)⟩
  case round =>
    obtain ⟨k, v, r, rfl, rfl, hk, hrs, hr, hE, hBr⟩ := hrel
    have c3 : wr.cell? ⟨w.heap.size, 3, none⟩ = some (.slice p l.len c) := cell_blk ((hBr.out.block _ (lt_blk HE0.out)).trans HE0.out) rfl
    cases r with
    | nil =>
      simp only [Exs.len] at hk
      have hge : ¬ k < l.len := by omega
      have HV := Lib.hid (show v = tot by have := hE.out; rw [Exs.wc] at this; omega)
      go_wp2_with fail
      go_ret
      exact ⟨by rw [HV.out]; rfl, HB1.out.trans (hBr.out.mono (by omega))⟩
    | cons y r =>
      obtain ⟨hy, hr'⟩ := hr.out
      simp only [Exs.len] at hk
      simp only [Exs.size] at hrs
      have hlt : k < l.len := by omega
      rcases hp with h0 | rfl
      · omega
      have hbN : b < N := by have := HB.out; omega
      have hNw1 : N ≤ w1.heap.size := by have := HNN.out; omega
      have hyr := Ex.At.later (hBr.out.mono hNw1) (Nat.le_refl N) y b (o + k * 4) hbN hy
      obtain ⟨q, cq, d0, d1, d2, d3, hok⟩ := hyr.open'
      have HC := Lib.hid (IH.out y (by omega) (by omega) (deep + 1) (by omega) q cq N wr hok (Nat.le_trans hNw1 hBr.out.size))
      have hE2 := hE.out
      rw [Exs.wc_wd] at hE2
      have hw0 := wrapS v (y.wd (deep + 1)) (by omega)
      have HE2 := Lib.hid (show v + y.wd (deep + 1) + r.wc (deep + 1) = tot by omega)
      have HR := Lib.hid hr'
      unfold Ex.val at HC
      generalize y.wd (deep + 1) = u at HC hw0 HE2
      clear hy hr' hr hyr hok hE2 hE
      go_wp2_with fail
      refine HC.out.mono ?_
      rintro e w2 ⟨rfl, hB2⟩
      have HB2 := Lib.hid (hBr.out.trans (hB2.mono hBr.out.size))
      clear hB2 HC
      go_wp2_with fail
      go_roundw
      case rel => exact ⟨k + 1, v + u, r, by go_num, by go_num, by omega, by omega, Lib.hid (by rw [show o + (k + 1) * 4 = o + k * 4 + 4 by omega]; exact HR.out), HE2, HB2⟩
      case measure => simp [intOf]; omega
theorem rexprs_to : ∀ n, RX n
  | 0 => fun _ h => absurd h (Nat.not_lt_zero _)
  | n + 1 => rexprs_step n (rexprs_to n)
end Go.Proofs.Ytnghehcjklkoeaa
