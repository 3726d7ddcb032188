/- How many expressions there are: what lies within. -/
import Derived.Test.YthdjkjnkjkakpaaE1
import Derived.Deep.RegionWith
namespace Go.Proofs.Ythdjkjnkjkakpaa
open Go.RowKit

mutual
def Ex.wc : Ex → Nat → Nat
  | .mk _ _ _ a, deep => 1 + a.wc (deep + 1)
def Exs.wc : Exs → Nat → Nat
  | .nil, _ => 0
  | .cons x r, deep => if 64 < deep then 0 else x.wc deep + r.wc deep
end
theorem Ex.wc_eq (x : Ex) (deep : Nat) : x.wc deep = 1 + x.args.wc (deep + 1) := by obtain ⟨op, wd, nm, ar⟩ := x; rw [Ex.wc]; rfl
theorem Exs.wc_deep : ∀ (l : Exs) (deep : Nat), 64 < deep → l.wc deep = 0
  | .nil, _, _ => by rw [Exs.wc]
  | .cons x r, deep, h => by rw [Exs.wc, if_pos h]
theorem Exs.wc_cons {x : Ex} {r : Exs} {deep : Nat} (h : deep ≤ 64) : (Exs.cons x r).wc deep = 1 + x.args.wc (deep + 1) + r.wc deep := by rw [Exs.wc, if_neg (by omega), Ex.wc_eq]
/-- how a count of t more ends -/
inductive Cnt (g n t : Nat) (w : World) : Ending → World → Prop where
  | ok {w' : World} (h : n + t ≤ 65536) (hC : Ct w' g (n + t)) (hB : But g w w') : Cnt g n t w (.returned (.tuple #[])) w'
  | no {w' : World} (h : 65536 < n + t) (hC : Ct w' g 65537) (hB : But g w w') : Cnt g n t w (Pn 13) w'
theorem count_any (g n : Nat) (w : World) (h : Ct w g n) (hn : n ≤ 65536) : Calls Try.prog 75 #[.pointer (some ⟨g, 0, none⟩)] w (Cnt g n 1 w) := by
  by_cases h1 : n < 65536
  · refine (count_yes g n w h h1).mono ?_
    rintro z w' ⟨rfl, hc, hb⟩
    exact .ok (by omega) hc hb
  · obtain rfl : n = 65536 := by omega
    refine (count_no g w h).mono ?_
    rintro z w' ⟨rfl, hc, hb⟩
    exact .no (by omega) hc hb
def ctFn (g : Nat) : Value := .func (.func 75) #[] #[.pointer (some ⟨g, 0, none⟩)]
def wnFn (sb wb : Nat) : Value := .func (.func 91) #[] #[.pointer (some ⟨sb, 0, none⟩), .pointer (some ⟨wb, 0, none⟩)]
/-- the cells in which the two functions lie -/
structure Wn (w : World) (g sb wb : Nat) : Prop where
  cs : w.heap[sb]? = some (.cells #[ctFn g] 1 (0, 0))
  cw : w.heap[wb]? = some (.cells #[wnFn sb wb] 121 (0, 0))
  ns : sb ≠ g
  nw : wb ≠ g
theorem Wn.but {w w' : World} {g sb wb : Nat} (h : Wn w g sb wb) (hB : But g w w') : Wn w' g sb wb :=
  ⟨(hB.block _ (lt_blk h.cs) h.ns).trans h.cs, (hB.block _ (lt_blk h.cw) h.nw).trans h.cw, h.ns, h.nw⟩
theorem But.old {g N : Nat} {w w' : World} (h : But g w w') (hg : N ≤ g) (hN : N ≤ w.heap.size) : Below N w w' := (Below.refl N w).trans (But.below (Below.refl N w) h hg hN)

theorem But.drew {g : Nat} {a w : World} (h : But g a w) : But g a w.drew := ⟨h.os, h.tape, h.output, h.size, h.block⟩
def WithinTo (s : Nat) : Prop := ∀ (l : Exs), l.size < s → ∀ (deep : Nat), deep ≤ 65 → ∀ (p : Option Addr) (c N : Nat) (w : World) (n g sb wb : Nat), l.In w N p → N ≤ w.heap.size → N ≤ g → Wn w g sb wb → Ct w g n → n ≤ 65536 →
    Calls Try.prog 91 #[.slice p l.len c, .int .i64 (deep : Int), .pointer (some ⟨sb, 0, none⟩), .pointer (some ⟨wb, 0, none⟩)] w (Cnt g n (l.wc deep) w)

set_option maxHeartbeats 3200000 in
theorem within_step (s : Nat) (ih : WithinTo s) : WithinTo (s + 1) := by
  intro l hls deep hd p c N w n g sb wb hl hN hg hW hC hn
  by_cases hdp : 64 < deep
  · rw [Exs.wc_deep l deep hdp]
    have hR := Lib.hid (show Cnt g n 0 w (.returned (.tuple #[])) w from .ok (by omega) hC (But.refl _ _))
    have hi : (64 : Int) < (deep : Int) := by omega
    clear hW hC hl ih
    go_enter Try.func91, Try.ntmps91
    go_wp2_with fail
    go_end0
    exact hR.out
  have IH := Lib.hid ih
  clear ih
  have hi : ¬ (64 : Int) < (deep : Int) := by omega
  have hwd : IntKind.i64.wrap ((deep : Int) + 1) = ((deep + 1 : Nat) : Int) := by simp [IntKind.wrap, IntKind.bits, IntKind.signed]; omega
  obtain ⟨hm, hs⟩ := hl
  have hstart : ∃ b o, (l.len = 0 ∨ p = some ⟨b, o, none⟩) ∧ (b < N ∨ l.len = 0) ∧ l.At w N b o := by
    rcases hs with h0 | ⟨b, o, hp, hb, ha⟩
    · exact ⟨0, 0, .inl h0, .inr h0, by cases l with | nil => trivial | cons => simp [Exs.len] at h0⟩
    · exact ⟨b, o, .inr hp, .inl hb, ha⟩
  obtain ⟨b, o, hp, hb, ha⟩ := hstart
  have HW := Lib.hid hW
  have HC := Lib.hid hC
  have Hb := Lib.hid hb
  clear hs hW hC hb
  go_enter Try.func91, Try.ntmps91
  go_wp2_with fail
  go_loopw [11] (fun i wr => ∃ (k v : Nat) (r : Exs), i = .int .i64 k ∧ k + r.len = l.len ∧ r.size ≤ s ∧ v ≤ 65536 ∧ Hid (r.At w N b (o + k * 4)) ∧ Hid (Ct wr g v ∧ But g w wr) ∧ Hid (v + r.wc deep = n + l.wc deep)) (fun i _ => l.len - (intOf i).toNat)
  case atStart => exact ⟨0, n, l, rfl, by omega, by omega, hn, Lib.hid (by rw [Nat.zero_mul]; exact ha), Lib.hid ⟨HC.out, But.refl _ _⟩, Lib.hid rfl⟩
  case round =>
    obtain ⟨k, v, r, rfl, hk, hrs, hv, hr, hCB, hE⟩ := hrel
    cases r with
    | nil =>
      simp only [Exs.len] at hk
      have hge : ¬ k < l.len := by omega
      have hR := Lib.hid (show Cnt g n (l.wc deep) w (.returned (.tuple #[])) wr by
        have h := hE.out
        rw [Exs.wc, Nat.add_zero] at h
        subst h
        exact .ok hv hCB.out.1 hCB.out.2)
      go_wp2_with fail
      go_end0
      exact hR.out
    | cons y r =>
      obtain ⟨hy, hr'⟩ := hr.out
      simp only [Exs.len] at hk
      simp only [Exs.size] at hrs
      have hlt : k < l.len := by omega
      rcases hp with h0 | rfl
      · omega
      have hEy := hE.out
      rw [Exs.wc_cons (by omega)] at hEy
      have HEy := Lib.hid hEy
      have HR := Lib.hid hr'
      have HY := Lib.hid (And.intro hy (show b < N by have := Hb.out; omega))
      have HCt := Lib.hid (count_any g v wr hCB.out.1 hv)
      have hy2 : y.args.size + 1 = y.size := by obtain ⟨op, wd, nm, ar⟩ := y; rw [Ex.size]; rfl
      have hWr := HW.out.but hCB.out.2
      have s0 := cell_blk hWr.cs (j := 0) rfl
      unfold ctFn at s0
      clear hy hr' hr hEy hE hWr
      go_wp2_with fail
      refine HCt.out.mono ?_
      intro z w2 hc
      rcases hc with ⟨h1, h2, h3⟩ | ⟨h1, h2, h3⟩
      rotate_left
      · have hR := Lib.hid (show Cnt g n (l.wc deep) w (Pn 13) w2 from .no (by have := HEy.out; omega) h2 (hCB.out.2.trans h3))
        unfold Pn at hR ⊢
        clear h1 h2 h3 s0
        go_wp2_with fail
        exact ⟨rfl, hR.out⟩
      have hCB2 := Lib.hid (And.intro h2 (hCB.out.2.trans h3))
      have hold := hCB2.out.2.old hg hN
      obtain ⟨q, cq, d0, d1, d2, d3, hok⟩ := (Ex.At.later hold (Nat.le_refl N) y b (o + k * 4) HY.out.2 HY.out.1).open'
      have hCl := Lib.hid (IH.out y.args (by omega) (deep + 1) (by omega) q cq N w2.drew (v + 1) g sb wb (hok.1.later ((Below.refl N w2).drew) (Nat.le_refl N)) (Nat.le_trans hN hCB2.out.2.size) hg (HW.out.but hCB2.out.2.drew) h2 h1)
      rw [show ((deep + 1 : Nat) : Int) = (deep : Int) + 1 by omega] at hCl
      have hWr := HW.out.but hCB2.out.2
      have s1 := cell_blk hWr.cw (j := 0) rfl
      unfold wnFn at s1
      clear h1 h2 h3 hold hok s0 hWr
      go_wp2_with fail
      have HNo := Lib.hid (fun (w3 : World) (h1 : 65536 < v + 1 + y.args.wc (deep + 1)) (h2 : Ct w3 g 65537) (h3 : But g w2.drew w3) => show Cnt g n (l.wc deep) w (Pn 13) w3 from .no (by have := HEy.out; omega) h2 (hCB2.out.2.drew.trans h3))
      unfold Pn at HNo
      go_region_with (go_at_call 91; refine hCl.out.mono ?_; intro z w3 hc; rcases hc with ⟨h1, h2, h3⟩ | ⟨h1, h2, h3⟩; rotate_left; (exact ⟨rfl, HNo.out w3 h1 h2 h3⟩))
      all_goals
        (go_wp2_with fail
         refine ⟨⟨k + 1, v + 1 + y.args.wc (deep + 1), r, by go_num, by omega, by omega, h1, Lib.hid (by rw [show o + (k + 1) * 4 = o + k * 4 + 4 by omega]; exact HR.out), Lib.hid ⟨h2, hCB2.out.2.drew.trans h3⟩, Lib.hid (by have := HEy.out; omega)⟩, ?_⟩
         simp [intOf]; omega)
theorem within_to : ∀ n, WithinTo n
  | 0 => fun _ h => absurd h (Nat.not_lt_zero _)
  | n + 1 => within_step n (within_to n)
end Go.Proofs.Ythdjkjnkjkakpaa
