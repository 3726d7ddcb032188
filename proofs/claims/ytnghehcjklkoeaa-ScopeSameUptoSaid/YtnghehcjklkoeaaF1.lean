/- E5, E6, VK, E7, F1 as one. -/
import Derived.Test.YtnghehcjklkoeaaE4
import Derived.Recover
import Derived.Deep.RegionLaw
import Derived.OrdersHeld
import Derived.Deep.RegionHeld
import Derived.WalkKit
import Derived.ProofKit
/- How many statements and expressions there are. -/
namespace Go.Proofs.Ytnghehcjklkoeaa
open Go.RowKit

mutual
def St.sc : St → Nat → Nat
  | .mk kd nm ns e a as' lo hi bd el, deep => 1 + (St.mk kd nm ns e a as' lo hi bd el).own deep + bd.sc (deep + 1) + el.sc (deep + 1)
def Sts.sc : Sts → Nat → Nat
  | .nil, _ => 0
  | .cons x r, deep => if 64 < deep then 0 else x.sc deep + r.sc deep
end
theorem St.sc_eq (x : St) (deep : Nat) : x.sc deep = 1 + x.own deep + x.body.sc (deep + 1) + x.els.sc (deep + 1) := by obtain ⟨kd, nm, ns, e, a, as', lo, hi, bd, el⟩ := x; rw [St.sc]; rfl
theorem Sts.sc_deep : ∀ (l : Sts) (deep : Nat), 64 < deep → l.sc deep = 0
  | .nil, _, _ => by rw [Sts.sc]
  | .cons x r, deep, h => by rw [Sts.sc, if_pos h]
theorem Sts.sc_cons {x : St} {r : Sts} {deep : Nat} (h : deep ≤ 64) : (Sts.cons x r).sc deep = 1 + x.own deep + x.body.sc (deep + 1) + x.els.sc (deep + 1) + r.sc deep := by rw [Sts.sc, if_neg (by omega), St.sc_eq]
/-- the cell in which the count's function lies -/
structure Cb (w : World) (g cb : Nat) : Prop where
  cs : w.heap[cb]? = some (.cells #[ctFn g] 1 (0, 0))
  ns : cb ≠ g
theorem Cb.but {w w' : World} {g cb : Nat} (h : Cb w g cb) (hB : But g w w') : Cb w' g cb := ⟨(hB.block _ (lt_blk h.cs) h.ns).trans h.cs, h.ns⟩
theorem Cnt.step {g n t u v : Nat} {w w1 w2 : World} {z : Ending} (h : Cnt g (n + t) u w1 z w2) (hB : But g w w1) (hv : t + u = v) : Cnt g n v w z w2 := by
  subst hv
  rcases h with ⟨h1, h2, h3⟩ | ⟨h1, h2, h3⟩
  · exact .ok (by omega) (by rw [← Nat.add_assoc]; exact h2) (hB.trans h3)
  · exact .no (by omega) h2 (hB.trans h3)
set_option maxHeartbeats 1600000 in
theorem seeS_any (x : St) (deep : Nat) (hd : deep ≤ 64) (N b o : Nat) (w : World) (n g cb : Nat) (hx : x.At w N b o) (hb : b < N) (hN : N ≤ w.heap.size) (hg : N ≤ g) (hO : Cb w g cb) (hC : Ct w g n) (hn : n ≤ 65536) :
    Calls Try.prog 74 #[.pointer (some ⟨b, o, none⟩), .int .i64 (deep : Int), .pointer (some ⟨cb, 0, none⟩)] w (Cnt g n (1 + x.own deep) w) := by
  have HCt := Lib.hid (count_any g n w hC hn)
  have HO := Lib.hid hO
  have HX := Lib.hid hx
  have s0 := cell_blk hO.cs (j := 0) rfl
  unfold ctFn at s0
  clear hx hO hC
  go_enter Try.func74, Try.ntmps74
  go_wp2_with fail
  refine HCt.out.mono ?_
  intro z w2 hc
  rcases hc with ⟨h1, h2, h3⟩ | ⟨h1, h2, h3⟩
  rotate_left
  · have hR := Lib.hid (show Cnt g n (1 + x.own deep) w (Pn 13) w2 from .no (by omega) h2 h3)
    unfold Pn at hR ⊢
    clear h1 h2 h3 s0
    go_wp2_with fail
    exact ⟨rfl, hR.out⟩
  have hold := h3.old hg hN
  have s1 := cell_blk (HO.out.but h3).cs (j := 0) rfl
  have HE := Lib.hid (eachExpr_any x deep hd N b o w2 (n + 1) g (St.At.later hold (Nat.le_refl N) x b o hb HX.out) hb (Nat.le_trans hN h3.size) hg h2 h1)
  unfold ctFn at s1 HE
  have HB := Lib.hid h3
  clear h1 h2 h3 hold s0
  go_wp2_with fail
  refine HE.out.mono ?_
  intro z w3 hc
  replace hc := hc.step HB.out rfl
  rcases hc with ⟨h1, h2, h3⟩ | ⟨h1, h2, h3⟩
  · have hR := Lib.hid (show Cnt g n (1 + x.own deep) w (.returned (.tuple #[])) w3 from .ok h1 h2 h3)
    clear h1 h2 h3 s1
    go_wp2_with fail
    go_end0
    exact hR.out
  · have hR := Lib.hid (show Cnt g n (1 + x.own deep) w (Pn 13) w3 from .no h1 h2 h3)
    unfold Pn at hR ⊢
    clear h1 h2 h3 s1
    go_wp2_with fail
    exact ⟨rfl, hR.out⟩

theorem St.At.body {w : World} {N b o : Nat} {x : St} (h : x.At w N b o) : ∃ p c, w.cell? ⟨b, o + 14, none⟩ = some (.slice p x.body.len c) ∧ x.body.In w N p := by
  obtain ⟨kd, nm, ns, e, a, as', lo, hi, bd, el⟩ := x
  obtain ⟨_, _, _, _, _, ⟨p, c, h1, h2⟩, _⟩ := h
  exact ⟨p, c, h1, h2⟩
theorem St.At.els {w : World} {N b o : Nat} {x : St} (h : x.At w N b o) : ∃ p c, w.cell? ⟨b, o + 15, none⟩ = some (.slice p x.els.len c) ∧ x.els.In w N p := by
  obtain ⟨kd, nm, ns, e, a, as', lo, hi, bd, el⟩ := x
  obtain ⟨_, _, _, _, _, _, ⟨p, c, h1, h2⟩⟩ := h
  exact ⟨p, c, h1, h2⟩
theorem St.size_eq (x : St) : x.size = x.body.size + x.els.size + 1 := by obtain ⟨kd, nm, ns, e, a, as', lo, hi, bd, el⟩ := x; rw [St.size]; rfl
def seeFn (cb : Nat) : Value := .func (.func 74) #[] #[.pointer (some ⟨cb, 0, none⟩)]
def EachTo (s : Nat) : Prop := ∀ (l : Sts), l.size < s → ∀ (deep : Nat), deep ≤ 65 → ∀ (p : Option Addr) (c N : Nat) (w : World) (n g cb : Nat), l.In w N p → N ≤ w.heap.size → N ≤ g → Cb w g cb → Ct w g n → n ≤ 65536 →
    Calls Try.prog 62 #[.slice p l.len c, .int .i64 (deep : Int), seeFn cb] w (Cnt g n (l.sc deep) w)
set_option maxHeartbeats 6400000 in
theorem each_step (s : Nat) (ih : EachTo s) : EachTo (s + 1) := by
  intro l hls deep hd p c N w n g cb hl hN hg hW hC hn
  unfold seeFn
  by_cases hdp : 64 < deep
  · rw [Sts.sc_deep l deep hdp]
    have hR := Lib.hid (show Cnt g n 0 w (.returned (.tuple #[])) w from .ok (by omega) hC (But.refl _ _))
    have hi : (64 : Int) < (deep : Int) := by omega
    clear hW hC hl ih
    go_enter Try.func62, Try.ntmps62
    go_wp2_with fail
    go_end0
    exact hR.out
  have IH := Lib.hid ih
  clear ih
  have hi : ¬ (64 : Int) < (deep : Int) := by omega
  have hwd : IntKind.i64.wrap ((deep : Int) + 1) = ((deep + 1 : Nat) : Int) := by simp [IntKind.wrap, IntKind.bits, IntKind.signed]; omega
  obtain ⟨hm, hs⟩ := hl
  obtain ⟨b, o, hp, hb, ha⟩ : ∃ b o, (l.len = 0 ∨ p = some ⟨b, o, none⟩) ∧ (b < N ∨ l.len = 0) ∧ l.At w N b o := by
    rcases hs with h0 | ⟨b, o, hp, hb, ha⟩
    · exact ⟨0, 0, .inl h0, .inr h0, by cases l with | nil => trivial | cons => simp [Sts.len] at h0⟩
    · exact ⟨b, o, .inr hp, .inl hb, ha⟩
  have HW := Lib.hid hW
  have HC := Lib.hid hC
  have Hb := Lib.hid hb
  clear hs hW hC hb
  go_enter Try.func62, Try.ntmps62
  go_wp2_with fail
  go_loopw [11] (fun i wr => ∃ (k v : Nat) (r : Sts), i = .int .i64 k ∧ k + r.len = l.len ∧ r.size ≤ s ∧ v ≤ 65536 ∧ Hid (r.At w N b (o + k * 16)) ∧ Hid (Ct wr g v ∧ But g w wr) ∧ Hid (v + r.sc deep = n + l.sc deep)) (fun i _ => l.len - (intOf i).toNat)
  case atStart => exact ⟨0, n, l, rfl, by omega, by omega, hn, Lib.hid (by rw [Nat.zero_mul]; exact ha), Lib.hid ⟨HC.out, But.refl _ _⟩, Lib.hid rfl⟩
  case round =>
    obtain ⟨k, v, r, rfl, hk, hrs, hv, hr, hCB, hE⟩ := hrel
    cases r with
    | nil =>
      simp only [Sts.len] at hk
      have hge : ¬ k < l.len := by omega
      have hR := Lib.hid (show Cnt g n (l.sc deep) w (.returned (.tuple #[])) wr by
        have h := hE.out
        rw [Sts.sc, Nat.add_zero] at h
        subst h
        exact .ok hv hCB.out.1 hCB.out.2)
      go_wp2_with fail
      go_end0
      exact hR.out
    | cons y r =>
      obtain ⟨hy, hr'⟩ := hr.out
      simp only [Sts.len] at hk
      simp only [Sts.size] at hrs
      have hlt : k < l.len := by omega
      rcases hp with h0 | rfl
      · omega
      have hEy := hE.out
      rw [Sts.sc_cons (by omega)] at hEy
      have HEy := Lib.hid hEy
      have HR := Lib.hid hr'
      have HY := Lib.hid (And.intro hy (show b < N by have := Hb.out; omega))
      have HSz := Lib.hid y.size_eq
      have HCt := Lib.hid (seeS_any y deep (by omega) N b (o + k * 16) wr v g cb (St.At.later (hCB.out.2.old hg hN) (Nat.le_refl N) y b _ HY.out.2 hy) HY.out.2 (Nat.le_trans hN hCB.out.2.size) hg (HW.out.but hCB.out.2) hCB.out.1 hv)
      clear hy hr' hr hEy hE
      go_wp2_with fail
      refine HCt.out.mono ?_
      intro z w2 hc
      rcases hc with ⟨h1, h2, h3⟩ | ⟨h1, h2, h3⟩
      rotate_left
      · have hR := Lib.hid (show Cnt g n (l.sc deep) w (Pn 13) w2 from .no (by have := HEy.out; omega) h2 (hCB.out.2.trans h3))
        unfold Pn at hR ⊢
        clear h1 h2 h3
        go_wp2_with fail
        exact ⟨rfl, hR.out⟩
      have hCB2 := Lib.hid (And.intro h2 (hCB.out.2.trans h3))
      obtain ⟨q, cq, d0, hok⟩ := St.At.body (St.At.later (hCB2.out.2.old hg hN) (Nat.le_refl N) y b (o + k * 16) HY.out.2 HY.out.1)
      have hCl := Lib.hid (IH.out y.body (by have := HSz.out; omega) (deep + 1) (by omega) q cq N w2 _ g cb hok (Nat.le_trans hN hCB2.out.2.size) hg (HW.out.but hCB2.out.2) h2 h1)
      unfold seeFn at hCl
      clear h1 h2 h3 hok
      go_wp2_with fail
      refine hCl.out.mono ?_
      intro z w3 hc
      rcases hc with ⟨h1, h2, h3⟩ | ⟨h1, h2, h3⟩
      rotate_left
      · have hR := Lib.hid (show Cnt g n (l.sc deep) w (Pn 13) w3 from .no (by have := HEy.out; omega) h2 (hCB2.out.2.trans h3))
        unfold Pn at hR ⊢
        clear h1 h2 h3
        go_wp2_with fail
        exact ⟨rfl, hR.out⟩
      have hCB3 := Lib.hid (And.intro h2 (hCB2.out.2.trans h3))
      obtain ⟨q4, cq4, d4, hok4⟩ := St.At.els (St.At.later (hCB3.out.2.old hg hN) (Nat.le_refl N) y b (o + k * 16) HY.out.2 HY.out.1)
      have hCl4 := Lib.hid (IH.out y.els (by have := HSz.out; omega) (deep + 1) (by omega) q4 cq4 N w3 _ g cb hok4 (Nat.le_trans hN hCB3.out.2.size) hg (HW.out.but hCB3.out.2) h2 h1)
      unfold seeFn at hCl4
      clear h1 h2 h3 hok4 d0
      go_wp2_with fail
      refine hCl4.out.mono ?_
      intro z w4 hc
      rcases hc with ⟨h1, h2, h3⟩ | ⟨h1, h2, h3⟩
      rotate_left
      · have hR := Lib.hid (show Cnt g n (l.sc deep) w (Pn 13) w4 from .no (by have := HEy.out; omega) h2 (hCB3.out.2.trans h3))
        unfold Pn at hR ⊢
        clear h1 h2 h3
        go_wp2_with fail
        exact ⟨rfl, hR.out⟩
      have hCB4 := Lib.hid (And.intro h2 (hCB3.out.2.trans h3))
      clear h2 h3 d4
      go_wp2_with fail
      go_roundw
      case rel => exact ⟨k + 1, _, r, by go_num, by omega, by omega, h1, Lib.hid (by rw [show o + (k + 1) * 16 = o + k * 16 + 16 by omega]; exact HR.out), hCB4, Lib.hid (by have := HEy.out; omega)⟩
      case measure => simp [intOf]; omega
theorem each_to : ∀ n, EachTo n
  | 0 => fun _ h => absurd h (Nat.not_lt_zero _)
  | n + 1 => each_step n (each_to n)
end Go.Proofs.Ytnghehcjklkoeaa
/- Size; what is done with a panic. -/
namespace Go.Proofs.Ytnghehcjklkoeaa
open Go.RowKit

def sumSc : List Fnc → Nat
  | [] => 0
  | f :: r => f.body.sc 1 + sumSc r
/-- how many statements and expressions there are -/
def Prg.total (x : Prg) : Nat := sumSc x.fns
/-- a program in a cell of its own -/
structure PB (w : World) (N : Nat) (x : Prg) (pb : Nat) (p q : Option Addr) (c d : Nat) : Prop where
  cs : w.heap[pb]? = some (.cells #[.slice p x.regs.length c, .slice q x.fns.length d] 25 (0, 0))
  ok : x.Ok w N p q
theorem PB.but {w w' : World} {N : Nat} {x : Prg} {pb g : Nat} {p q : Option Addr} {c d : Nat} (h : PB w N x pb p q c d) (hB : But g w w') (hg : N ≤ g) (hN : N ≤ w.heap.size) (hp : pb ≠ g) : PB w' N x pb p q c d :=
  ⟨(hB.block _ (lt_blk h.cs) hp).trans h.cs, h.ok.later (hB.old hg hN) (Nat.le_refl N)⟩
theorem Fnc.At.bodyC {w : World} {N b o : Nat} {x : Fnc} (h : x.At w N b o) : ∃ p c, w.cell? ⟨b, o + 4, none⟩ = some (.slice p x.body.len c) ∧ x.body.In w N p := by
  obtain ⟨_, _, _, _, ⟨p, c, h1, h2⟩⟩ := h
  exact ⟨p, c, h1, h2⟩
theorem Row.start {α : Type} {N k : Nat} {A : α → Nat → Nat → Prop} {l : List α} {p : Option Addr} (h : RowIn N A k l p) : ∃ b o, (l.length = 0 ∨ p = some ⟨b, o, none⟩) ∧ (b < N ∨ l.length = 0) ∧ Row A k l b o := by
  rcases h.2 with h0 | ⟨b, o, hp, hb, ha⟩
  · exact ⟨0, 0, .inl h0, .inr h0, by cases l with | nil => trivial | cons => simp at h0⟩
  · exact ⟨b, o, .inr hp, .inl hb, ha⟩
theorem one_alloc (w : World) (o : Obj) : ∃ W, w.alloc o = W ∧ W.heap[w.heap.size]? = some o ∧ Below w.heap.size w W ∧ W.heap.size = w.heap.size + 1 :=
  ⟨_, rfl, heap_alloc_new w o, (Below.refl _ w).alloc (Nat.le_refl _) _, by simp⟩
set_option maxHeartbeats 3200000 in
theorem size1_any (x : Prg) (p q : Option Addr) (c d N pb g : Nat) (w : World) (hP : PB w N x pb p q c d) (hN : N ≤ w.heap.size) (hg : N ≤ g) (hC : Ct w g 0) (hpg : pb ≠ g) :
    Calls Try.prog 72 #[.pointer (some ⟨g, 0, none⟩), .pointer (some ⟨pb, 0, none⟩)] w (Cnt g 0 x.total w) := by
  obtain ⟨W0, hW0, k0, hB0, hz0⟩ := one_alloc w (.cells #[ctFn g] 1)
  have hgw : g < w.heap.size := lt_blk hC
  have HCb := Lib.hid (show Cb W0 g w.heap.size from ⟨k0, by omega⟩)
  have HB0 := Lib.hid (But.of_below (g := g) hB0)
  have HP := Lib.hid (hP.but HB0.out hg hN hpg)
  have HC := Lib.hid (hC.later hB0)
  have HN0 := Lib.hid (show N ≤ W0.heap.size by omega)
  have HW0 := Lib.hid hW0
  obtain ⟨hm, b, o, hq, hb, ha⟩ : x.fns.length ≤ 140737488355328 ∧ ∃ b o, (x.fns.length = 0 ∨ q = some ⟨b, o, none⟩) ∧ (b < N ∨ x.fns.length = 0) ∧ Row (Fnc.At W0 N) 5 x.fns b o := ⟨HP.out.ok.2.1, Row.start HP.out.ok.2⟩
  have Hb := Lib.hid hb
  have s1 : W0.cell? ⟨pb, 1, none⟩ = some (.slice q x.fns.length d) := cell_blk HP.out.cs (j := 1) rfl
  unfold ctFn at HW0
  unfold Prg.total
  clear hW0 k0 hB0 hz0 hP hC hb
  go_enter Try.func72, Try.ntmps72
  rw [← HW0.out] at s1
  go_wp2_with fail
  rw [HW0.out]
  clear HW0 s1
  go_loopw [8] (fun i wr => ∃ (k v : Nat) (r : List Fnc), i = .int .i64 k ∧ k + r.length = x.fns.length ∧ v ≤ 65536 ∧ Hid (Row (Fnc.At W0 N) 5 r b (o + k * 5)) ∧ Hid (Ct wr g v ∧ But g W0 wr) ∧ Hid (v + sumSc r = sumSc x.fns)) (fun i _ => x.fns.length - (intOf i).toNat)
  case atStart => exact ⟨0, 0, x.fns, rfl, by omega, by omega, Lib.hid (by rw [Nat.zero_mul]; exact ha), Lib.hid ⟨HC.out, But.refl _ _⟩, Lib.hid (by omega)⟩
  case round =>
    obtain ⟨k, v, r, rfl, hk, hv, hr, hCB, hE⟩ := hrel
    have s1r : wr.cell? ⟨pb, 1, none⟩ = some (.slice _ x.fns.length d) := cell_blk (HP.out.but hCB.out.2 hg HN0.out hpg).cs (j := 1) rfl
    cases r with
    | nil =>
      simp only [List.length_nil] at hk
      have hge : ¬ k < x.fns.length := by omega
      have hR := Lib.hid (show Cnt g 0 (sumSc x.fns) w (.returned (.tuple #[])) wr by
        have h := hE.out
        rw [sumSc, Nat.add_zero] at h
        subst h
        exact .ok (by omega) (by rw [Nat.zero_add]; exact hCB.out.1) (HB0.out.trans hCB.out.2))
      go_wp2_with fail
      go_end0
      exact hR.out
    | cons y r =>
      obtain ⟨hy, hr'⟩ := hr.out
      simp only [List.length_cons] at hk
      have hlt : k < x.fns.length := by omega
      rcases hq with h0 | rfl
      · omega
      have HEy := Lib.hid hE.out
      have HR := Lib.hid hr'
      obtain ⟨q4, c4, d4, hok4⟩ := Fnc.At.bodyC (Fnc.At.later (hCB.out.2.old hg HN0.out) (Nat.le_refl N) y b (o + k * 5) (by have := Hb.out; omega) hy)
      have hCl := Lib.hid (each_to _ y.body (Nat.lt_succ_self _) 1 (by omega) q4 c4 N wr v g w.heap.size hok4 (Nat.le_trans HN0.out hCB.out.2.size) hg (HCb.out.but hCB.out.2) hCB.out.1 hv)
      unfold seeFn at hCl
      rw [show ((1 : Nat) : Int) = 1 from rfl] at hCl
      clear hy hr' hr hE hok4
      go_wp2_with fail
      refine hCl.out.mono ?_
      intro z w3 hc
      rcases hc with ⟨h1, h2, h3⟩ | ⟨h1, h2, h3⟩
      rotate_left
      · have hR := Lib.hid (show Cnt g 0 (sumSc x.fns) w (Pn 13) w3 from .no (by have := HEy.out; rw [sumSc] at this; omega) h2 (HB0.out.trans (hCB.out.2.trans h3)))
        unfold Pn at hR ⊢
        clear h1 h2 h3
        go_wp2_with fail
        exact ⟨rfl, hR.out⟩
      have hCB2 := Lib.hid (And.intro h2 (hCB.out.2.trans h3))
      clear h2 h3
      go_wp2_with fail
      go_roundw
      case rel => exact ⟨k + 1, _, r, by go_num, by omega, h1, Lib.hid (by rw [show o + (k + 1) * 5 = o + k * 5 + 5 by omega]; exact HR.out), hCB2, Lib.hid (by have := HEy.out; rw [sumSc] at this; omega)⟩
      case measure => simp [intOf]; omega

theorem not_nilE (v : Value) (W : World) : (binOp .eql 20 (.iface 35 v) .nilIface).run Try.prog W = .ok (.bool false) W := by kernel_rfl
theorem is_errno (r : Int) (W : World) : (Instr.typeAssert (.iface 35 (.int .i64 r)) 20 35 true).run Try.prog W = .ok (.tuple #[.int .i64 r, .bool true]) W := by kernel_rfl
set_option maxHeartbeats 1600000 in
theorem idle_any (p : Addr) (w : World) :
    CallsD Try.prog 55 #[.pointer (some p)] .returning w fun e u' w' => e = .returned (.tuple #[]) ∧ u' = .returning ∧ w' = w := by
  refine callsD_of_wpS Try.func55 rfl fun c₀ cs hu => ?_
  apply wpS_seq
  apply wpS_region
  simp [wpOpsS, go_sem, recoverD, hu, Try.ntmps55, Exit.thenS]
  refine wpS_of_wp ?_
  go_wp2
  cases c₀
  simp_all [bodyPostS, results, Try.results55]
set_option maxHeartbeats 1600000 in
theorem caught1_any (g : Nat) (r : Int) (older : List PanicEntry) (w : World) (hg : w.heap[g]? = some (.cells #[.int .i64 0] 35 (0, 0))) :
    CallsD Try.prog 55 #[.pointer (some ⟨g, 0, none⟩)] (.panicking ({ v := .iface 35 (.int .i64 r), recovered := false } :: older)) w fun e u' w' =>
      e = .returned (.tuple #[]) ∧ u' = .panicking ({ v := .iface 35 (.int .i64 r), recovered := true } :: older) ∧ w' = w.setCell ⟨g, 0, none⟩ (.int .i64 r) := by
  have h1 := not_nilE
  have h2 := is_errno
  have d0 := cell_blk hg (j := 0) rfl
  have f0 : w.frozen? ⟨g, 0, none⟩ = false := by simp [World.frozen?, hg]
  refine callsD_of_wpS Try.func55 rfl fun c₀ cs hu => ?_
  apply wpS_seq
  apply wpS_region
  simp [wpOpsS, go_sem, recoverD, hu, Try.ntmps55, Exit.thenS]
  refine wpS_of_wp ?_
  clear hg
  go_wp2_with fail
  cases c₀
  simp_all [bodyPostS, results, Try.results55]
end Go.Proofs.Ytnghehcjklkoeaa
/- Taking an operation of a drawn region: its number and its value, the rest found. -/
namespace Go.Proofs.Ytnghehcjklkoeaa
open Go.RowKit

section
variable {P : Program} {md : Region.Mode} {ops : Array Oper} {Q : Exit → Act → World → Prop} {S : World → Prop}
theorem tk (i : Nat) (v : Value) {oi : Oper} {fuel : Nat} {listed : Array Bool} {a : Act} {w : World} (hi : ops.toList[i]? = some oi)
    (hy : YieldsIf P ops S oi v a) (h : wpAnyH P md ops Q S fuel (listed.setIfInBounds i true) (a.put oi.dst v) w)
    (hs : Region.noSelect ops = true := by kernel_rfl) (hf : Region.free md ops listed i = true := by kernel_rfl) (hr : (Region.ready md ops listed).contains i = true := by kernel_rfl)
    (hQ : ∀ c a w, Q (.panic c) (a.put oi.dst v) w → Q (.panic c) a w := by exact fun _ _ _ h => h) (hS : S w := by assumption) : wpAnyH P md ops Q S (fuel + 1) listed a w :=
  wpAnyH_take (Array.getElem?_toList.symm.trans hi) hs hf hr hQ hy hS h
theorem rdy {fuel : Nat} {listed : Array Bool} {a : Act} {w : World} {i : Nat} {o : Oper} {rs : List Nat} (ho : ops.toList[i]? = some o)
    (h : ∀ K' : Act → World → Prop, Shut (∀ a w, S w → (S w → wpAnyH P md ops Q S fuel (listed.setIfInBounds i true) a w) → K' a w) → if Region.wanted o (yielded ops a.tmps) = true then Oper.wp P o a w K' Q else K' (a.put o.dst undef) w)
    (hs : AllReadyH P md ops Q S fuel listed a w rs) : AllReadyH P md ops Q S fuel listed a w (i :: rs) :=
  AllReadyH.cons (Array.getElem?_toList.symm.trans ho) h hs
end
end Go.Proofs.Ytnghehcjklkoeaa
/- Size, whole. -/
namespace Go.Proofs.Ytnghehcjklkoeaa
open Go.RowKit

def cap (t : Nat) : Nat := if t ≤ 65536 then t else 65537
theorem Cnt.cap {g t : Nat} {w w' : World} {z : Ending} (h : Cnt g 0 t w z w') : (z = .returned (.tuple #[]) ∨ z = Pn 13) ∧ Ct w' g (cap t) ∧ But g w w' := by
  rcases h with ⟨h1, h2, h3⟩ | ⟨h1, h2, h3⟩
  · rw [Nat.zero_add] at h1 h2
    exact ⟨.inl rfl, by rw [Proofs.Ytnghehcjklkoeaa.cap, if_pos h1]; exact h2, h3⟩
  · rw [Nat.zero_add] at h1
    exact ⟨.inr rfl, by rw [Proofs.Ytnghehcjklkoeaa.cap, if_neg (by omega)]; exact h2, h3⟩
set_option maxHeartbeats 3200000 in
theorem caughtSize_any (t pb g : Nat) (w : World) (hg : g < w.heap.size) (h : ∀ W, Below w.heap.size w W → Calls Try.prog 72 #[.pointer (some ⟨g, 0, none⟩), .pointer (some ⟨pb, 0, none⟩)] W (Cnt g 0 t W)) :
    Calls Try.prog 31 #[.func (.func 72) #[] #[.pointer (some ⟨g, 0, none⟩), .pointer (some ⟨pb, 0, none⟩)]] w fun z w' => (∃ r, z = .returned (.int .i64 r)) ∧ Ct w' g (cap t) ∧ But g w w' := by
  have hmf : ∀ (fn : Fn) (first cap : Array Value) (w : World), (Instr.makeFunc fn first cap).run Try.prog w = .ok (.func fn first cap) w := fun _ _ _ _ => rfl
  obtain ⟨W0, hW0, k0, hB0, hz0⟩ := one_alloc w (.cells #[.int .i64 0] 35)
  have HCl := Lib.hid (h W0 hB0)
  have HB0 := Lib.hid (But.of_below (g := g) hB0)
  have HK := Lib.hid k0
  have HW0 := Lib.hid hW0
  have hne : w.heap.size ≠ g := by omega
  clear hW0 k0 hB0 hz0 h
  go_enter_defers Try.func31, Try.ntmps31
  go_wp2_with fail
  rw [HW0.out]
  refine HCl.out.mono ?_
  intro z w1 hc
  obtain ⟨hz, h2, h3⟩ := hc.cap
  have k1 := (h3.block _ (lt_blk HK.out) hne).trans HK.out
  have H1 := Lib.hid (And.intro h2 (HB0.out.trans h3))
  have HK1 := Lib.hid k1
  clear hc h2 h3
  rcases hz with rfl | rfl
  · have c0 : w1.cell? ⟨w.heap.size, 0, none⟩ = some (.int .i64 0) := cell_blk k1 rfl
    have f0 : w1.frozen? ⟨w.heap.size, 0, none⟩ = false := by simp [World.frozen?, k1]
    have hF := heap_setCell_one k1 (.int .i64 0)
    have H2 := Lib.hid (show Ct (w1.setCell ⟨w.heap.size, 0, none⟩ (.int .i64 0)) g (cap t) ∧ But g w (w1.setCell ⟨w.heap.size, 0, none⟩ (.int .i64 0)) from ⟨(Below.heap_setCell w1 _ _ _ (Ne.symm hne)).trans H1.out.1, ⟨H1.out.2.os, H1.out.2.tape, H1.out.2.output, by simpa [World.setCell] using H1.out.2.size, fun k hk hn => (Below.heap_setCell w1 _ _ _ (Nat.ne_of_lt hk)).trans (H1.out.2.block k hk hn)⟩⟩)
    have HF := Lib.hid hF
    clear k1 hF
    go_wp2_with fail
    refine leaves_cons (f := 55) (args := #[.pointer (some ⟨w.heap.size, 0, none⟩)]) (by simp) (by simp [go_sem]) ?_
    refine (idle_any _ _).mono ?_
    rintro e u w9 ⟨rfl, rfl, rfl⟩
    have y0 := cell_blk HF.out (j := 0) rfl
    refine ⟨.int .i64 0, ?_, ⟨0, rfl⟩, H2.out⟩
    simp [results, Try.results31, go_sem, y0]
  · unfold Pn
    go_wp2_with fail
    refine leaves_cons (f := 55) (args := #[.pointer (some ⟨w.heap.size, 0, none⟩)]) (by simp) (by simp [go_sem]) ?_
    refine (caught1_any w.heap.size 13 [] w1 HK1.out).mono ?_
    rintro e u w9 ⟨rfl, rfl, rfl⟩
    have hF := heap_setCell_one HK1.out (.int .i64 13)
    have y0 := cell_blk hF (j := 0) rfl
    have H2 : Ct (w1.setCell ⟨w.heap.size, 0, none⟩ (.int .i64 13)) g (cap t) ∧ But g w (w1.setCell ⟨w.heap.size, 0, none⟩ (.int .i64 13)) := ⟨(Below.heap_setCell w1 _ _ _ (Ne.symm hne)).trans H1.out.1, ⟨H1.out.2.os, H1.out.2.tape, H1.out.2.output, by simpa [World.setCell] using H1.out.2.size, fun k hk hn => (Below.heap_setCell w1 _ _ _ (Nat.ne_of_lt hk)).trans (H1.out.2.block k hk hn)⟩⟩
    show Leaves _ _ _ _ [] (settle _) _
    refine ⟨.int .i64 13, ?_, ⟨13, rfl⟩, H2⟩
    simp [results, Try.results31, go_sem, y0]

theorem two_alloc (w : World) (o0 o1 : Obj) : ∃ W, (w.alloc o0).alloc o1 = W ∧ W.heap[w.heap.size]? = some o0 ∧ W.heap[w.heap.size + 1]? = some o1 ∧ Below w.heap.size w W ∧ W.heap.size = w.heap.size + 2 := by
  refine ⟨_, rfl, ?_, ?_, ((Below.refl _ w).alloc (Nat.le_refl _) _).alloc (by simp) _, by simp⟩
  · rw [Below.heap_alloc _ _ _ (by simp)]; exact heap_alloc_new w o0
  · have := heap_alloc_new (w.alloc o0) o1; simpa using this
/-- a program as a value: its place -/
structure PrgP where
  (p q : Option Addr) (c d : Nat)
def Prg.v (x : Prg) (s : PrgP) : Value := .agg #[.slice s.p x.regs.length s.c, .slice s.q x.fns.length s.d]
set_option maxHeartbeats 1600000 in
theorem size_any (x : Prg) (s : PrgP) (N : Nat) (w : World) (h : x.Ok w N s.p s.q) (hN : N ≤ w.heap.size) :
    Calls Try.prog 58 #[x.v s] w fun z w' => z = .returned (.int .i64 (cap x.total : Nat)) ∧ Below w.heap.size w w' := by
  obtain ⟨W0, hW0, k0, k1, hB0, hz0⟩ := two_alloc w (.cells #[.slice s.p x.regs.length s.c, .slice s.q x.fns.length s.d] 25) (.cells #[.int .i64 0] 3)
  have HCl := Lib.hid (caughtSize_any x.total w.heap.size (w.heap.size + 1) W0 (by omega) fun W hW => size1_any x s.p s.q s.c s.d N w.heap.size (w.heap.size + 1) W ⟨(hW.block _ (lt_blk k0)).trans k0, h.later ((hB0.trans (hW.mono (by omega))).mono hN) (Nat.le_refl N)⟩ (by have := hW.size; omega) (by omega) ((hW.block _ (lt_blk k1)).trans k1) (by omega))
  have HB0 := Lib.hid (show Below w.heap.size w W0 ∧ w.heap.size ≤ W0.heap.size from ⟨hB0, by omega⟩)
  have HW0 := Lib.hid hW0
  unfold Prg.v
  clear hW0 k0 k1 hB0 hz0 h
  go_enter Try.func58, Try.ntmps58
  go_wp2_with fail
  rw [HW0.out]
  refine HCl.out.mono ?_
  rintro z w1 ⟨⟨r, rfl⟩, h2, h3⟩
  have c0 : w1.cell? ⟨w.heap.size + 1, 0, none⟩ = some (.int .i64 (cap x.total : Nat)) := cell_blk h2 rfl
  have HB := Lib.hid (But.below HB0.out.1 h3 (by omega) HB0.out.2)
  clear h2 h3
  go_wp2_with fail
  go_ret
  exact ⟨rfl, HB.out⟩
end Go.Proofs.Ytnghehcjklkoeaa
/- How many parts a program has. -/
namespace Go.Proofs.Ytnghehcjklkoeaa
open Go.RowKit

theorem Chk.no' {r e : Nat} {w w' : World} (h : r = e) (he : e ≠ 0) (hB : Below w.heap.size w w') : Chk r w (Pn (e : Int)) w' := by subst h; exact .no he hB
theorem few_yes (n l m : Int) (w : World) (h : (decide (l ≤ n) && decide (n ≤ m)) = true) : Calls Try.prog 56 #[.int .i64 n, .int .i64 l, .int .i64 m] w fun z w' => z = .returned (.tuple #[]) ∧ w' = w := by
  simp only [Bool.and_eq_true] at h
  obtain ⟨h1, h2⟩ := h
  go_enter Try.func56, Try.ntmps56
  go_wp2_with (go_at_call 57; refine (must_yes 13 _).mono ?_; rintro e w' ⟨rfl, rfl⟩)
  go_end0
  exact ⟨rfl, rfl⟩
theorem few_no (n l m : Int) (w : World) (h : (decide (l ≤ n) && decide (n ≤ m)) = false) : Calls Try.prog 56 #[.int .i64 n, .int .i64 l, .int .i64 m] w fun z w' => z = Pn 13 ∧ w' = w := by
  cases h1 : decide (l ≤ n) with
  | false =>
    clear h
    go_enter Try.func56, Try.ntmps56
    go_wp2_with (go_at_call 57; refine (must_no 13 _).mono ?_; rintro e w' ⟨rfl, rfl⟩; unfold Pn)
    exact ⟨rfl, rfl, rfl⟩
  | true =>
    rw [h1, Bool.true_and] at h
    go_enter Try.func56, Try.ntmps56
    go_wp2_with (go_at_call 57; refine (must_no 13 _).mono ?_; rintro e w' ⟨rfl, rfl⟩; unfold Pn)
    exact ⟨rfl, rfl, rfl⟩
/-- asked of a number: one or the other -/
def fewB (n l m : Int) : Bool := decide (l ≤ n) && decide (n ≤ m)
theorem few_any (n l m : Int) (w : World) : Calls Try.prog 56 #[.int .i64 n, .int .i64 l, .int .i64 m] w fun z w' => ((fewB n l m = true ∧ z = .returned (.tuple #[])) ∨ (fewB n l m = false ∧ z = Pn 13)) ∧ w = w' := by
  cases h : fewB n l m with
  | true => exact (few_yes n l m w h).mono fun z w' hz => ⟨.inl ⟨rfl, hz.1⟩, hz.2.symm⟩
  | false => exact (few_no n l m w h).mono fun z w' hz => ⟨.inr ⟨rfl, hz.1⟩, hz.2.symm⟩
def Rgn.few (r : Rgn) : Bool := fewB r.size 1 512
def Vr.few (v : Vr) : Bool := !((v.kind == 2) || (v.kind == 3)) || fewB v.size 1 512
def Fnc.few (f : Fnc) : Bool := fewB ((f.params.length : Int) + (f.vars.length : Int)) 0 64 && fewB f.rets.length 0 64 && f.params.all Vr.few && f.vars.all Vr.few
def Prg.few (x : Prg) : Bool := fewB x.regs.length 0 16 && fewB x.fns.length 1 32 && x.regs.all Rgn.few && x.fns.all Fnc.few && fewB (cap x.total) 0 65536
end Go.Proofs.Ytnghehcjklkoeaa
