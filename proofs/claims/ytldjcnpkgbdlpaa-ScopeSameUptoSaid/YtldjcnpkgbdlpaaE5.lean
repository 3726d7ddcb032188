/- How many statements and expressions there are. -/
import Derived.Test.YtldjcnpkgbdlpaaE4
namespace Go.Proofs.Ytldjcnpkgbdlpaa
open Go.RowKit

mutual
def St.sc : St → Nat → Nat
  | .mk kd nm ns e a as' lo hi bd el, deep => 1 + (St.mk kd nm ns e a as' lo hi bd el).own deep + bd.sc (deep + 1) + el.sc (deep + 1)
def Sts.sc : Sts → Nat → Nat
  | .nil, _ => 0
  | .cons x r, deep => if 64 < deep then 0 else x.sc deep + r.sc deep
end
theorem St.sc_eq (x : St) (deep : Nat) : x.sc deep = 1 + x.own deep + x.body.sc (deep + 1) + x.els.sc (deep + 1) := by obtain ⟨kd, nm, ns, e, a, as', lo, hi, bd, el⟩ := x; rw [St.sc]; rfl
theorem Sts.sc_deep : ∀ (l : Sts) (deep : Nat), 64 < deep → l.sc deep = 0
  | .nil, _, _ => by rw [Sts.sc]
  | .cons x r, deep, h => by rw [Sts.sc, if_pos h]
theorem Sts.sc_cons {x : St} {r : Sts} {deep : Nat} (h : deep ≤ 64) : (Sts.cons x r).sc deep = 1 + x.own deep + x.body.sc (deep + 1) + x.els.sc (deep + 1) + r.sc deep := by rw [Sts.sc, if_neg (by omega), St.sc_eq]
/-- the cell in which the count's function lies -/
structure Cb (w : World) (g cb : Nat) : Prop where
  cs : w.heap[cb]? = some (.cells #[ctFn g] 1 (0, 0))
  ns : cb ≠ g
theorem Cb.but {w w' : World} {g cb : Nat} (h : Cb w g cb) (hB : But g w w') : Cb w' g cb := ⟨(hB.block _ (lt_blk h.cs) h.ns).trans h.cs, h.ns⟩
theorem Cnt.step {g n t u v : Nat} {w w1 w2 : World} {z : Ending} (h : Cnt g (n + t) u w1 z w2) (hB : But g w w1) (hv : t + u = v) : Cnt g n v w z w2 := by
  subst hv
  rcases h with ⟨h1, h2, h3⟩ | ⟨h1, h2, h3⟩
  · exact .ok (by omega) (by rw [← Nat.add_assoc]; exact h2) (hB.trans h3)
  · exact .no (by omega) h2 (hB.trans h3)
set_option maxHeartbeats 1600000 in
theorem seeS_any (x : St) (deep : Nat) (hd : deep ≤ 64) (N b o : Nat) (w : World) (n g cb : Nat) (hx : x.At w N b o) (hb : b < N) (hN : N ≤ w.heap.size) (hg : N ≤ g) (hO : Cb w g cb) (hC : Ct w g n) (hn : n ≤ 65536) :
    Calls Try.prog 62 #[.pointer (some ⟨b, o, none⟩), .int .i64 (deep : Int), .pointer (some ⟨cb, 0, none⟩)] w (Cnt g n (1 + x.own deep) w) := by
  have HCt := Lib.hid (count_any g n w hC hn)
  have HO := Lib.hid hO
  have HX := Lib.hid hx
  have s0 := cell_blk hO.cs (j := 0) rfl
  unfold ctFn at s0
  clear hx hO hC
  go_enter Try.func62, Try.ntmps62
  go_wp2_with fail
  refine HCt.out.mono ?_
  intro z w2 hc
  rcases hc with ⟨h1, h2, h3⟩ | ⟨h1, h2, h3⟩
  rotate_left
  · have hR := Lib.hid (show Cnt g n (1 + x.own deep) w (Pn 13) w2 from .no (by omega) h2 h3)
    unfold Pn at hR ⊢
    clear h1 h2 h3 s0
    go_wp2_with fail
    exact ⟨rfl, hR.out⟩
  have hold := h3.old hg hN
  have s1 := cell_blk (HO.out.but h3).cs (j := 0) rfl
  have HE := Lib.hid (eachExpr_any x deep hd N b o w2 (n + 1) g (St.At.later hold (Nat.le_refl N) x b o hb HX.out) hb (Nat.le_trans hN h3.size) hg h2 h1)
  unfold ctFn at s1 HE
  have HB := Lib.hid h3
  clear h1 h2 h3 hold s0
  go_wp2_with fail
  refine HE.out.mono ?_
  intro z w3 hc
  replace hc := hc.step HB.out rfl
  rcases hc with ⟨h1, h2, h3⟩ | ⟨h1, h2, h3⟩
  · have hR := Lib.hid (show Cnt g n (1 + x.own deep) w (.returned (.tuple #[])) w3 from .ok h1 h2 h3)
    clear h1 h2 h3 s1
    go_wp2_with fail
    go_end0
    exact hR.out
  · have hR := Lib.hid (show Cnt g n (1 + x.own deep) w (Pn 13) w3 from .no h1 h2 h3)
    unfold Pn at hR ⊢
    clear h1 h2 h3 s1
    go_wp2_with fail
    exact ⟨rfl, hR.out⟩

theorem St.At.body {w : World} {N b o : Nat} {x : St} (h : x.At w N b o) : ∃ p c, w.cell? ⟨b, o + 14, none⟩ = some (.slice p x.body.len c) ∧ x.body.In w N p := by
  obtain ⟨kd, nm, ns, e, a, as', lo, hi, bd, el⟩ := x
  obtain ⟨_, _, _, _, _, ⟨p, c, h1, h2⟩, _⟩ := h
  exact ⟨p, c, h1, h2⟩
theorem St.At.els {w : World} {N b o : Nat} {x : St} (h : x.At w N b o) : ∃ p c, w.cell? ⟨b, o + 15, none⟩ = some (.slice p x.els.len c) ∧ x.els.In w N p := by
  obtain ⟨kd, nm, ns, e, a, as', lo, hi, bd, el⟩ := x
  obtain ⟨_, _, _, _, _, _, ⟨p, c, h1, h2⟩⟩ := h
  exact ⟨p, c, h1, h2⟩
theorem St.size_eq (x : St) : x.size = x.body.size + x.els.size + 1 := by obtain ⟨kd, nm, ns, e, a, as', lo, hi, bd, el⟩ := x; rw [St.size]; rfl
def seeFn (cb : Nat) : Value := .func (.func 62) #[] #[.pointer (some ⟨cb, 0, none⟩)]
def EachTo (s : Nat) : Prop := ∀ (l : Sts), l.size < s → ∀ (deep : Nat), deep ≤ 65 → ∀ (p : Option Addr) (c N : Nat) (w : World) (n g cb : Nat), l.In w N p → N ≤ w.heap.size → N ≤ g → Cb w g cb → Ct w g n → n ≤ 65536 →
    Calls Try.prog 54 #[.slice p l.len c, .int .i64 (deep : Int), seeFn cb] w (Cnt g n (l.sc deep) w)
set_option maxHeartbeats 6400000 in
theorem each_step (s : Nat) (ih : EachTo s) : EachTo (s + 1) := by
  intro l hls deep hd p c N w n g cb hl hN hg hW hC hn
  unfold seeFn
  by_cases hdp : 64 < deep
  · rw [Sts.sc_deep l deep hdp]
    have hR := Lib.hid (show Cnt g n 0 w (.returned (.tuple #[])) w from .ok (by omega) hC (But.refl _ _))
    have hi : (64 : Int) < (deep : Int) := by omega
    clear hW hC hl ih
    go_enter Try.func54, Try.ntmps54
    go_wp2_with fail
    go_end0
    exact hR.out
  have IH := Lib.hid ih
  clear ih
  have hi : ¬ (64 : Int) < (deep : Int) := by omega
  have hwd : IntKind.i64.wrap ((deep : Int) + 1) = ((deep + 1 : Nat) : Int) := by simp [IntKind.wrap, IntKind.bits, IntKind.signed]; omega
  obtain ⟨hm, hs⟩ := hl
  obtain ⟨b, o, hp, hb, ha⟩ : ∃ b o, (l.len = 0 ∨ p = some ⟨b, o, none⟩) ∧ (b < N ∨ l.len = 0) ∧ l.At w N b o := by
    rcases hs with h0 | ⟨b, o, hp, hb, ha⟩
    · exact ⟨0, 0, .inl h0, .inr h0, by cases l with | nil => trivial | cons => simp [Sts.len] at h0⟩
    · exact ⟨b, o, .inr hp, .inl hb, ha⟩
  have HW := Lib.hid hW
  have HC := Lib.hid hC
  have Hb := Lib.hid hb
  clear hs hW hC hb
  go_enter Try.func54, Try.ntmps54
  go_wp2_with fail
  go_loopw [11] (fun i wr => ∃ (k v : Nat) (r : Sts), i = .int .i64 k ∧ k + r.len = l.len ∧ r.size ≤ s ∧ v ≤ 65536 ∧ Hid (r.At w N b (o + k * 16)) ∧ Hid (Ct wr g v ∧ But g w wr) ∧ Hid (v + r.sc deep = n + l.sc deep)) (fun i _ => l.len - (intOf i).toNat)
  case atStart => exact ⟨0, n, l, rfl, by omega, by omega, hn, Lib.hid (by rw [Nat.zero_mul]; exact ha), Lib.hid ⟨HC.out, But.refl _ _⟩, Lib.hid rfl⟩
  case round =>
    obtain ⟨k, v, r, rfl, hk, hrs, hv, hr, hCB, hE⟩ := hrel
    cases r with
    | nil =>
      simp only [Sts.len] at hk
      have hge : ¬ k < l.len := by omega
      have hR := Lib.hid (show Cnt g n (l.sc deep) w (.returned (.tuple #[])) wr by
        have h := hE.out
        rw [Sts.sc, Nat.add_zero] at h
        subst h
        exact .ok hv hCB.out.1 hCB.out.2)
      go_wp2_with fail
      go_end0
      exact hR.out
    | cons y r =>
      obtain ⟨hy, hr'⟩ := hr.out
      simp only [Sts.len] at hk
      simp only [Sts.size] at hrs
      have hlt : k < l.len := by omega
      rcases hp with h0 | rfl
      · omega
      have hEy := hE.out
      rw [Sts.sc_cons (by omega)] at hEy
      have HEy := Lib.hid hEy
      have HR := Lib.hid hr'
      have HY := Lib.hid (And.intro hy (show b < N by have := Hb.out; omega))
      have HSz := Lib.hid y.size_eq
      have HCt := Lib.hid (seeS_any y deep (by omega) N b (o + k * 16) wr v g cb (St.At.later (hCB.out.2.old hg hN) (Nat.le_refl N) y b _ HY.out.2 hy) HY.out.2 (Nat.le_trans hN hCB.out.2.size) hg (HW.out.but hCB.out.2) hCB.out.1 hv)
      clear hy hr' hr hEy hE
      go_wp2_with fail
      refine HCt.out.mono ?_
      intro z w2 hc
      rcases hc with ⟨h1, h2, h3⟩ | ⟨h1, h2, h3⟩
      rotate_left
      · have hR := Lib.hid (show Cnt g n (l.sc deep) w (Pn 13) w2 from .no (by have := HEy.out; omega) h2 (hCB.out.2.trans h3))
        unfold Pn at hR ⊢
        clear h1 h2 h3
        go_wp2_with fail
        exact ⟨rfl, hR.out⟩
      have hCB2 := Lib.hid (And.intro h2 (hCB.out.2.trans h3))
      obtain ⟨q, cq, d0, hok⟩ := St.At.body (St.At.later (hCB2.out.2.old hg hN) (Nat.le_refl N) y b (o + k * 16) HY.out.2 HY.out.1)
      have hCl := Lib.hid (IH.out y.body (by have := HSz.out; omega) (deep + 1) (by omega) q cq N w2 _ g cb hok (Nat.le_trans hN hCB2.out.2.size) hg (HW.out.but hCB2.out.2) h2 h1)
      unfold seeFn at hCl
      clear h1 h2 h3 hok
      go_wp2_with fail
      refine hCl.out.mono ?_
      intro z w3 hc
      rcases hc with ⟨h1, h2, h3⟩ | ⟨h1, h2, h3⟩
      rotate_left
      · have hR := Lib.hid (show Cnt g n (l.sc deep) w (Pn 13) w3 from .no (by have := HEy.out; omega) h2 (hCB2.out.2.trans h3))
        unfold Pn at hR ⊢
        clear h1 h2 h3
        go_wp2_with fail
        exact ⟨rfl, hR.out⟩
      have hCB3 := Lib.hid (And.intro h2 (hCB2.out.2.trans h3))
      obtain ⟨q4, cq4, d4, hok4⟩ := St.At.els (St.At.later (hCB3.out.2.old hg hN) (Nat.le_refl N) y b (o + k * 16) HY.out.2 HY.out.1)
      have hCl4 := Lib.hid (IH.out y.els (by have := HSz.out; omega) (deep + 1) (by omega) q4 cq4 N w3 _ g cb hok4 (Nat.le_trans hN hCB3.out.2.size) hg (HW.out.but hCB3.out.2) h2 h1)
      unfold seeFn at hCl4
      clear h1 h2 h3 hok4 d0
      go_wp2_with fail
      refine hCl4.out.mono ?_
      intro z w4 hc
      rcases hc with ⟨h1, h2, h3⟩ | ⟨h1, h2, h3⟩
      rotate_left
      · have hR := Lib.hid (show Cnt g n (l.sc deep) w (Pn 13) w4 from .no (by have := HEy.out; omega) h2 (hCB3.out.2.trans h3))
        unfold Pn at hR ⊢
        clear h1 h2 h3
        go_wp2_with fail
        exact ⟨rfl, hR.out⟩
      have hCB4 := Lib.hid (And.intro h2 (hCB3.out.2.trans h3))
      clear h2 h3 d4
      go_wp2_with fail
      go_roundw
      case rel => exact ⟨k + 1, _, r, by go_num, by omega, by omega, h1, Lib.hid (by rw [show o + (k + 1) * 16 = o + k * 16 + 16 by omega]; exact HR.out), hCB4, Lib.hid (by have := HEy.out; omega)⟩
      case measure => simp [intOf]; omega
theorem each_to : ∀ n, EachTo n
  | 0 => fun _ h => absurd h (Nat.not_lt_zero _)
  | n + 1 => each_step n (each_to n)
end Go.Proofs.Ytldjcnpkgbdlpaa
