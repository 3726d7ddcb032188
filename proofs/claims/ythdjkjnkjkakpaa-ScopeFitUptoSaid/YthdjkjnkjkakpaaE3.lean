/- How many expressions a statement has. -/
import Derived.Test.YthdjkjnkjkakpaaE2
namespace Go.Proofs.Ythdjkjnkjkakpaa
open Go.RowKit

def Ex.oc (x : Ex) (deep : Nat) : Nat := if x.isZ then 0 else x.wc deep
def Exs.oc : Exs → Nat → Nat
  | .nil, _ => 0
  | .cons x r, deep => x.oc deep + r.oc deep
def St.own (x : St) (deep : Nat) : Nat := x.a.oc deep + x.e.oc deep + x.args.oc deep
structure On (w : World) (g sb wb db deep : Nat) : Prop extends Wn w g sb wb where
  cd : w.heap[db]? = some (.cells #[.int .i64 (deep : Int)] 3 (0, 0))
  nd : db ≠ g
theorem On.but {w w' : World} {g sb wb db deep : Nat} (h : On w g sb wb db deep) (hB : But g w w') : On w' g sb wb db deep :=
  ⟨h.toWn.but hB, (hB.block _ (lt_blk h.cd) h.nd).trans h.cd, h.nd⟩
def owFn (sb wb db : Nat) : Value := .func (.func 92) #[] #[.pointer (some ⟨sb, 0, none⟩), .pointer (some ⟨wb, 0, none⟩), .pointer (some ⟨db, 0, none⟩)]
set_option maxHeartbeats 3200000 in
theorem ownE_any (x : Ex) (deep : Nat) (hd : deep ≤ 64) (N b o : Nat) (w : World) (n g sb wb db : Nat) (hx : x.At w N b o) (hb : b < N) (hN : N ≤ w.heap.size) (hg : N ≤ g) (hO : On w g sb wb db deep) (hC : Ct w g n) (hn : n ≤ 65536) :
    Calls Try.prog 92 #[.pointer (some ⟨b, o, none⟩), .pointer (some ⟨sb, 0, none⟩), .pointer (some ⟨wb, 0, none⟩), .pointer (some ⟨db, 0, none⟩)] w (Cnt g n (x.oc deep) w) := by
  have HZ := Lib.hid (zeroE_any x N b o w hx)
  unfold Ex.oc
  cases hz : x.isZ with
  | true =>
    rw [hz] at HZ
    have hR := Lib.hid (show Cnt g n 0 w (.returned (.tuple #[])) w from .ok (by omega) hC (But.refl _ _))
    clear hx hO hC hz
    go_enter Try.func92, Try.ntmps92
    go_wp2_with (go_at_call 93; refine HZ.out.mono ?_; rintro z w' ⟨rfl, rfl⟩)
    go_end0
    exact hR.out
  | false =>
    rw [hz] at HZ
    have HCt := Lib.hid (count_any g n w hC hn)
    have HO := Lib.hid hO
    have HX := Lib.hid hx
    have s0 := cell_blk hO.cs (j := 0) rfl
    unfold ctFn at s0
    have hwc := x.wc_eq deep
    have hwd : IntKind.i64.wrap ((deep : Int) + 1) = (deep : Int) + 1 := by simp [IntKind.wrap, IntKind.bits, IntKind.signed]; omega
    simp only [Bool.false_eq_true, if_false]
    rw [hwc]
    clear hx hO hC hz hwc
    go_enter Try.func92, Try.ntmps92
    go_wp2_with (go_at_call 93; refine HZ.out.mono ?_; rintro z w' ⟨rfl, rfl⟩)
    refine HCt.out.mono ?_
    intro z w2 hc
    rcases hc with ⟨h1, h2, h3⟩ | ⟨h1, h2, h3⟩
    rotate_left
    · have hR := Lib.hid (show Cnt g n (1 + x.args.wc (deep + 1)) w' (Pn 13) w2 from .no (by omega) h2 h3)
      unfold Pn at hR ⊢
      clear h1 h2 h3 s0
      go_wp2_with fail
      exact ⟨rfl, hR.out⟩
    have hold := h3.old hg hN
    obtain ⟨q, cq, d0, d1, d2, d3, hok⟩ := (Ex.At.later hold (Nat.le_refl N) x b o hb HX.out).open'
    have hO2 := HO.out.but h3
    have hCl := Lib.hid (within_to _ x.args (Nat.lt_succ_self _) (deep + 1) (by omega) q cq N w2.drew (n + 1) g sb wb (hok.1.later ((Below.refl N w2).drew) (Nat.le_refl N)) (Nat.le_trans hN h3.size) hg (hO2.toWn.but (But.refl g w2).drew) h2 h1)
    rw [show ((deep + 1 : Nat) : Int) = (deep : Int) + 1 by omega] at hCl
    have s1 := cell_blk hO2.cw (j := 0) rfl
    have s2 := cell_blk hO2.cd (j := 0) rfl
    unfold wnFn at s1
    have HB3 := Lib.hid h3
    have HAll := Lib.hid (fun (z : Ending) (w3 : World) (h : Cnt g (n + 1) (x.args.wc (deep + 1)) w2.drew z w3) => show Cnt g n (1 + x.args.wc (deep + 1)) w' z w3 from by
      rcases h with ⟨h1, h2, h3⟩ | ⟨h1, h2, h3⟩
      · exact .ok (by omega) (by rw [← Nat.add_assoc]; exact h2) (HB3.out.drew.trans h3)
      · exact .no (by omega) h2 (HB3.out.drew.trans h3))
    clear h1 h2 h3 hold hok s0 hO2
    go_wp2_with fail
    go_region_with (go_at_call 91; refine hCl.out.mono ?_; intro z w3 hc; replace hc := HAll.out z w3 hc; rcases hc with ⟨h1, h2, h3⟩ | ⟨h1, h2, h3⟩; rotate_left; (exact ⟨rfl, (Cnt.no h1 h2 h3 : Cnt g n (1 + x.args.wc (deep + 1)) w' (Pn 13) w3)⟩))
    all_goals
      (go_wp2_with fail
       go_end0
       exact .ok h1 h2 h3)

theorem St.At.a {w : World} {N b o : Nat} {x : St} (h : x.At w N b o) : x.a.At w N b (o + 7) := by
  obtain ⟨kd, nm, ns, e, a, as', lo, hi, bd, el⟩ := x
  obtain ⟨_, _, _, ha, _⟩ := h
  exact ha
theorem St.At.e {w : World} {N b o : Nat} {x : St} (h : x.At w N b o) : x.e.At w N b (o + 3) := by
  obtain ⟨kd, nm, ns, e, a, as', lo, hi, bd, el⟩ := x
  obtain ⟨_, _, he, _⟩ := h
  exact he
theorem Sl.start {N n : Nat} {p : Option Addr} {A : Nat → Nat → Prop} (h : Sl N p n A) : n = 0 ∨ ∃ b o, p = some ⟨b, o, none⟩ ∧ b < N ∧ A b o := h.2
end Go.Proofs.Ythdjkjnkjkakpaa
