/- The law on terms: its walk. -/
import Derived.Test.YtaaglgchfhimaaaTB
namespace Go.Proofs.Ytaaglgchfhimaaa
open Go.RowKit

set_option maxHeartbeats 1600000 in
theorem law_terms (l : Tf) (p : Option Addr) (cap N : Nat) (w : World) (h : l.In w N p) (hN : N ≤ w.heap.size) (hw : l.weight ≤ 1000000000) :
    Calls Try.prog 3 #[.slice p l.len cap] w fun e w' => e = .returned (.bool true) ∧ Below w.heap.size w w' := by
  have HS := Lib.hid (small_any l p cap N w h hN hw)
  have HT := Lib.hid (fun (w1 : World) (hb : Below w.heap.size w w1) (hd : l.deep ≤ 512) (hc : l.len + l.under ≤ 1000000) => terms_any l p cap N w1 (Tf.In_later h hb hN) (Nat.le_trans hN hb.size) hd hc)
  have HR := Lib.hid (fun (w1 : World) (hb : Below w.heap.size w w1) => refTerms_any l p cap N w1 (Tf.In_later h hb hN) (Nat.le_trans hN hb.size))
  have hcl := Tf.count_le l
  have heq := Tf.ok_ref l
  clear h
  by_cases hs : (decide (l.deep ≤ 60) && decide (l.weight ≤ 3000)) = true
  · have hd : l.deep ≤ 512 := by simp at hs; omega
    have hc : l.len + l.under ≤ 1000000 := by simp at hs; omega
    go_enter Try.func3, Try.ntmps3
    go_wp2_with (go_at_call 7; refine HS.out.mono ?_; rintro e w1 ⟨he, hB1⟩; rw [hs] at he; subst he)
    refine (HT.out w1 hB1 hd hc).mono ?_
    rintro e w2 ⟨rfl, hB2⟩
    have hB2' := hB1.trans (hB2.mono hB1.size)
    clear hB1 hB2
    go_wp2_with fail
    refine (HR.out w2 hB2').mono ?_
    rintro e w3 ⟨he, hB3⟩
    rw [← heq] at he
    subst he
    have hB3' := hB2'.trans (hB3.mono hB2'.size)
    clear hB2' hB3
    go_wp2_with fail
    refine (known_any w3).mono ?_
    rintro e w4 ⟨rfl, hB4⟩
    have hB4' := hB3'.trans (hB4.mono hB3'.size)
    clear hB3' hB4
    go_wp2_with fail
    go_ret
    exact ⟨rfl, hB4'⟩
  · rw [Bool.not_eq_true] at hs
    go_enter Try.func3, Try.ntmps3
    go_wp2_with (go_at_call 7; refine HS.out.mono ?_; rintro e w1 ⟨he, hB1⟩; rw [hs] at he; subst he)
    refine (known_any w1).mono ?_
    rintro e w4 ⟨rfl, hB4⟩
    have hB4' := hB1.trans (hB4.mono hB1.size)
    clear hB1 hB4
    go_wp2_with fail
    go_ret
    exact ⟨rfl, hB4'⟩
end Go.Proofs.Ytaaglgchfhimaaa
