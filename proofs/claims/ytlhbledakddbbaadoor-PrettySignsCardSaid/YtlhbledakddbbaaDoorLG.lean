/- The law on signs: its walk. -/
import Derived.Test.YtlhbledakddbbaaDoorD2
namespace Go.Proofs.YtlhbledakddbbaaDoor
open Go.RowKit

set_option maxRecDepth 100000 in
set_option maxHeartbeats 3200000 in
theorem signs_law (o : Int) (l : List UInt8) (w : World) (hG : Glob w) (h1 : -9223372036854775808 ≤ o) (h2 : o < 9223372036854775808) : Calls Tryd.prog 3 #[.int .i64 o, .string (str l)] w fun e w' => e = .returned (.bool true) ∧ Below w.heap.size w w' := by
  have HG := Lib.hid (fun w' (h : Below w.heap.size w w') => hG.later h)
  have HK := Lib.hid (fun w' (h : Below w.heap.size w w') => known_any w' (HG.out w' h))
  have hsz := size_str l
  clear hG
  by_cases hl : 9000 < (str l).size
  · go_enter Tryd.func3, Tryd.ntmps3
    go_wp2_with fail
    refine (HK.out _ (Below.refl _ _)).mono ?_
    rintro e w1 ⟨rfl, hB1⟩
    go_wp2_with fail
    go_ret
    exact ⟨rfl, hB1⟩
  · have HS := Lib.hid (fun w => sign_any o w)
    have HR := Lib.hid (fun w => refSign_any o w h1 h2)
    have HO := Lib.hid (fun w => op_sign l w)
    have hno : ((str (signOf o)).toList != (str (signOf o)).toList) = false := by simp
    have hho : hasSign o = !((str (signOf o)).toList == []) := by
      rw [Lib.toList_data, str_data]
      by_cases h : o < 6 ∨ 20 < o
      · rw [(no_sign h).1, (no_sign h).2]; rfl
      · obtain ⟨g1, g2⟩ := has_sign (o := o) (by omega) (by omega)
        rw [g1]
        cases hso : signOf o with
        | nil => exact absurd hso g2
        | cons a b => rfl
    generalize signOf o = so at HS HR hno hho
    generalize hasSign o = ho at HS hho
    go_enter Tryd.func3, Tryd.ntmps3
    go_wp2_with fail
    refine (HS.out _).mono ?_
    rintro e w1 ⟨rfl, hB⟩
    have HB1 := Lib.hid hB
    clear hB
    go_wp2_with fail
    refine (HR.out _).mono ?_
    rintro e w2 ⟨rfl, hB⟩
    have HB2 := Lib.hid (HB1.out.trans (hB.mono HB1.out.size))
    clear hB
    go_wp2_with fail
    refine (HO.out _).mono ?_
    rintro e w3 ⟨rfl, hB⟩
    have HB3 := Lib.hid (HB2.out.trans (hB.mono HB2.out.size))
    have HY := Lib.hid (fun (k : Int) (h1 : 6 ≤ k) (h2 : k ≤ 20) (h : signOf k = l) => show opV l = k ∧ (opAt l).isSome = true by
      have hf : ∃ x ∈ signT, x.1 = k ∧ x.2 = signOf k := by
        rcases fifteen h1 h2 with rfl | rfl | rfl | rfl | rfl | rfl | rfl | rfl | rfl | rfl | rfl | rfl | rfl | rfl | rfl <;> decide
      obtain ⟨x, hx, hk, ht⟩ := hf
      have := opAt_some hx (ht.trans h)
      unfold opV
      rw [this, hk]
      exact ⟨rfl, rfl⟩)
    have HN := Lib.hid (fun (h : ∀ k : Int, 6 ≤ k → k ≤ 20 → signOf k ≠ l) => show opV l = 0 ∧ (opAt l).isSome = false by
      have : opAt l = none := opAt_none fun x hx => by
        have hall : ∀ y ∈ signT, 6 ≤ y.1 ∧ y.1 ≤ 20 ∧ signOf y.1 = y.2 := by decide
        obtain ⟨a, b, c⟩ := hall x hx
        rw [← c]
        exact h x.1 a b
      unfold opV
      rw [this]
      exact ⟨rfl, rfl⟩)
    have HRk := Lib.hid (fun (k : Int) (h1 : 6 ≤ k) (h2 : k ≤ 20) w => refSign_any k w (by omega) (by omega))
    clear hB hno hho HS HR HO HB1 HB2
    generalize opV l = ov at HY HN ⊢
    generalize (opAt l).isSome = ob at HY HN ⊢
    go_wp2_with fail
    go_loopw [10] (fun x wr => ∃ k : Int, x = .int .i64 k ∧ 6 ≤ k ∧ k ≤ 21 ∧ Hid (∀ j : Int, 6 ≤ j → j < k → signOf j ≠ l) ∧ Hid (Below w.heap.size w wr)) (fun x _ => (21 - intOf x).toNat)
    case atStart => exact ⟨6, rfl, by omega, by omega, Lib.hid (fun j a b => absurd a (by omega)), HB3⟩
    case round =>
      obtain ⟨k, rfl, g1, g2, hno, hB⟩ := hrel
      by_cases hk : k ≤ 20
      · go_wp2_with fail
        refine (HRk.out k g1 hk _).mono ?_
        rintro e w4 ⟨rfl, hB4⟩
        have HB4 := Lib.hid (hB.out.trans (hB4.mono hB.out.size))
        clear hB4
        by_cases hs : signOf k = l
        · have hf := HY.out k g1 hk hs
          obtain ⟨rfl, rfl⟩ := hf
          rw [hs]
          have e1 : ((str l).toList == (str l).toList) = true := by simp
          go_wp2_with fail
          refine (HK.out _ HB4.out).mono ?_
          rintro e w5 ⟨rfl, hB5⟩
          have HB5 := Lib.hid (HB4.out.trans (hB5.mono HB4.out.size))
          clear hB5
          go_wp2_with fail
          go_ret
          exact ⟨rfl, HB5.out⟩
        · have e1 : ((str (signOf k)).toList == (str l).toList) = false := by rw [Lib.toList_data, Lib.toList_data, str_data, str_data]; simpa using hs
          have hw : IntKind.i64.wrap (k + 1) = k + 1 := by simp [IntKind.wrap, IntKind.bits, IntKind.signed]; omega
          go_wp2_with fail
          go_roundw
          case rel =>
            refine ⟨k + 1, rfl, by omega, by omega, Lib.hid (fun j a b => ?_), HB4⟩
            by_cases hj : j = k
            · subst hj; exact hs
            · exact hno.out j a (by omega)
          case measure => simp [intOf]; omega
      · have hf := HN.out (fun j a b => hno.out j a (by omega))
        obtain ⟨rfl, rfl⟩ := hf
        go_wp2_with fail
        refine (HK.out _ hB.out).mono ?_
        rintro e w5 ⟨rfl, hB5⟩
        have HB5 := Lib.hid (hB.out.trans (hB5.mono hB.out.size))
        clear hB5
        go_wp2_with fail
        go_ret
        exact ⟨rfl, HB5.out⟩
end Go.Proofs.YtlhbledakddbbaaDoor
