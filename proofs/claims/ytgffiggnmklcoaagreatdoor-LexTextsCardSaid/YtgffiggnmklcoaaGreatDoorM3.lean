/- Are two lists of tokens the same, the document's. -/
import Derived.Test.YtgffiggnmklcoaaGreatDoorM2
import Derived.Lib.SmallJoins
import Derived.Outline
namespace Go.Proofs.YtgffiggnmklcoaaGreatDoor
open Go.RowKit

theorem below_drewN' {B : Nat} {a w : World} (h : Below B a w) (n : Nat) : Below B a (w.drewN n) := by
  induction n with
  | zero => exact h
  | succ n ih => exact ih.drew
set_option maxRecDepth 100000 in
set_option maxHeartbeats 6400000 in
theorem rsame_any (a b : List Tz) (p q : Option Addr) (c d N : Nat) (w : World) (ha : TzsIn w N a p) (hb : TzsIn w N b q) (hN : N ≤ w.heap.size) (hc : a.length ≤ c) (hcm : c ≤ 9223372036854775807) (hd : b.length ≤ d) (_hdm : d ≤ 9223372036854775807) :
    Calls Tryz.prog 28 #[.slice p a.length c, .slice q b.length d] w fun e w' => e = .returned (.bool (sameZ a b)) ∧ Below w.heap.size w w' := by
  have HA := Lib.hid ha
  have HB := Lib.hid hb
  clear ha hb
  by_cases hl : a.length = b.length
  · have HLn := Lib.hid hl
    obtain ⟨n, hn⟩ : ∃ n, b.length = n := ⟨_, rfl⟩
    have HNn := Lib.hid hn
    rw [hl, hn]
    rw [hl, hn] at hc
    rw [hn] at hd
    clear hl hn
    go_enter Tryz.func28, Tryz.ntmps28
    go_wp2_with fail
    go_loopw [5] (fun i wr => ∃ k : Nat, i = .int .i64 k ∧ k ≤ n ∧ Hid (sameZ (a.take k) (b.take k) = true) ∧ Hid (Below w.heap.size w wr)) (fun i _ => n - (intOf i).toNat)
    case atStart => exact ⟨0, rfl, by omega, Lib.hid rfl, Lib.hid (Below.refl _ _)⟩
    case round =>
      obtain ⟨k, rfl, hk, hS, hB⟩ := hrel
      by_cases hlt : k < n
      · obtain ⟨x, hx⟩ : ∃ x, a[k]? = some x := ⟨_, List.getElem?_eq_getElem (by have := HLn.out; have := HNn.out; omega)⟩
        obtain ⟨y, hy⟩ : ∃ y, b[k]? = some y := ⟨_, List.getElem?_eq_getElem (by have := HNn.out; omega)⟩
        obtain ⟨b1, o1, rfl, hb1, hA1⟩ : ∃ b1 o1, p = some ⟨b1, o1, none⟩ ∧ b1 < N ∧ ∀ i t, a[i]? = some t → TzAt w t b1 (o1 + i * 5) := by
          rcases HA.out with h0 | h0
          · have := HLn.out; have := HNn.out; omega
          · exact h0
        obtain ⟨b2, o2, rfl, hb2, hA2⟩ : ∃ b2 o2, q = some ⟨b2, o2, none⟩ ∧ b2 < N ∧ ∀ i t, b[i]? = some t → TzAt w t b2 (o2 + i * 5) := by
          rcases HB.out with h0 | h0
          · have := HNn.out; omega
          · exact h0
        have hz1 : b1 < w.heap.size := by omega
        have hz2 : b2 < w.heap.size := by omega
        obtain ⟨c0, c1, c2, c3, c4⟩ := (hA1 k x hx).later hz1 hB.out
        obtain ⟨d0, d1, d2, d3, d4⟩ := (hA2 k y hy).later hz2 hB.out
        have HSn := Lib.hid (fun h => sameZ_snoc hS.out hx hy h)
        have HNo := Lib.hid (fun h => sameZ_no hx hy h)
        have HBn := Lib.hid (fun n => below_drewN' hB.out n)
        have ki := IntWalk.i64_in (k : Int) (by omega)
        clear hx hy hA1 hA2 hb1 hb2 c3 c4 d3 d4
        have e1 := int_bne x.kind y.kind
        have e2 := str_beq x.text y.text
        have e3 := int_bne x.word y.word
        unfold sameT at HSn HNo
        generalize decide (x.kind = y.kind) = u at e1 HSn HNo
        generalize decide (x.text = y.text) = v at e2 HSn HNo
        generalize decide (x.word = y.word) = z at e3 HSn HNo
        have i0 : (0 : Int) ≤ (k : Int) := by omega
        have i1 : (k : Int) < (n : Int) := by omega
        cases u
        case false =>
          have HF := Lib.hid (HNo.out rfl)
          clear HSn HNo
          go_wp2_with fail
          go_quiet (fail)
          go_wp2_with fail
          go_ret
          exact ⟨ret_bool HF.out.symm, HBn.out _⟩
        case true =>
          cases v
          case false =>
            have HF := Lib.hid (HNo.out rfl)
            clear HSn HNo
            go_wp2_with fail
            go_quiet (fail)
            go_wp2_with fail
            go_ret
            exact ⟨ret_bool HF.out.symm, HBn.out _⟩
          case true =>
            cases z
            case false =>
              have HF := Lib.hid (HNo.out rfl)
              clear HSn HNo
              go_wp2_with fail
              go_quiet (fail)
              go_wp2_with fail
              go_ret
              exact ⟨ret_bool HF.out.symm, HBn.out _⟩
            case true =>
              have HT := Lib.hid (HSn.out rfl)
              clear HSn HNo
              go_wp2_with fail
              go_quiet (fail)
              go_wp2_with fail
              go_roundw
              case rel => exact ⟨k + 1, by go_num, by omega, HT, Lib.hid (HBn.out _)⟩
              case measure => simp [intOf]; omega
      · obtain rfl : k = n := by omega
        have HF := Lib.hid (show sameZ a b = true by
          have h := hS.out
          rw [List.take_of_length_le (by have := HLn.out; have := HNn.out; omega), List.take_of_length_le (by have := HNn.out; omega)] at h; exact h)
        go_wp2_with fail
        go_ret
        exact ⟨ret_bool HF.out.symm, hB.out⟩
  · have HF := Lib.hid (sameZ_len hl)
    have hne : ((a.length : Int) != b.length) = true := by simp; omega
    have hl' : ¬ (a.length : Int) = b.length := by omega
    go_enter Tryz.func28, Tryz.ntmps28
    go_wp2_with fail
    go_ret
    exact ⟨ret_bool HF.out.symm, Below.refl _ _⟩
end Go.Proofs.YtgffiggnmklcoaaGreatDoor
