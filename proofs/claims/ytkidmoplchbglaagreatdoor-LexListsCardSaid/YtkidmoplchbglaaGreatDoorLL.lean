/- The law on lists of tokens: its walk. -/
import Derived.Test.YtkidmoplchbglaaGreatDoorH4
import Derived.Test.YtkidmoplchbglaaGreatDoorM5
namespace Go.Proofs.YtkidmoplchbglaaGreatDoor
open Go.RowKit

set_option maxRecDepth 100000 in
set_option maxHeartbeats 3200000 in
theorem lists_law (a b : List Tz) (p q : Option Addr) (c d : Nat) (w : World) (hG : Glob w) (ha : (TzsIn w w.heap.size a p ∧ ∀ t ∈ a, t.text.length ≤ 9223372036854775807) ∧ a.length ≤ c ∧ c ≤ 9223372036854775807 ∧ (p = none → c = 0)) (hb : (TzsIn w w.heap.size b q ∧ ∀ t ∈ b, t.text.length ≤ 9223372036854775807) ∧ b.length ≤ d ∧ d ≤ 9223372036854775807 ∧ (q = none → d = 0)) :
    Calls Tryz.prog 6 #[.slice p a.length c, .slice q b.length d] w fun e w' => e = .returned (.bool true) ∧ Below w.heap.size w w' := by
  obtain ⟨⟨hA, hAz⟩, a1, a2, _⟩ := ha
  obtain ⟨⟨hB, hBz⟩, b1, b2, _⟩ := hb
  have HA := Lib.hid hA
  have HB := Lib.hid hB
  have HK := Lib.hid (fun w h => known_any w h)
  have HM1 := Lib.hid (much_any a p c w.heap.size w hA (Nat.le_refl _) a1 a2 hAz)
  have HM2 := Lib.hid (much_any b q d w.heap.size w hB (Nat.le_refl _) b1 b2 hBz)
  have HG := Lib.hid hG
  have h3 := hG.2.2.2
  clear hG hA hB hAz hBz
  cases hm1 : muchB a
  case true =>
    rw [hm1] at HM1
    clear hm1
    go_enter Tryz.func6, Tryz.ntmps6
    go_wp2_with fail
    refine HM1.out.mono ?_
    rintro e w' ⟨rfl, rfl⟩
    go_wp2_with fail
    refine (HK.out _ HG.out).mono ?_
    rintro e w1 ⟨rfl, hB1⟩
    go_wp2_with fail
    go_ret
    exact ⟨rfl, hB1⟩
  case false =>
    rw [hm1] at HM1
    cases hm2 : muchB b
    case true =>
      rw [hm2] at HM2
      clear hm1 hm2
      go_enter Tryz.func6, Tryz.ntmps6
      go_wp2_with fail
      refine HM1.out.mono ?_
      rintro e w' ⟨rfl, rfl⟩
      go_wp2_with fail
      refine HM2.out.mono ?_
      rintro e w' ⟨rfl, rfl⟩
      go_wp2_with fail
      refine (HK.out _ HG.out).mono ?_
      rintro e w1 ⟨rfl, hB1⟩
      go_wp2_with fail
      go_ret
      exact ⟨rfl, hB1⟩
    case false =>
      rw [hm2] at HM2
      have t1 := much_tot hm1
      have hp := plainZ_len a
      have hl : a.length ≤ 1000000 := by unfold totZ at t1; omega
      have HP := Lib.hid (plainz_any a p c w.heap.size w HA.out (Nat.le_refl _) a1 a2 hl (by omega))
      have HR := Lib.hid (fun (w1 : World) (hB : Below w.heap.size w w1) => rplain_any a p c w.heap.size w1 (HA.out.later (Nat.le_refl _) hB) hB.size a1 a2 t1)
      have HS := Lib.hid (fun (w1 : World) (hB : Below w.heap.size w w1) => same_any a b p q c d w.heap.size w1 (HA.out.later (Nat.le_refl _) hB) (HB.out.later (Nat.le_refl _) hB) hB.size a1 a2 b1 b2)
      have HT := Lib.hid (fun (w1 : World) (hB : Below w.heap.size w w1) => rsame_any a b p q c d w.heap.size w1 (HA.out.later (Nat.le_refl _) hB) (HB.out.later (Nat.le_refl _) hB) hB.size a1 a2 b1 b2)
      have HU := Lib.hid (fun (w1 : World) (hB : Below w.heap.size w w1) => same_any a a p p c c w.heap.size w1 (HA.out.later (Nat.le_refl _) hB) (HA.out.later (Nat.le_refl _) hB) hB.size a1 a2 a1 a2)
      rw [sameZ_self] at HU
      generalize str (plainZ a) = s at HP HR
      generalize sameZ a b = x at HS HT
      have e1 : (s.toList == s.toList) = true := by simp
      have e2 : (x == x) = true := by simp
      clear hm1 hm2 t1 hp hl
      go_enter Tryz.func6, Tryz.ntmps6
      go_wp2_with fail
      refine HM1.out.mono ?_
      rintro e w' ⟨rfl, rfl⟩
      go_wp2_with fail
      refine HM2.out.mono ?_
      rintro e w' ⟨rfl, rfl⟩
      go_wp2_with fail
      refine HP.out.mono ?_
      rintro e w1 ⟨rfl, hB⟩
      have HB1 := Lib.hid hB
      clear hB
      go_wp2_with fail
      refine (HR.out _ HB1.out).mono ?_
      rintro e w2 ⟨rfl, hB⟩
      have HB2 := Lib.hid (HB1.out.trans (hB.mono HB1.out.size))
      clear hB
      go_wp2_with fail
      refine (HS.out _ HB2.out).mono ?_
      rintro e w3 ⟨rfl, hB⟩
      have HB3 := Lib.hid (HB2.out.trans (hB.mono HB2.out.size))
      clear hB
      go_wp2_with fail
      refine (HT.out _ HB3.out).mono ?_
      rintro e w4 ⟨rfl, hB⟩
      have HB4 := Lib.hid (HB3.out.trans (hB.mono HB3.out.size))
      clear hB
      go_wp2_with fail
      refine (HU.out _ HB4.out).mono ?_
      rintro e w5 ⟨rfl, hB⟩
      have HB5 := Lib.hid (HB4.out.trans (hB.mono HB4.out.size))
      clear hB
      go_wp2_with fail
      refine (HK.out _ (HG.out.later h3 HB5.out)).mono ?_
      rintro e w6 ⟨rfl, hB⟩
      have HB6 := Lib.hid (HB5.out.trans (hB.mono HB5.out.size))
      clear hB
      go_wp2_with fail
      go_ret
      exact ⟨rfl, HB6.out⟩
end Go.Proofs.YtkidmoplchbglaaGreatDoor
