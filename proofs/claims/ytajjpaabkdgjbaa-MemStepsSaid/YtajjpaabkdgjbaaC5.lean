/- Rows of rows that are the same. -/
import Derived.Test.YtajjpaabkdgjbaaC4
namespace Go.Proofs.Ytajjpaabkdgjbaa
open Go.RowKit

set_option maxRecDepth 100000 in
set_option maxHeartbeats 3200000 in
theorem sameWords_eq (xss : List (List Nat)) (v v' : Value) (w : World) (h : RRows w xss v) (h' : RRows w xss v') (hl : xss.length ≤ 1000000) (hr : ∀ xs ∈ xss, xs.length ≤ 1000000) :
    Calls Try.prog 20 #[v, v'] w fun e w' => e = .returned (.bool true) ∧ Below w.heap.size w w' := by
  obtain ⟨q, d, rfl, h1⟩ := h
  obtain ⟨q', d', rfl, h1'⟩ := h'
  have H1 := Lib.hid h1
  have H2 := Lib.hid h1'
  have HR := Lib.hid hr
  clear h1 h1' hr
  go_enter Try.func20, Try.ntmps20
  go_wp2_with fail
  go_loopg [5] xss.length (fun gh i wr => ∃ (k : Nat), i = .int .i64 k ∧ k + gh = xss.length ∧ Hid (Below w.heap.size w wr) ∧ Hid (∀ a, wr.cell? a = w.cell? a))
  case atStart => exact ⟨0, rfl, by omega, Lib.hid (Below.refl _ _), Lib.hid (fun _ => rfl)⟩
  case round =>
    obtain ⟨k, rfl, hk, hB, hC⟩ := hrel
    by_cases hlt : k < xss.length
    · obtain ⟨xs, hx⟩ : ∃ xs, xss[k]? = some xs := ⟨_, List.getElem?_eq_getElem hlt⟩
      obtain ⟨g, rfl, hgz, hrow⟩ : ∃ g, q = some ⟨g, 0, none⟩ ∧ g < w.heap.size ∧ ∀ i xs, xss[i]? = some xs → ∃ u, w.cell? ⟨g, i, none⟩ = some u ∧ URow 0 w xs u := by
        rcases H1.out with h0 | h0
        · omega
        · exact h0
      obtain ⟨g', rfl, hgz', hrow'⟩ : ∃ g, q' = some ⟨g, 0, none⟩ ∧ g < w.heap.size ∧ ∀ i xs, xss[i]? = some xs → ∃ u, w.cell? ⟨g, i, none⟩ = some u ∧ URow 0 w xs u := by
        rcases H2.out with h0 | h0
        · omega
        · exact h0
      obtain ⟨u, hu, hU⟩ := hrow k xs hx
      obtain ⟨u', hu', hU'⟩ := hrow' k xs hx
      obtain ⟨p, e, rfl, _, hp, hpc⟩ := hU
      obtain ⟨p', e', rfl, _, hp', hpc'⟩ := hU'
      have hxl : xs.length ≤ 1000000 := HR.out xs (List.mem_of_getElem? hx)
      have c1 := (hC.out _).trans hu
      have c2 := (hC.out _).trans hu'
      have P1 := Lib.hid (And.intro hp hpc)
      have P2 := Lib.hid (And.intro hp' hpc')
      have j0 : (0 : Int) ≤ (k : Int) := by omega
      have j1 : (k : Int) < (xss.length : Int) := by omega
      have hgk : gk - 1 < gk := by omega
      have hkg : k + 1 + (gk - 1) = xss.length := by omega
      clear hrow hrow' hu hu' hp hp' hpc hpc' hx
      obtain ⟨wo, rfl⟩ : ∃ wo : World, wo = wr := ⟨_, rfl⟩
      obtain ⟨G, hG⟩ : ∃ G, gk - 1 = G := ⟨_, rfl⟩
      rw [hG] at hgk hkg
      have HG := Lib.hid (And.intro hgk hkg)
      clear hG hgk hkg
      go_wp2_with fail
      go_quiet (fail)
      all_goals go_wp2_with fail
      go_loopg [6] xs.length (fun gh i wx => ∃ (m : Nat), i = .int .i64 m ∧ m + gh = xs.length ∧ Hid (Below w.heap.size w wx) ∧ Hid (∀ a, wx.cell? a = w.cell? a))
      case atStart => exact ⟨0, rfl, by omega, Lib.hid (below_drewN hB.out _), Lib.hid (fun a => hC.out a)⟩
      case round =>
        obtain ⟨m, rfl, hm, hB2, hC2⟩ := hrel
        have c1' : wr.cell? ⟨g, k, none⟩ = some (.slice p xs.length e) := (hC2.out _).trans ((hC.out _).symm.trans c1)
        have c2' : wr.cell? ⟨g', k, none⟩ = some (.slice p' xs.length e') := (hC2.out _).trans ((hC.out _).symm.trans c2)
        by_cases hm2 : m < xs.length
        · obtain ⟨gp, rfl, _, _, hcp⟩ : ∃ g, p = some ⟨g, 0, none⟩ ∧ 0 ≤ g ∧ g < w.heap.size ∧ ∀ i x, xs[i]? = some x → w.cell? ⟨g, i, none⟩ = some (.int .u64 (x : Nat)) := by
            cases p with
            | none => have := P1.out.1 rfl; subst this; simp at hm2
            | some ad => obtain ⟨g, hg, h⟩ := P1.out.2 ad rfl; exact ⟨g, by rw [hg], h⟩
          obtain ⟨gp', rfl, _, _, hcp'⟩ : ∃ g, p' = some ⟨g, 0, none⟩ ∧ 0 ≤ g ∧ g < w.heap.size ∧ ∀ i x, xs[i]? = some x → w.cell? ⟨g, i, none⟩ = some (.int .u64 (x : Nat)) := by
            cases p' with
            | none => have := P2.out.1 rfl; subst this; simp at hm2
            | some ad => obtain ⟨g, hg, h⟩ := P2.out.2 ad rfl; exact ⟨g, by rw [hg], h⟩
          have x1 := (hC2.out _).trans (hcp m _ (List.getElem?_eq_getElem hm2))
          have x2 := (hC2.out _).trans (hcp' m _ (List.getElem?_eq_getElem hm2))
          generalize xs[m] = x at x1 x2
          have i0 : (0 : Int) ≤ (m : Int) := by omega
          have i1 : (m : Int) < (xs.length : Int) := by omega
          have hgm : gk - 1 < gk := by omega
          have hmg : m + 1 + (gk - 1) = xs.length := by omega
          clear hcp hcp'
          go_wp2_with fail
          go_quiet (fail)
          all_goals go_wp2_with fail
          all_goals go_roundg (gk - 1)
          all_goals first
            | exact hgm
            | exact ⟨m + 1, by go_num, hmg, Lib.hid (below_drewN hB2.out _), Lib.hid (fun a => hC2.out a)⟩
        · go_wp2_with fail
          go_roundg G
          case measure => exact HG.out.1
          case rel => exact ⟨k + 1, by go_num, HG.out.2, hB2, hC2⟩
    · go_wp2_with fail
      go_ret
      exact ⟨rfl, hB.out⟩
end Go.Proofs.Ytajjpaabkdgjbaa
