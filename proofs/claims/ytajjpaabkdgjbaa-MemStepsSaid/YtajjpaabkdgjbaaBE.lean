/- The document's May. -/
import Derived.Test.YtajjpaabkdgjbaaB3
namespace Go.Proofs.Ytajjpaabkdgjbaa
open Go.RowKit

theorem may_ok {l ds rs : List Rg} {r : Rg} (hE : l = ds ++ r :: rs) (h : r.ok = false) : mayB l = false := by
  rw [mayB, hE]; simp [h]
theorem may_meet {l : List Rg} (h : meetAny [] l = true) : mayB l = false := by simp [mayB, h]
theorem may_all {l : List Rg} (h1 : l.length ≤ 16) (h2 : l.all Rg.ok = true) (h3 : meetAny [] l = false) : mayB l = true := by simp only [mayB, h2, h3]; simp [h1]
theorem wrap8 (z : Int) (h1 : 1 ≤ z) (h2 : z ≤ 512) : IntKind.i64.wrap (8 * z) = 8 * z := IntWalk.i64_in _ (by omega)
theorem wrapA8 (x z : Int) (h1 : 0 ≤ x) (h2 : x ≤ 49152) (h3 : 1 ≤ z) (h4 : z ≤ 512) : IntKind.i64.wrap (x + 8 * z) = x + 8 * z := IntWalk.i64_in _ (by omega)

set_option maxRecDepth 100000 in
set_option maxHeartbeats 6400000 in
theorem refMay_any (l : List Rg) (p : Option Addr) (c N : Nat) (w : World) (h : RgIn w N l p) (hN : N ≤ w.heap.size) :
    Calls Try.prog 8 #[.slice p l.length c] w fun e w' => e = .returned (.bool (mayB l)) ∧ Below w.heap.size w w' := by
  have HS := Lib.hid h
  have hm := h.1
  clear h
  by_cases h16 : l.length ≤ 16
  · go_enter Try.func8, Try.ntmps8
    go_wp2_with fail
    go_loopg [3] l.length (fun g s3 wx => ∃ ds rs : List Rg, s3 = .int .i64 ds.length ∧ Hid (l = ds ++ rs) ∧ rs.length = g ∧ ds.length + rs.length = l.length ∧ Hid (ds.all Rg.ok = true) ∧ Hid (meetAny [] l = meetAny ds rs) ∧ Hid (Below w.heap.size w wx))
    case atStart => exact ⟨[], l, rfl, Lib.hid rfl, rfl, by simp, Lib.hid rfl, Lib.hid rfl, Lib.hid (Below.refl _ _)⟩
    case round =>
      obtain ⟨ds, rs, rfl, hE, hg, hk, hO, hI, hB⟩ := hrel
      cases rs with
      | nil =>
        simp only [List.length_nil] at hk
        have hge : ¬ ds.length < l.length := by omega
        clear hg
        go_wp2_with fail
        go_ret
        exact ⟨ret_bool (may_all h16 (by rw [hE.out, List.append_nil]; exact hO.out) (by rw [hI.out]; rfl)).symm, hB.out⟩
      | cons r rs =>
        simp only [List.length_cons] at hk hg
        subst hg
        obtain ⟨b, o, rfl, hb, hA⟩ : ∃ b o, p = some ⟨b, o, none⟩ ∧ b < N ∧ RgAt w l b o := by
          rcases HS.out.2 with h0 | h0
          · omega
          · exact h0
        rw [hE.out] at hA
        obtain ⟨⟨f0, f1, f2, f3⟩, _⟩ := RgAt.drop ds (r :: rs) b o hA
        have g0 := (hB.out.cell (show b < w.heap.size by omega)).trans f0
        have g1 := (hB.out.cell (show b < w.heap.size by omega)).trans f1
        have g2 := (hB.out.cell (show b < w.heap.size by omega)).trans f2
        have g3 := (hB.out.cell (show b < w.heap.size by omega)).trans f3
        have HA := Lib.hid hA
        clear hA f0 f1 f2 f3
        have hlt : ds.length < l.length := by omega
        have hwz : w.heap.size ≤ wr.heap.size := hB.out.size
        cases hro : r.ok with
        | false =>
          have HR := Lib.hid (may_ok hE.out hro)
          have hbad : ¬ (1 ≤ r.name.size) ∨ (1 ≤ r.name.size ∧ ¬ r.name.size ≤ 16) ∨ (1 ≤ r.name.size ∧ r.name.size ≤ 16 ∧ ¬ 1 ≤ r.size) ∨ (1 ≤ r.name.size ∧ r.name.size ≤ 16 ∧ 1 ≤ r.size ∧ ¬ r.size ≤ 512) ∨
              (1 ≤ r.name.size ∧ r.name.size ≤ 16 ∧ 1 ≤ r.size ∧ r.size ≤ 512 ∧ ¬ 0 ≤ r.addr) ∨ (1 ≤ r.name.size ∧ r.name.size ≤ 16 ∧ 1 ≤ r.size ∧ r.size ≤ 512 ∧ 0 ≤ r.addr ∧ ¬ r.addr % 8 = 0) ∨
              (1 ≤ r.name.size ∧ r.name.size ≤ 16 ∧ 1 ≤ r.size ∧ r.size ≤ 512 ∧ 0 ≤ r.addr ∧ r.addr % 8 = 0 ∧ ¬ r.addr ≤ 49152 - 8 * r.size) := by
            have h0 : ¬ ((1 ≤ r.name.size ∧ r.name.size ≤ 16 ∧ 1 ≤ r.size ∧ r.size ≤ 512) ∧ 0 ≤ r.addr ∧ r.addr % 8 = 0 ∧ r.addr ≤ 49152 - r.size * 8) := fun h => by rw [Rg.ok_iff.2 h] at hro; cases hro
            omega
          have HB2 := Lib.hid (hB.out.alloc hwz (.cells #[.string r.name, .int .i64 r.addr, .int .i64 r.size, .bool r.sec] 66))
          clear hro
          rcases hbad with h | ⟨h1, h⟩ | ⟨h1, h2, h⟩ | ⟨h1, h2, h3, h⟩ | ⟨h1, h2, h3, h4, h⟩ | ⟨h1, h2, h3, h4, h5, h⟩ | ⟨h1, h2, h3, h4, h5, h6, h⟩
          all_goals
            go_wp2_with fail
            all_goals go_ret
            all_goals exact ⟨ret_bool HR.out.symm, HB2.out⟩
        | true =>
          obtain ⟨_, r0, r8, rb⟩ := Rg.ok_iff.1 hro
          obtain ⟨rn1, rn2, rz1, rz2⟩ := (Rg.ok_iff.1 hro).1
          have HRO := Lib.hid hro
          have rb' : r.addr ≤ 49152 - 8 * r.size := by omega
          obtain ⟨wo, rfl⟩ : ∃ wo : World, wo = wr := ⟨_, rfl⟩
          go_wp2_with fail
          clear g0 g1 g2 g3 hro r8
          go_loopg [5] ds.length (fun g2 s5 wx => ∃ ds1 ds2 : List Rg, s5 = .int .i64 ds1.length ∧ Hid (ds = ds1 ++ ds2) ∧ ds2.length = g2 ∧ ds1.length + ds2.length = ds.length ∧ Hid (ds1.any (fun d => r.meets d) = false) ∧ Hid (Below w.heap.size w wx) ∧ wo.heap.size < wx.heap.size ∧ RgV wx r wo.heap.size)
          case atStart => exact ⟨[], ds, rfl, Lib.hid rfl, rfl, by simp, Lib.hid rfl, Lib.hid (hB.out.alloc hwz _), by simp, by simp [RgV, go_sem]⟩
          case round =>
            obtain ⟨ds1, ds2, rfl, hE2, hg2, hk2, hN, hB2, hwx, hV⟩ := hrel
            cases ds2 with
            | nil =>
              simp only [List.length_nil] at hk2
              have hge : ¬ ds1.length < ds.length := by omega
              clear hg2
              go_wp2_with fail
              go_roundg rs.length
              case measure => omega
              case rel =>
                have hds := hE2.out
                simp only [List.append_nil] at hds
                exact ⟨ds ++ [r], rs, by rw [List.length_append]; go_num, Lib.hid (by rw [hE.out]; simp), rfl, by simp; omega, Lib.hid (by rw [List.all_append, hO.out]; simp [HRO.out]), Lib.hid (by rw [hI.out]; exact meet_no (by rw [hds]; exact hN.out)), hB2⟩
            | cons d ds2 =>
              simp only [List.length_cons] at hk2 hg2
              have hA := HA.out
              rw [hE2.out] at hA
              obtain ⟨⟨f0, f1, f2, f3⟩, _⟩ := RgAt.drop ds1 (d :: (ds2 ++ r :: rs)) b o (by simpa using hA)
              have q0 := (hB2.out.cell (show b < w.heap.size by omega)).trans f0
              have q1 := (hB2.out.cell (show b < w.heap.size by omega)).trans f1
              have q2 := (hB2.out.cell (show b < w.heap.size by omega)).trans f2
              have q3 := (hB2.out.cell (show b < w.heap.size by omega)).trans f3
              have hdo : d.ok = true := List.all_eq_true.1 hO.out d (by rw [hE2.out]; simp)
              obtain ⟨_, d0, d8, db⟩ := Rg.ok_iff.1 hdo
              obtain ⟨_, _, dz1, dz2⟩ := (Rg.ok_iff.1 hdo).1
              clear hA f0 f1 f2 f3 d8 hdo
              have hlt2 : ds1.length < ds.length := by omega
              have hlt3 : ds1.length < l.length := by omega
              have k0 : (0 : Int) ≤ (ds1.length : Int) := by omega
              have k1 : (ds1.length : Int) < (l.length : Int) := by omega
              obtain ⟨a0, a1, a2, a3⟩ := hV
              have w1 := wrap8 d.size dz1 dz2
              have w2 := wrap8 r.size rz1 rz2
              have w3 := wrapA8 d.addr d.size d0 (by omega) dz1 dz2
              have w4 := wrapA8 r.addr r.size r0 (by omega) rz1 rz2
              have HNo := Lib.hid (show r.meets d = false → (ds1 ++ [d]).any (fun d => r.meets d) = false by
                intro h; rw [List.any_append, hN.out]; simp [h])
              have HYes := Lib.hid (show r.meets d = true → mayB l = false from fun h => may_meet (by rw [hI.out]; exact meet_yes hE2.out h))
              cases hn : (d.name.toList == r.name.toList) with
              | true =>
                have hmt : r.meets d = true := by
                  rw [name_eq] at hn; simp [Rg.meets, (of_decide_eq_true hn).symm]
                have HM := Lib.hid (HYes.out hmt)
                clear hmt
                go_wp2_with fail
                go_quiet (fail)
                all_goals go_wp2_with fail
                all_goals go_ret
                all_goals exact ⟨ret_bool HM.out.symm, below_drewN hB2.out _⟩
              | false =>
                have hne : ¬ r.name = d.name := by
                  rw [name_eq] at hn; exact fun h => of_decide_eq_false hn h.symm
                cases h1 : decide (d.addr < r.addr + 8 * r.size) with
                | false =>
                  have hmt : r.meets d = false := by
                    have := of_decide_eq_false h1
                    simp [Rg.meets, hne]; omega
                  have HM := Lib.hid (HNo.out hmt)
                  clear hmt hne
                  go_wp2_with fail
                  go_quiet (fail)
                  all_goals go_wp2_with fail
                  all_goals go_roundg ds2.length
                  all_goals first | omega | exact ⟨ds1 ++ [d], ds2, by rw [List.length_append]; go_num, Lib.hid (by rw [hE2.out]; simp), rfl, by simp; omega, HM, Lib.hid (below_drewN hB2.out _), hwx, ⟨a0, a1, a2, a3⟩⟩
                | true =>
                  cases h2 : decide (r.addr < d.addr + 8 * d.size) with
                  | false =>
                    have hmt : r.meets d = false := by
                      have := of_decide_eq_false h2
                      simp [Rg.meets, hne]; omega
                    have HM := Lib.hid (HNo.out hmt)
                    clear hmt hne
                    go_wp2_with fail
                    go_quiet (fail)
                    all_goals go_wp2_with fail
                    all_goals go_roundg ds2.length
                    all_goals first | omega | exact ⟨ds1 ++ [d], ds2, by rw [List.length_append]; go_num, Lib.hid (by rw [hE2.out]; simp), rfl, by simp; omega, HM, Lib.hid (below_drewN hB2.out _), hwx, ⟨a0, a1, a2, a3⟩⟩
                  | true =>
                    have hmt : r.meets d = true := by
                      have := of_decide_eq_true h2
                      have := of_decide_eq_true h1
                      simp [Rg.meets]; omega
                    have HM := Lib.hid (HYes.out hmt)
                    clear hmt hne
                    go_wp2_with fail
                    go_quiet (fail)
                    all_goals go_wp2_with fail
                    all_goals go_ret
                    all_goals exact ⟨ret_bool HM.out.symm, below_drewN hB2.out _⟩
  · go_enter Try.func8, Try.ntmps8
    go_wp2_with fail
    go_ret
    exact ⟨ret_bool (by simp [mayB, h16]), Below.refl _ _⟩
end Go.Proofs.Ytajjpaabkdgjbaa
