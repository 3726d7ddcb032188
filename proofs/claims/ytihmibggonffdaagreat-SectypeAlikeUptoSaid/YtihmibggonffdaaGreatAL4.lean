/- SectypeAlike: the walk. -/
import Derived.Test.YtihmibggonffdaaGreatAL3
import Derived.Test.YtihmibggonffdaaGreatT4
import Derived.Test.YtihmibggonffdaaGreatU3
namespace Go.Proofs.YtihmibggonffdaaGreat
open Go.RowKit

theorem pubA_self : ∀ (l : List Vr) (a : List Int), pubA l a a = true
  | [], _ => by unfold pubA; rfl
  | _ :: _, [] => by unfold pubA; rfl
  | v :: l, a :: r => by rw [pubA, pubA_self l r]; simp
theorem pubR_self : ∀ (l : List Rgn) (a : List (List Int)), pubR l a a = true
  | [], _ => by unfold pubR; rfl
  | _ :: _, [] => by unfold pubR; rfl
  | v :: l, a :: r => by rw [pubR, pubR_self l r]; simp
theorem alB_self (x : Prg) (a : InW) : alB x a a = fitW x a := by unfold alB; rw [pubA_self, pubR_self]; simp
set_option maxRecDepth 100000 in
set_option maxHeartbeats 6400000 in
theorem law_alike (x : Prg) (s : PrgP) (a b : InW) (N : Nat) (w : World) (h : x.Ok w N s.p s.q) (hA : a.Ok w N) (hB : b.Ok w N) (hN : N ≤ w.heap.size) (hc : x.regs.length ≤ s.c) (hd : x.fns.length ≤ s.d) (hbig : fnsBig x.fns ≤ 4000000) :
    Calls Tryz.prog 5 #[x.v s, a.v, b.v] w fun z w' => z = .returned (.bool true) ∧ Below w.heap.size w w' := by
  obtain ⟨p, q, c, d⟩ := s
  obtain ⟨apa, apr, aca, acr, aa, ar⟩ := a
  obtain ⟨bpa, bpr, bca, bcr, ba, br⟩ := b
  obtain ⟨T, hT⟩ : ∃ T, T = alB x ⟨apa, apr, aca, acr, aa, ar⟩ ⟨bpa, bpr, bca, bcr, ba, br⟩ := ⟨_, rfl⟩
  obtain ⟨G, hG⟩ : ∃ G, G = fitW x ⟨apa, apr, aca, acr, aa, ar⟩ := ⟨_, rfl⟩
  have HSm := Lib.hid (fun (W : World) (hW : Below w.heap.size w W) => show Calls Tryz.prog 6 #[.agg #[.slice p x.regs.length c, .slice q x.fns.length d], .int .i64 1000] W (fun z w' => (∃ b : Bool, z = .returned (.bool b)) ∧ Below W.heap.size W w') from small_any 1000 x ⟨p, q, c, d⟩ N W (h.later (hW.mono hN) (Nat.le_refl N)) (Nat.le_trans hN hW.size) hbig)
  have HAl := Lib.hid (fun (W : World) (hW : Below w.heap.size w W) => show Calls Tryz.prog 16 #[.agg #[.slice p x.regs.length c, .slice q x.fns.length d], .agg #[.slice apa aa.length aca, .slice apr ar.length acr], .agg #[.slice bpa ba.length bca, .slice bpr br.length bcr]] W fun z w' => z = .returned (.bool T) ∧ Below W.heap.size W w' from hT ▸ alike_any x ⟨p, q, c, d⟩ ⟨apa, apr, aca, acr, aa, ar⟩ ⟨bpa, bpr, bca, bcr, ba, br⟩ N W (h.later (hW.mono hN) (Nat.le_refl N)) (hA.later (hW.mono hN)) (hB.later (hW.mono hN)) (Nat.le_trans hN hW.size) hc hd)
  have HRl := Lib.hid (fun (W : World) (hW : Below w.heap.size w W) => show Calls Tryz.prog 17 #[.agg #[.slice p x.regs.length c, .slice q x.fns.length d], .agg #[.slice apa aa.length aca, .slice apr ar.length acr], .agg #[.slice bpa ba.length bca, .slice bpr br.length bcr]] W fun z w' => z = .returned (.bool T) ∧ Below W.heap.size W w' from hT ▸ ralike_any x ⟨p, q, c, d⟩ ⟨apa, apr, aca, acr, aa, ar⟩ ⟨bpa, bpr, bca, bcr, ba, br⟩ N W (h.later (hW.mono hN) (Nat.le_refl N)) (hA.later (hW.mono hN)) (hB.later (hW.mono hN)) (Nat.le_trans hN hW.size) hbig)
  have HAa := Lib.hid (fun (W : World) (hW : Below w.heap.size w W) => show Calls Tryz.prog 16 #[.agg #[.slice p x.regs.length c, .slice q x.fns.length d], .agg #[.slice apa aa.length aca, .slice apr ar.length acr], .agg #[.slice apa aa.length aca, .slice apr ar.length acr]] W fun z w' => z = .returned (.bool G) ∧ Below W.heap.size W w' from by
    have e := alike_any x ⟨p, q, c, d⟩ ⟨apa, apr, aca, acr, aa, ar⟩ ⟨apa, apr, aca, acr, aa, ar⟩ N W (h.later (hW.mono hN) (Nat.le_refl N)) (hA.later (hW.mono hN)) (hA.later (hW.mono hN)) (Nat.le_trans hN hW.size) hc hd
    rw [alB_self, ← hG] at e
    exact e)
  have HFi := Lib.hid (fun (W : World) (hW : Below w.heap.size w W) => show Calls Tryz.prog 18 #[.agg #[.slice p x.regs.length c, .slice q x.fns.length d], .agg #[.slice apa aa.length aca, .slice apr ar.length acr]] W fun z w' => z = .returned (.bool G) ∧ Below W.heap.size W w' from by
    have e := rfit_any x ⟨p, q, c, d⟩ (InW.p ⟨apa, apr, aca, acr, aa, ar⟩) N W (h.later (hW.mono hN) (Nat.le_refl N)) (hA.later (hW.mono hN)).p (Nat.le_trans hN hW.size) hbig
    rw [InW.p_v] at e
    rw [hG]
    exact e)
  obtain ⟨W0, hW0, k0, k1, k2, hB0, hz0⟩ := three w (.cells #[.slice p x.regs.length c, .slice q x.fns.length d] 25) (.cells #[.slice apa aa.length aca, .slice apr ar.length acr] 66) (.cells #[.slice bpa ba.length bca, .slice bpr br.length bcr] 66)
  have HU := Lib.hid (fun (W : World) (hB : Below W0.heap.size W0 W) => show Below w.heap.size w W from hB0.trans (hB.mono (by omega)))
  have HP := Lib.hid (fun (W : World) (hB : Below W0.heap.size W0 W) => show W.cell? ⟨w.heap.size, 0, none⟩ = some (.slice p x.regs.length c) ∧ W.cell? ⟨w.heap.size, 1, none⟩ = some (.slice q x.fns.length d) ∧ W.cell? ⟨w.heap.size + 1, 0, none⟩ = some (.slice apa aa.length aca) ∧ W.cell? ⟨w.heap.size + 1, 1, none⟩ = some (.slice apr ar.length acr) ∧ W.cell? ⟨w.heap.size + 1 + 1, 0, none⟩ = some (.slice bpa ba.length bca) ∧ W.cell? ⟨w.heap.size + 1 + 1, 1, none⟩ = some (.slice bpr br.length bcr) from
    have e0 := (hB.block _ (lt_blk k0)).trans k0
    have e1 := (hB.block _ (lt_blk k1)).trans k1
    have e2 := (hB.block _ (lt_blk k2)).trans k2
    ⟨cell_blk e0 rfl, cell_blk e0 rfl, cell_blk e1 rfl, cell_blk e1 rfl, cell_blk e2 rfl, cell_blk e2 rfl⟩)
  unfold Prg.v InW.v
  dsimp only
  obtain ⟨p0, p1, p2, p3, p4, p5⟩ := HP.out W0 (Below.refl _ _)
  have HC := Lib.hid (HSm.out _ (HU.out _ (Below.refl _ _)))
  have HW0 := Lib.hid hW0
  clear hW0 k0 k1 k2 hB0 hz0 HSm h hA hB hN hc hd hbig hT hG
  go_enter Tryz.func5, Tryz.ntmps5
  go_wp2_with fail
  erw [HW0.out]
  refine HC.out.mono ?_
  rintro z w5 ⟨⟨b, rfl⟩, hB5⟩
  have HX := Lib.hid hB5
  clear hB5 HC HW0 p0 p1 p2 p3 p4 p5
  cases b
  · replace HX := Lib.hid (HU.out _ HX.out)
    go_wp2_with fail
    refine (known_any w5).mono ?_
    rintro z w6 ⟨rfl, hB6⟩
    have HY := Lib.hid (HX.out.trans (hB6.mono HX.out.size))
    clear hB6 HX
    go_wp2_with fail
    go_ret
    exact ⟨rfl, HY.out⟩
  go_upto_region 3 with fail
  have hX := HX.out.drew
  refine wp_region_held_drew (S := fun W => W.cell? ⟨w.heap.size, 0, none⟩ = some (.slice p x.regs.length c) ∧ W.cell? ⟨w.heap.size, 1, none⟩ = some (.slice q x.fns.length d) ∧ W.cell? ⟨w.heap.size + 1, 0, none⟩ = some (.slice apa aa.length aca) ∧ W.cell? ⟨w.heap.size + 1, 1, none⟩ = some (.slice apr ar.length acr) ∧ W.cell? ⟨w.heap.size + 1 + 1, 0, none⟩ = some (.slice bpa ba.length bca) ∧ W.cell? ⟨w.heap.size + 1 + 1, 1, none⟩ = some (.slice bpr br.length bcr)) (by kernel_rfl) ?_ (fun hHeld => ?_)
  · exact HP.out _ hX
  refine tq 0 ?_
  refine tq 1 ?_
  refine tq 2 ?_
  refine tq 4 ?_
  refine tq 5 ?_
  refine tq 6 ?_
  refine wpAnyH_ready (rs := [3]) (by kernel_rfl) (by simp) ?_
  refine rdy rfl (fun K hK => ?_) AllReadyH.nil
  go_simp
  refine (HAl.out _ (HU.out _ hX)).mono ?_
  rintro z wz ⟨rfl, hB5⟩
  replace hX := hX.trans (hB5.mono hX.size)
  clear hB5
  refine hK.out _ _ ?_ (fun hHeldN => ?_)
  · exact HP.out _ hX
  clear hK K hHeld
  have hHeld := hHeldN
  clear hHeldN
  try simp only [Act.put, List.setIfInBounds_toArray, List.set_cons_zero, List.set_cons_succ]
  refine wpAnyH_ready (rs := [7]) (by kernel_rfl) (by simp) ?_
  refine rdy rfl (fun K hK => ?_) AllReadyH.nil
  go_simp
  refine (HRl.out _ (HU.out _ hX)).mono ?_
  rintro z wz ⟨rfl, hB5⟩
  replace hX := hX.trans (hB5.mono hX.size)
  clear hB5
  refine hK.out _ _ ?_ (fun hHeldN => ?_)
  · exact HP.out _ hX
  clear hK K hHeld
  have hHeld := hHeldN
  clear hHeldN
  try simp only [Act.put, List.setIfInBounds_toArray, List.set_cons_zero, List.set_cons_succ]
  refine tk 8 (.bool true) rfl (.inl ⟨by rfl, ?_⟩) ?_
  · (intro w hSw; (try dsimp only at hSw); go_simp)
  try simp only [Act.put, List.setIfInBounds_toArray, List.set_cons_zero, List.set_cons_succ]
  refine tq 9 ?_
  refine tq 10 ?_
  refine tq 11 ?_
  refine tq 12 ?_
  refine tq 14 ?_
  refine tq 15 ?_
  refine wpAnyH_ready (rs := [13]) (by kernel_rfl) (by simp) ?_
  refine rdy rfl (fun K hK => ?_) AllReadyH.nil
  go_simp
  refine (HAa.out _ (HU.out _ hX)).mono ?_
  rintro z wz ⟨rfl, hB5⟩
  replace hX := hX.trans (hB5.mono hX.size)
  clear hB5
  refine hK.out _ _ ?_ (fun hHeldN => ?_)
  · exact HP.out _ hX
  clear hK K hHeld
  have hHeld := hHeldN
  clear hHeldN
  try simp only [Act.put, List.setIfInBounds_toArray, List.set_cons_zero, List.set_cons_succ]
  refine wpAnyH_ready (rs := [16]) (by kernel_rfl) (by simp) ?_
  refine rdy rfl (fun K hK => ?_) AllReadyH.nil
  go_simp
  refine (HFi.out _ (HU.out _ hX)).mono ?_
  rintro z wz ⟨rfl, hB5⟩
  replace hX := hX.trans (hB5.mono hX.size)
  clear hB5
  refine hK.out _ _ ?_ (fun hHeldN => ?_)
  · exact HP.out _ hX
  clear hK K hHeld
  have hHeld := hHeldN
  clear hHeldN
  try simp only [Act.put, List.setIfInBounds_toArray, List.set_cons_zero, List.set_cons_succ]
  refine tk 17 (.bool true) rfl (.inl ⟨by rfl, ?_⟩) ?_
  · (intro w hSw; (try dsimp only at hSw); go_simp)
  try simp only [Act.put, List.setIfInBounds_toArray, List.set_cons_zero, List.set_cons_succ]
  refine tq 18 ?_
  refine tq 19 ?_
  refine wpAnyH_ready (rs := [20]) (by kernel_rfl) (by simp) ?_
  refine rdy rfl (fun K hK => ?_) AllReadyH.nil
  go_simp
  refine (known_any _).mono ?_
  rintro z wz ⟨rfl, hB5⟩
  replace hX := hX.trans (hB5.mono hX.size)
  clear hB5
  refine hK.out _ _ ?_ (fun hHeldN => ?_)
  · exact HP.out _ hX
  clear hK K hHeld
  have hHeld := hHeldN
  clear hHeldN
  try simp only [Act.put, List.setIfInBounds_toArray, List.set_cons_zero, List.set_cons_succ]
  refine tq 21 ?_
  refine tq 22 ?_
  refine wpAnyH_done (by kernel_rfl) ?_ _
  clear hHeld
  have HY := Lib.hid (HU.out _ hX)
  clear hX HX
  go_wp2_with fail
  go_ret
  exact ⟨rfl, HY.out⟩
end Go.Proofs.YtihmibggonffdaaGreat
