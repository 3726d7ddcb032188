/- ScopeFit: the walk. -/
import Derived.Test.YtnghehcjklkoeaaDG
import Derived.Test.YtnghehcjklkoeaaDE
import Derived.Test.YtnghehcjklkoeaaL3
namespace Go.Proofs.Ytnghehcjklkoeaa
open Go.RowKit

set_option maxRecDepth 100000 in
set_option maxHeartbeats 6400000 in
theorem law_fit (x : Prg) (s : PrgP) (t : InP) (N : Nat) (w : World) (h : x.Ok w N s.p s.q) (ht : t.Ok w N) (hN : N ≤ w.heap.size) (hc : x.regs.length ≤ s.c) (hd : x.fns.length ≤ s.d) (hbig : fnsBig x.fns ≤ 4000000) :
    Calls Try.prog 4 #[x.v s, t.v] w fun z w' => z = .returned (.bool true) ∧ Below w.heap.size w w' := by
  have HSm := Lib.hid (fun (W : World) (hB : Below w.heap.size w W) => small_any x s N W (h.later (hB.mono hN) (Nat.le_refl N)) (Nat.le_trans hN hB.size) hbig)
  have HFt := Lib.hid (fun (W : World) (hB : Below w.heap.size w W) => fit_any x s t N W (h.later (hB.mono hN) (Nat.le_refl N)) (ht.later (hB.mono hN)) (Nat.le_trans hN hB.size) hc hd)
  have HRf := Lib.hid (fun (W : World) (hB : Below w.heap.size w W) => rfit_any x s t N W (h.later (hB.mono hN) (Nat.le_refl N)) (ht.later (hB.mono hN)) (Nat.le_trans hN hB.size) hbig)
  clear h ht hN hc hd hbig
  generalize hF : fitB x t.na t.rows = F at HFt HRf
  clear hF
  obtain ⟨p, q, c, d⟩ := s
  obtain ⟨pa, pr, na, ca, cr, rows⟩ := t
  obtain ⟨W0, hW0, k0, k1, hB0, hz0⟩ := two_alloc w (.cells #[.slice p x.regs.length c, .slice q x.fns.length d] 25) (.cells #[.slice pa na ca, .slice pr rows.length cr] 34)
  have HU := Lib.hid (fun (W : World) (hB : Below W0.heap.size W0 W) => show Below w.heap.size w W from hB0.trans (hB.mono (by omega)))
  have HP := Lib.hid (fun (W : World) (hB : Below W0.heap.size W0 W) => show W.cell? ⟨w.heap.size, 0, none⟩ = some (.slice p x.regs.length c) ∧ W.cell? ⟨w.heap.size, 1, none⟩ = some (.slice q x.fns.length d) ∧ W.cell? ⟨w.heap.size + 1, 0, none⟩ = some (.slice pa na ca) ∧ W.cell? ⟨w.heap.size + 1, 1, none⟩ = some (.slice pr rows.length cr) from
    ⟨cell_blk ((hB.block _ (lt_blk k0)).trans k0) rfl, cell_blk ((hB.block _ (lt_blk k0)).trans k0) rfl, cell_blk ((hB.block _ (lt_blk k1)).trans k1) rfl, cell_blk ((hB.block _ (lt_blk k1)).trans k1) rfl⟩)
  unfold Prg.v at HSm HFt HRf ⊢
  unfold InP.v at HFt HRf ⊢
  dsimp only at HSm HFt HRf ⊢
  obtain ⟨p0, p1, p2, p3⟩ := HP.out W0 (Below.refl _ _)
  have HX := Lib.hid (Below.refl W0.heap.size W0)
  have HC := Lib.hid (HSm.out _ (HU.out _ HX.out))
  clear k0 k1 hB0 hz0 HSm
  go_enter Try.func4, Try.ntmps4
  go_wp2_with fail
  refine HC.out.mono ?_
  rintro z w5 ⟨⟨b, rfl⟩, hB5⟩
  replace HX := Lib.hid (HX.out.trans (hB5.mono HX.out.size))
  clear hB5 HC hW0 p0 p1 p2 p3
  cases b
  · have HKn := Lib.hid (known_any w5)
    replace HX := Lib.hid (HU.out _ HX.out)
    clear HFt HRf
    go_wp2_with fail
    refine HKn.out.mono ?_
    rintro z w6 ⟨rfl, hB6⟩
    have HY := Lib.hid (HX.out.trans (hB6.mono HX.out.size))
    clear hB6 HX HKn
    go_wp2_with fail
    go_ret
    exact ⟨rfl, HY.out⟩
  obtain ⟨p0, p1, p2, p3⟩ := HP.out w5 HX.out
  have HC := Lib.hid (HFt.out _ (HU.out _ HX.out))
  clear HFt
  obtain ⟨v, hv⟩ : ∃ v, v = fitI F := ⟨_, rfl⟩
  rw [← hv] at HC
  have HV := Lib.hid hv
  clear hv
  go_wp2_with fail
  refine HC.out.mono ?_
  rintro z w6 ⟨rfl, hB6⟩
  replace HX := Lib.hid (HX.out.trans (hB6.mono HX.out.size))
  clear hB6 HC p0 p1 p2 p3
  obtain ⟨p0, p1, p2, p3⟩ := HP.out w6 HX.out
  have HC := Lib.hid (HRf.out _ (HU.out _ HX.out))
  clear HRf
  go_wp2_with fail
  refine HC.out.mono ?_
  rintro z w7 ⟨rfl, hB7⟩
  replace HX := Lib.hid (HX.out.trans (hB7.mono HX.out.size))
  clear hB7 HC p0 p1 p2 p3
  have HKn := Lib.hid (known_any w7)
  replace HX := Lib.hid (HU.out _ HX.out)
  cases F
  · obtain rfl : v = 2 := HV.out
    go_wp2_with fail
    refine HKn.out.mono ?_
    rintro z w8 ⟨rfl, hB8⟩
    have HY := Lib.hid (HX.out.trans (hB8.mono HX.out.size))
    clear hB8 HX HKn
    go_wp2_with fail
    go_ret
    exact ⟨rfl, HY.out⟩
  · obtain rfl : v = 0 := HV.out
    go_wp2_with fail
    refine HKn.out.mono ?_
    rintro z w8 ⟨rfl, hB8⟩
    have HY := Lib.hid (HX.out.trans (hB8.mono HX.out.size))
    clear hB8 HX HKn
    go_wp2_with fail
    go_ret
    exact ⟨rfl, HY.out⟩
end Go.Proofs.Ytnghehcjklkoeaa
