/- How much a program has: the document's Long. -/
import Derived.Test.YtlhbledakddbbaaGreatDoorR4
import Derived.Test.YtlhbledakddbbaaGreatDoorQ6
namespace Go.Proofs.YtlhbledakddbbaaGreatDoor
open Go.RowKit

def rgnsT : List Rgn → Nat
  | [] => 0
  | x :: r => 1 + x.name.length + rgnsT r
def vrsT : List Vr → Nat
  | [] => 0
  | x :: r => 1 + x.name.length + vrsT r
def Fnc.total (x : Fnc) : Nat := 1 + x.name.length + vrsT x.params + vrsT x.vars + strsT x.rets + x.body.total
def fnsT : List Fnc → Nat
  | [] => 0
  | x :: r => x.total + fnsT r
def Prg.total (x : Prg) : Nat := x.regs.length + x.fns.length + rgnsT x.regs + fnsT x.fns
set_option maxRecDepth 100000 in
set_option maxHeartbeats 12800000 in
theorem long_any (x : Prg) (M : Nat) (hM : M ≤ 5000) (p q : Option Addr) (c d N : Nat) (w : World) (h : x.Ok w N p q) (hN : N ≤ w.heap.size) :
    Calls Tryz.prog 16 #[x.val p q c d, .int .i64 M] w fun e w' => e = .returned (.bool (decide (M < x.total))) ∧ Below w.heap.size w w' := by
  obtain ⟨rg, xs⟩ := x
  obtain ⟨tot, htot⟩ : ∃ t, t = (Prg.mk rg xs).total := ⟨_, rfl⟩
  rw [← htot]
  unfold Prg.total at htot
  simp only [] at htot
  obtain ⟨W0, hW0⟩ : ∃ W0, w.alloc (Obj.cells #[.slice p rg.length c, .slice q xs.length d] 39) = W0 := ⟨_, rfl⟩
  have HW0 := Lib.hid (show Below w.heap.size w W0 by rw [← hW0]; exact (Below.refl _ w).alloc (Nat.le_refl _) _)
  have HX0 := Lib.hid (fun w1 hb => cells_later (w0 := W0) (w1 := w1) (b := w.heap.size) (A := #[.slice p rg.length c, .slice q xs.length d]) (t := 39) (by rw [← hW0]; exact heap_alloc_new w _) hb)
  have R1 := Lib.hid (show RowIn w.heap.size (Rgn.At w) 4 rg p from h.1.imp hN fun _ _ _ _ h => h)
  have S1 := Lib.hid (show RowIn N (Fnc.At w N) 5 xs q from h.2)
  have hm3 : rg.length ≤ 140737488355328 := h.1.1
  have hm4 : xs.length ≤ 140737488355328 := h.2.1
  have HXN := Lib.hid hN
  clear h hN
  show Calls _ _ #[.agg #[.slice p rg.length c, .slice q xs.length d], .int .i64 M] w _
  obtain ⟨v0, hv0e⟩ : ∃ v, v = rg.length + xs.length := ⟨_, rfl⟩
  have hw0 : IntKind.i64.wrap ((rg.length : Int) + (xs.length : Int)) = (v0 : Int) := by rw [IntWalk.i64_in _ (by omega)]; omega
  have hw1 : (rg.length : Int) + (xs.length : Int) = (v0 : Int) := by omega
  have hv0 : v0 ≤ 300000000000000 := by omega
  have hE0 := Lib.hid (show Cnt M tot v0 (rgnsT rg + (fnsT xs)) by
    unfold Cnt
    by_cases hz : v0 ≤ M
    · left; omega
    · right; omega)
  have gz0 : W0.cell? ⟨w.heap.size, 0, none⟩ = some (.slice p rg.length c) := HX0.out _ (Below.refl _ _) 0 _ rfl
  have gz1 : W0.cell? ⟨w.heap.size, 1, none⟩ = some (.slice q xs.length d) := HX0.out _ (Below.refl _ _) 1 _ rfl
  clear hv0e htot
  go_enter Tryz.func16, Tryz.ntmps16
  go_upto_block 0 with fail
  go_cut [5, 6] from 19 to 40 (fun s5 s9 wx => ∃ v2 j : Nat, s5 = .int .i64 v2 ∧ s9 = .int .i64 j ∧ v2 ≤ 300000000000000 ∧ Hid (Cnt M tot v2 (fnsT xs)) ∧ Hid (Below W0.heap.size W0 wx))
  case first =>
    go_wp2_with fail
    go_loopw [5, 6] (fun t i wx => ∃ (ds rs : List Rgn) (v2 : Nat), t = .int .i64 v2 ∧ i = .int .i64 ds.length ∧ Hid (rg = ds ++ rs) ∧ ds.length + rs.length = rg.length ∧ v2 ≤ 300000000000000 ∧ Hid (Cnt M tot v2 (rgnsT rs + (fnsT xs))) ∧ Hid (Below W0.heap.size W0 wx)) (fun _ i _ => rg.length - (intOf i).toNat)
    case atStart => exact ⟨[], rg, v0, rfl, rfl, Lib.hid rfl, by simp, hv0, hE0, Lib.hid (Below.refl _ _)⟩
    case round =>
      obtain ⟨ds, rs, v2, rfl, rfl, EN, hk2, hv2, hE2, HB2⟩ := hrel
      have gx2 : wr.cell? ⟨w.heap.size, 0, none⟩ = some (.slice p rg.length c) := HX0.out _ HB2.out _ _ rfl
      have hm2 : rg.length ≤ 140737488355328 := R1.out.1
      cases rs with
      | nil =>
        simp only [List.length_nil] at hk2
        have hge2 : ¬ ds.length < rg.length := by omega
        go_wp2_with fail
        go_meet
        exact ⟨v2, _, rfl, rfl, hv2, Lib.hid (by have := hE2.out; simpa [rgnsT] using this), HB2⟩
      | cons y rs =>
        simp only [List.length_cons] at hk2
        have hlt2 : ds.length < rg.length := by omega
        by_cases hM2 : v2 ≤ M
        · rcases R1.out.2 with h30 | ⟨b3, o3, hp3, hb3, ha3⟩
          · omega
          rw [EN.out] at ha3
          have g3 : wr.cell? ⟨b3, o3 + ds.length * 4, none⟩ = some (.string (str y.name)) := (HB2.out.cell (show b3 < W0.heap.size by have := HW0.out.size; omega)).trans ((HW0.out.cell hb3).trans (by have := (Row.drop _ _ _ ha3).1; exact this.1))
          rw [hp3] at gx2
          have HN2 := Lib.hid (fun w => rname_nat y.name M hM w)
          have hn2 : 1 + min y.name.length M ≤ M + 1 := by omega
          have hc2 : (1 + min y.name.length M ≤ M ∧ 1 + y.name.length = 1 + min y.name.length M) ∨ (M < 1 + min y.name.length M ∧ M < 1 + y.name.length) := by omega
          generalize 1 + min y.name.length M = n2 at HN2 hn2 hc2
          obtain ⟨m2, hme⟩ : ∃ m, m = v2 + n2 := ⟨_, rfl⟩
          have HM2 := Lib.hid hme
          have hwr : IntKind.i64.wrap ((v2 : Int) + (n2 : Int)) = (m2 : Int) := by rw [hme]; exact wrap_add v2 n2 (by omega)
          have hw2 : (v2 : Int) + (n2 : Int) = (m2 : Int) := by omega
          have HH := Lib.hid hp3
          have HE3 := Lib.hid (show Cnt M tot m2 (rgnsT rs + (fnsT xs)) by have := hE2.out; unfold Cnt at *; simp only [rgnsT] at this; omega)
          have hmb : m2 ≤ 300000000000000 := by omega
          clear ha3 hme hp3 hc2
          go_wp2_with fail
          refine (HN2.out _).mono ?_
          rintro z w' ⟨rfl, rfl⟩
          go_wp2_with fail
          go_roundw
          case rel => exact ⟨ds ++ [y], rs, m2, rfl, by rw [List.length_append]; go_num, Lib.hid (by rw [EN.out]; simp), by simp; omega, hmb, HE3, HB2⟩
          case measure => simp [intOf]; omega
        · go_wp2_with fail
          go_meet
          exact ⟨v2, _, rfl, rfl, hv2, Lib.hid (by have := hE2.out; unfold Cnt at *; simp only [rgnsT] at this; omega), HB2⟩
  case rest =>
    obtain ⟨v1, j1, rfl, rfl, hv1, hE1, hB1⟩ := hcut
    clear hE0
    go_wp2_with fail
    go_loopw [5, 7] (fun t i wx => ∃ (ds rs : List Fnc) (v2 : Nat), t = .int .i64 v2 ∧ i = .int .i64 ds.length ∧ Hid (xs = ds ++ rs) ∧ ds.length + rs.length = xs.length ∧ v2 ≤ 300000000000000 ∧ Hid (Cnt M tot v2 (fnsT rs)) ∧ Hid (Below W0.heap.size W0 wx)) (fun _ i _ => xs.length - (intOf i).toNat)
    case atStart => exact ⟨[], xs, v1, rfl, rfl, Lib.hid rfl, by simp, hv1, hE1, hB1⟩
    case round =>
      clear hB1 hE1
      obtain ⟨ds, rs, v2, rfl, rfl, E1, hk2, hv2, hE2, hBr⟩ := hrel
      have gx1 : wr.cell? ⟨w.heap.size, 1, none⟩ = some (.slice q xs.length d) := HX0.out _ hBr.out _ _ rfl
      have hm2 : xs.length ≤ 140737488355328 := S1.out.1
      cases rs with
      | nil =>
        simp only [List.length_nil] at hk2
        have hge2 : ¬ ds.length < xs.length := by omega
        have hb : decide (M < tot) = decide (M < v2) := by have := hE2.out; unfold Cnt at this; simp only [fnsT] at this; rcases this with ⟨a, b⟩ | ⟨a, b⟩ <;> (rw [decide_eq_decide]; omega)
        have HV := Lib.hid hb
        clear hb
        go_wp2_with fail
        go_ret
        exact ⟨ret_bool (by rw [HV.out]), HW0.out.trans (hBr.out.mono HW0.out.size)⟩
      | cons y rs =>
        simp only [List.length_cons] at hk2
        have hlt2 : ds.length < xs.length := by omega
        by_cases hM2 : v2 ≤ M
        · rcases S1.out.2 with h30 | ⟨b1, o1, rfl, hb1, ha1⟩
          · omega
          rw [E1.out] at ha1
          obtain ⟨wo, rfl⟩ : ∃ wo : World, wo = wr := ⟨_, rfl⟩
          have HBww := HW0.out.trans (hBr.out.mono HW0.out.size)
          obtain ⟨s, c1, ok1⟩ := Fnc.At.openP (Fnc.At.later (HBww.mono HXN.out) (Nat.le_trans HXN.out HBww.size) y b1 _ hb1 (Row.drop _ _ _ ha1).1)
          have hbl : b1 < wo.heap.size := by have := HBww.size; have := HXN.out; omega
          obtain ⟨A1, hA1⟩ : ∃ A1, y.cells s = A1 := ⟨_, rfl⟩
          have HZ1 := Lib.hid (show A1.size = 5 by rw [← hA1]; rfl)
          have HO1 := Lib.hid (show A1.all (·.oneCell') = true by rw [← hA1]; exact oneFnc _ _)
          have F1 := Lib.hid (show wo.rangeAt b1 (o1 + ds.length * 5) A1.toList from fun j z hz => c1 j z (by rw [hA1, ← Array.getElem?_toList]; exact hz))
          have HI1 := Lib.hid (infoFnc.trans (by rw [HZ1.out]) : (Tryz.prog.info? 49).map (·.size) = some A1.size)
          obtain ⟨W1, hW1⟩ : ∃ W1, wo.alloc (Obj.cells A1 49) = W1 := ⟨_, rfl⟩
          have HWr := Lib.hid (show Below wo.heap.size wo W1 by rw [← hW1]; exact (Below.refl _ wo).alloc (Nat.le_refl _) _)
          have HXA := Lib.hid (fun w1 hb => cells_later (w0 := W1) (w1 := w1) (b := wo.heap.size) (A := A1) (t := 49) (by rw [← hW1]; exact heap_alloc_new wo _) hb)
          obtain ⟨nm, ps, vs, rt, bd⟩ := y
          have HXC := Lib.hid (show ∀ w1, Below W1.heap.size W1 w1 → ∀ j z, (#[.string (str nm), .slice s.pp ps.length s.cp, .slice s.pv vs.length s.cv, .slice s.pr rt.length s.cr, .slice s.pb bd.len s.cb] : Array Value)[j]? = some z → w1.cell? ⟨wo.heap.size, j, none⟩ = some z from fun w1 hb j z hz => HXA.out w1 hb j z (by rw [← hA1]; exact hz))
          have HOK := Lib.hid (show (Fnc.mk nm ps vs rt bd).Ok wo wo.heap.size s from ok1)
          have HR1 := Lib.hid (show RowIn wo.heap.size (Vr.At wo) 4 ps s.pp from ok1.1)
          have HR2 := Lib.hid (show RowIn wo.heap.size (Vr.At wo) 4 vs s.pv from ok1.2.1)
          have HR3 := Lib.hid (show RowIn wo.heap.size (StrAt wo) 1 rt s.pr from ok1.2.2.1)
          have gx0 : W1.cell? ⟨wo.heap.size, 0, none⟩ = some (.string (str nm)) := HXC.out _ (Below.refl _ _) 0 _ rfl
          have HN := Lib.hid (fun w => rname_nat nm M hM w)
          have hn1 : 1 + min nm.length M ≤ M + 1 := by omega
          have hc1 : (1 + min nm.length M ≤ M ∧ 1 + nm.length = 1 + min nm.length M) ∨ (M < 1 + min nm.length M ∧ M < 1 + nm.length) := by omega
          generalize 1 + min nm.length M = n1 at HN hn1 hc1
          obtain ⟨m6, hme⟩ : ∃ m, m = v2 + n1 := ⟨_, rfl⟩
          have HM6 := Lib.hid hme
          have hwr6 : IntKind.i64.wrap ((v2 : Int) + (n1 : Int)) = (m6 : Int) := by rw [hme]; exact wrap_add v2 n1 (by omega)
          have hw6 : (v2 : Int) + (n1 : Int) = (m6 : Int) := by omega
          have hv6 : m6 ≤ 2 * M + 1 := by omega
          have hE6 := Lib.hid (show Cnt M tot m6 (vrsT ps + (vrsT vs + (strsT rt + (bd.total + fnsT rs)))) by have := hE2.out; unfold Cnt at *; simp only [fnsT, Fnc.total] at this; omega)
          have hB6 := Lib.hid (Below.refl W1.heap.size W1)
          obtain ⟨rs0, rfl⟩ : ∃ r, r = rs := ⟨_, rfl⟩
          clear ok1 HXA hA1 c1 ha1 hme hc1 HBww hE2
          go_wp2_with (first | (refine wpl_load rfl 49 _ rfl b1 (o1 + ds.length * 5) rfl A1 _ F1.out Tryz.underlying49 rfl HI1.out ?_) | (refine wpl_store_new rfl 49 _ _ rfl _ A1 _ rfl rfl (by rw [HZ1.out]; rfl) HI1.out HO1.out ?_))
          refine (HN.out _).mono ?_
          rintro z w' ⟨rfl, rfl⟩
          go_upto_block 4 with fail
          go_cut [5, 9] from 64 to 85 (fun s5 s9 wx => ∃ v2 j : Nat, s5 = .int .i64 v2 ∧ s9 = .int .i64 j ∧ v2 ≤ (2 * M + 1) ∧ Hid (Cnt M tot v2 (vrsT vs + (strsT rt + (bd.total + fnsT rs0)))) ∧ Hid (Below W1.heap.size W1 wx))
          case first =>
            go_wp2_with fail
            go_loopw [5, 9] (fun t i wx => ∃ (ds rs : List Vr) (v2 : Nat), t = .int .i64 v2 ∧ i = .int .i64 ds.length ∧ Hid (ps = ds ++ rs) ∧ ds.length + rs.length = ps.length ∧ v2 ≤ (2 * M + 1) ∧ Hid (Cnt M tot v2 (vrsT rs + (vrsT vs + (strsT rt + (bd.total + fnsT rs0))))) ∧ Hid (Below W1.heap.size W1 wx)) (fun _ i _ => ps.length - (intOf i).toNat)
            case atStart => exact ⟨[], ps, m6, rfl, rfl, Lib.hid rfl, by simp, hv6, hE6, hB6⟩
            case round =>
              obtain ⟨ds, rs, v2, rfl, rfl, EN, hk2, hv2, hE2, HB2⟩ := hrel
              have gx2 : wr.cell? ⟨wo.heap.size, 1, none⟩ = some (.slice s.pp ps.length s.cp) := HXC.out _ HB2.out _ _ rfl
              have hm2 : ps.length ≤ 140737488355328 := HR1.out.1
              cases rs with
              | nil =>
                simp only [List.length_nil] at hk2
                have hge2 : ¬ ds.length < ps.length := by omega
                go_wp2_with fail
                go_meet
                exact ⟨v2, _, rfl, rfl, hv2, Lib.hid (by have := hE2.out; simpa [vrsT] using this), HB2⟩
              | cons y rs =>
                simp only [List.length_cons] at hk2
                have hlt2 : ds.length < ps.length := by omega
                by_cases hM2 : v2 ≤ M
                · rcases HR1.out.2 with h30 | ⟨b3, o3, hp3, hb3, ha3⟩
                  · omega
                  rw [EN.out] at ha3
                  have g3 : wr.cell? ⟨b3, o3 + ds.length * 4, none⟩ = some (.string (str y.name)) := (HB2.out.cell (show b3 < W1.heap.size by have := HWr.out.size; omega)).trans ((HWr.out.cell hb3).trans (by have := (Row.drop _ _ _ ha3).1; exact this.1))
                  rw [hp3] at gx2
                  have HN2 := Lib.hid (fun w => rname_nat y.name M hM w)
                  have hn2 : 1 + min y.name.length M ≤ M + 1 := by omega
                  have hc2 : (1 + min y.name.length M ≤ M ∧ 1 + y.name.length = 1 + min y.name.length M) ∨ (M < 1 + min y.name.length M ∧ M < 1 + y.name.length) := by omega
                  generalize 1 + min y.name.length M = n2 at HN2 hn2 hc2
                  obtain ⟨m2, hme⟩ : ∃ m, m = v2 + n2 := ⟨_, rfl⟩
                  have HM2 := Lib.hid hme
                  have hwr : IntKind.i64.wrap ((v2 : Int) + (n2 : Int)) = (m2 : Int) := by rw [hme]; exact wrap_add v2 n2 (by omega)
                  have hw2 : (v2 : Int) + (n2 : Int) = (m2 : Int) := by omega
                  have HH := Lib.hid hp3
                  have HE3 := Lib.hid (show Cnt M tot m2 (vrsT rs + (vrsT vs + (strsT rt + (bd.total + fnsT rs0)))) by have := hE2.out; unfold Cnt at *; simp only [vrsT] at this; omega)
                  have hmb : m2 ≤ (2 * M + 1) := by omega
                  clear ha3 hme hp3 hc2
                  go_wp2_with fail
                  refine (HN2.out _).mono ?_
                  rintro z w' ⟨rfl, rfl⟩
                  go_wp2_with fail
                  go_roundw
                  case rel => exact ⟨ds ++ [y], rs, m2, rfl, by rw [List.length_append]; go_num, Lib.hid (by rw [EN.out]; simp), by simp; omega, hmb, HE3, HB2⟩
                  case measure => simp [intOf]; omega
                · go_wp2_with fail
                  go_meet
                  exact ⟨v2, _, rfl, rfl, hv2, Lib.hid (by have := hE2.out; unfold Cnt at *; simp only [vrsT] at this; omega), HB2⟩
          case rest =>
            obtain ⟨v7, j7, rfl, rfl, hv7, hE7, hB7⟩ := hcut
            clear hE6
            go_upto_block 6 with fail
            go_cut [5, 10] from 86 to 107 (fun s5 s9 wx => ∃ v2 j : Nat, s5 = .int .i64 v2 ∧ s9 = .int .i64 j ∧ v2 ≤ (2 * M + 1) ∧ Hid (Cnt M tot v2 (strsT rt + (bd.total + fnsT rs0))) ∧ Hid (Below W1.heap.size W1 wx))
            case first =>
              go_wp2_with fail
              go_loopw [5, 10] (fun t i wx => ∃ (ds rs : List Vr) (v2 : Nat), t = .int .i64 v2 ∧ i = .int .i64 ds.length ∧ Hid (vs = ds ++ rs) ∧ ds.length + rs.length = vs.length ∧ v2 ≤ (2 * M + 1) ∧ Hid (Cnt M tot v2 (vrsT rs + (strsT rt + (bd.total + fnsT rs0)))) ∧ Hid (Below W1.heap.size W1 wx)) (fun _ i _ => vs.length - (intOf i).toNat)
              case atStart => exact ⟨[], vs, v7, rfl, rfl, Lib.hid rfl, by simp, hv7, hE7, hB7⟩
              case round =>
                obtain ⟨ds, rs, v2, rfl, rfl, EN, hk2, hv2, hE2, HB2⟩ := hrel
                have gx2 : wr.cell? ⟨wo.heap.size, 2, none⟩ = some (.slice s.pv vs.length s.cv) := HXC.out _ HB2.out _ _ rfl
                have hm2 : vs.length ≤ 140737488355328 := HR2.out.1
                cases rs with
                | nil =>
                  simp only [List.length_nil] at hk2
                  have hge2 : ¬ ds.length < vs.length := by omega
                  go_wp2_with fail
                  go_meet
                  exact ⟨v2, _, rfl, rfl, hv2, Lib.hid (by have := hE2.out; simpa [vrsT] using this), HB2⟩
                | cons y rs =>
                  simp only [List.length_cons] at hk2
                  have hlt2 : ds.length < vs.length := by omega
                  by_cases hM2 : v2 ≤ M
                  · rcases HR2.out.2 with h30 | ⟨b3, o3, hp3, hb3, ha3⟩
                    · omega
                    rw [EN.out] at ha3
                    have g3 : wr.cell? ⟨b3, o3 + ds.length * 4, none⟩ = some (.string (str y.name)) := (HB2.out.cell (show b3 < W1.heap.size by have := HWr.out.size; omega)).trans ((HWr.out.cell hb3).trans (by have := (Row.drop _ _ _ ha3).1; exact this.1))
                    rw [hp3] at gx2
                    have HN2 := Lib.hid (fun w => rname_nat y.name M hM w)
                    have hn2 : 1 + min y.name.length M ≤ M + 1 := by omega
                    have hc2 : (1 + min y.name.length M ≤ M ∧ 1 + y.name.length = 1 + min y.name.length M) ∨ (M < 1 + min y.name.length M ∧ M < 1 + y.name.length) := by omega
                    generalize 1 + min y.name.length M = n2 at HN2 hn2 hc2
                    obtain ⟨m2, hme⟩ : ∃ m, m = v2 + n2 := ⟨_, rfl⟩
                    have HM2 := Lib.hid hme
                    have hwr : IntKind.i64.wrap ((v2 : Int) + (n2 : Int)) = (m2 : Int) := by rw [hme]; exact wrap_add v2 n2 (by omega)
                    have hw2 : (v2 : Int) + (n2 : Int) = (m2 : Int) := by omega
                    have HH := Lib.hid hp3
                    have HE3 := Lib.hid (show Cnt M tot m2 (vrsT rs + (strsT rt + (bd.total + fnsT rs0))) by have := hE2.out; unfold Cnt at *; simp only [vrsT] at this; omega)
                    have hmb : m2 ≤ (2 * M + 1) := by omega
                    clear ha3 hme hp3 hc2
                    go_wp2_with fail
                    refine (HN2.out _).mono ?_
                    rintro z w' ⟨rfl, rfl⟩
                    go_wp2_with fail
                    go_roundw
                    case rel => exact ⟨ds ++ [y], rs, m2, rfl, by rw [List.length_append]; go_num, Lib.hid (by rw [EN.out]; simp), by simp; omega, hmb, HE3, HB2⟩
                    case measure => simp [intOf]; omega
                  · go_wp2_with fail
                    go_meet
                    exact ⟨v2, _, rfl, rfl, hv2, Lib.hid (by have := hE2.out; unfold Cnt at *; simp only [vrsT] at this; omega), HB2⟩
            case rest =>
              obtain ⟨v8, j8, rfl, rfl, hv8, hE8, hB8⟩ := hcut
              clear hE7 hB7
              go_upto_block 8 with fail
              go_cut [5, 11] from 108 to 128 (fun s5 s9 wx => ∃ v2 j : Nat, s5 = .int .i64 v2 ∧ s9 = .int .i64 j ∧ v2 ≤ (2 * M + 1) ∧ Hid (Cnt M tot v2 (bd.total + fnsT rs0)) ∧ Hid (Below W1.heap.size W1 wx))
              case first =>
                go_wp2_with fail
                go_loopw [5, 11] (fun t i wx => ∃ (ds rs : List (List UInt8)) (v2 : Nat), t = .int .i64 v2 ∧ i = .int .i64 ds.length ∧ Hid (rt = ds ++ rs) ∧ ds.length + rs.length = rt.length ∧ v2 ≤ (2 * M + 1) ∧ Hid (Cnt M tot v2 (strsT rs + (bd.total + fnsT rs0))) ∧ Hid (Below W1.heap.size W1 wx)) (fun _ i _ => rt.length - (intOf i).toNat)
                case atStart => exact ⟨[], rt, v8, rfl, rfl, Lib.hid rfl, by simp, hv8, hE8, hB8⟩
                case round =>
                  obtain ⟨ds, rs, v2, rfl, rfl, EN, hk2, hv2, hE2, HB2⟩ := hrel
                  have gx2 : wr.cell? ⟨wo.heap.size, 3, none⟩ = some (.slice s.pr rt.length s.cr) := HXC.out _ HB2.out _ _ rfl
                  have hm2 : rt.length ≤ 140737488355328 := HR3.out.1
                  cases rs with
                  | nil =>
                    simp only [List.length_nil] at hk2
                    have hge2 : ¬ ds.length < rt.length := by omega
                    go_wp2_with fail
                    go_meet
                    exact ⟨v2, _, rfl, rfl, hv2, Lib.hid (by have := hE2.out; simpa [strsT] using this), HB2⟩
                  | cons y rs =>
                    simp only [List.length_cons] at hk2
                    have hlt2 : ds.length < rt.length := by omega
                    by_cases hM2 : v2 ≤ M
                    · rcases HR3.out.2 with h30 | ⟨b3, o3, hp3, hb3, ha3⟩
                      · omega
                      rw [EN.out] at ha3
                      have g3 : wr.cell? ⟨b3, o3 + ds.length, none⟩ = some (.string (str y)) := (HB2.out.cell (show b3 < W1.heap.size by have := HWr.out.size; omega)).trans ((HWr.out.cell hb3).trans (by have := (Row.drop _ _ _ ha3).1; rw [Nat.mul_one] at this; exact this))
                      rw [hp3] at gx2
                      have HN2 := Lib.hid (fun w => rname_nat y M hM w)
                      have hn2 : 1 + min y.length M ≤ M + 1 := by omega
                      have hc2 : (1 + min y.length M ≤ M ∧ 1 + y.length = 1 + min y.length M) ∨ (M < 1 + min y.length M ∧ M < 1 + y.length) := by omega
                      generalize 1 + min y.length M = n2 at HN2 hn2 hc2
                      obtain ⟨m2, hme⟩ : ∃ m, m = v2 + n2 := ⟨_, rfl⟩
                      have HM2 := Lib.hid hme
                      have hwr : IntKind.i64.wrap ((v2 : Int) + (n2 : Int)) = (m2 : Int) := by rw [hme]; exact wrap_add v2 n2 (by omega)
                      have hw2 : (v2 : Int) + (n2 : Int) = (m2 : Int) := by omega
                      have HH := Lib.hid hp3
                      have HE3 := Lib.hid (show Cnt M tot m2 (strsT rs + (bd.total + fnsT rs0)) by have := hE2.out; unfold Cnt at *; simp only [strsT] at this; omega)
                      have hmb : m2 ≤ (2 * M + 1) := by omega
                      clear ha3 hme hp3 hc2
                      go_wp2_with fail
                      refine (HN2.out _).mono ?_
                      rintro z w' ⟨rfl, rfl⟩
                      go_wp2_with fail
                      go_roundw
                      case rel => exact ⟨ds ++ [y], rs, m2, rfl, by rw [List.length_append]; go_num, Lib.hid (by rw [EN.out]; simp), by simp; omega, hmb, HE3, HB2⟩
                      case measure => simp [intOf]; omega
                    · go_wp2_with fail
                      go_meet
                      exact ⟨v2, _, rfl, rfl, hv2, Lib.hid (by have := hE2.out; unfold Cnt at *; simp only [strsT] at this; omega), HB2⟩
              case rest =>
                obtain ⟨v9, j9, rfl, rfl, hv9, hE9, hB9⟩ := hcut
                clear hE8 hB8
                have gx4 : wc.cell? ⟨wo.heap.size, 4, none⟩ = some (.slice s.pb bd.len s.cb) := HXC.out _ hB9.out 4 _ rfl
                have HC := Lib.hid (count_any bd M hM s.pb s.cb wo.heap.size wc (Sts.In.later HOK.out.2.2.2 (HWr.out.trans (hB9.out.mono HWr.out.size)) (Nat.le_refl _)) (HWr.out.trans (hB9.out.mono HWr.out.size)).size)
                go_wp2_with fail
                refine HC.out.mono ?_
                rintro z w9 ⟨⟨n9, rfl, hn9, hc9⟩, hB⟩
                obtain ⟨m9, hme⟩ : ∃ m, m = v9 + n9 := ⟨_, rfl⟩
                have hwr : IntKind.i64.wrap ((v9 : Int) + (n9 : Int)) = (m9 : Int) := by rw [hme]; exact wrap_add v9 n9 (by omega)
                have hw9 : (v9 : Int) + (n9 : Int) = (m9 : Int) := by omega
                have hv10 : m9 ≤ 300000000000000 := by omega
                have HE10 := Lib.hid (show Cnt M tot m9 (fnsT rs0) by have := hE9.out; unfold Cnt at *; omega)
                have HB10 := Lib.hid (hBr.out.trans ((HWr.out.trans ((hB9.out.trans (hB.mono hB9.out.size)).mono HWr.out.size)).mono hBr.out.size))
                clear hB hme hc9 HC
                go_wp2_with fail
                go_roundw
                case rel => exact ⟨ds ++ [Fnc.mk nm ps vs rt bd], rs0, m9, rfl, by rw [List.length_append]; go_num, Lib.hid (by rw [E1.out]; simp), by simp; omega, hv10, HE10, HB10⟩
                case measure => simp [intOf]; omega
        · have hb : decide (M < tot) = decide (M < v2) := by have := hE2.out; unfold Cnt at this; rcases this with ⟨a, b⟩ | ⟨a, b⟩ <;> (rw [decide_eq_decide]; omega)
          have HV := Lib.hid hb
          clear hb
          go_wp2_with fail
          go_ret
          exact ⟨ret_bool (by rw [HV.out]), HW0.out.trans (hBr.out.mono HW0.out.size)⟩
end Go.Proofs.YtlhbledakddbbaaGreatDoor
