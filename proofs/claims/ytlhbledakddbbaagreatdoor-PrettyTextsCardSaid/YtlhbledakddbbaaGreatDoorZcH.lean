/- R5, V8, U1, U2, U3, U4, U5, U6, U7, U8, U9, W1 as one. -/
import Derived.Laws.AppendOwnNone
import Derived.WalkSpells
import Derived.Test.YtlhbledakddbbaaGreatDoorZcG
/- How much a program has: the document's Long. -/
namespace Go.Proofs.YtlhbledakddbbaaGreatDoor
open Go.RowKit

def rgnsT : List Rgn → Nat
  | [] => 0
  | x :: r => 1 + x.name.length + rgnsT r
def vrsT : List Vr → Nat
  | [] => 0
  | x :: r => 1 + x.name.length + vrsT r
def Fnc.total (x : Fnc) : Nat := 1 + x.name.length + vrsT x.params + vrsT x.vars + strsT x.rets + x.body.total
def fnsT : List Fnc → Nat
  | [] => 0
  | x :: r => x.total + fnsT r
def Prg.total (x : Prg) : Nat := x.regs.length + x.fns.length + rgnsT x.regs + fnsT x.fns
set_option maxRecDepth 100000 in
set_option maxHeartbeats 12800000 in
theorem long_any (x : Prg) (M : Nat) (hM : M ≤ 5000) (p q : Option Addr) (c d N : Nat) (w : World) (h : x.Ok w N p q) (hN : N ≤ w.heap.size) :
    Calls Tryz.prog 16 #[x.val p q c d, .int .i64 M] w fun e w' => e = .returned (.bool (decide (M < x.total))) ∧ Below w.heap.size w w' := by
  obtain ⟨rg, xs⟩ := x
  obtain ⟨tot, htot⟩ : ∃ t, t = (Prg.mk rg xs).total := ⟨_, rfl⟩
  rw [← htot]
  unfold Prg.total at htot
  simp only [] at htot
  obtain ⟨W0, hW0⟩ : ∃ W0, w.alloc (Obj.cells #[.slice p rg.length c, .slice q xs.length d] 39) = W0 := ⟨_, rfl⟩
  have HW0 := Lib.hid (show Below w.heap.size w W0 by rw [← hW0]; exact (Below.refl _ w).alloc (Nat.le_refl _) _)
  have HX0 := Lib.hid (fun w1 hb => cells_later (w0 := W0) (w1 := w1) (b := w.heap.size) (A := #[.slice p rg.length c, .slice q xs.length d]) (t := 39) (by rw [← hW0]; exact heap_alloc_new w _) hb)
  have R1 := Lib.hid (show RowIn w.heap.size (Rgn.At w) 4 rg p from h.1.imp hN fun _ _ _ _ h => h)
  have S1 := Lib.hid (show RowIn N (Fnc.At w N) 5 xs q from h.2)
  have hm3 : rg.length ≤ 140737488355328 := h.1.1
  have hm4 : xs.length ≤ 140737488355328 := h.2.1
  have HXN := Lib.hid hN
  clear h hN
  show Calls _ _ #[.agg #[.slice p rg.length c, .slice q xs.length d], .int .i64 M] w _
  obtain ⟨v0, hv0e⟩ : ∃ v, v = rg.length + xs.length := ⟨_, rfl⟩
  have hw0 : IntKind.i64.wrap ((rg.length : Int) + (xs.length : Int)) = (v0 : Int) := by rw [IntWalk.i64_in _ (by omega)]; omega
  have hw1 : (rg.length : Int) + (xs.length : Int) = (v0 : Int) := by omega
  have hv0 : v0 ≤ 300000000000000 := by omega
  have hE0 := Lib.hid (show Cnt M tot v0 (rgnsT rg + (fnsT xs)) by
    unfold Cnt
    by_cases hz : v0 ≤ M
    · left; omega
    · right; omega)
  have gz0 : W0.cell? ⟨w.heap.size, 0, none⟩ = some (.slice p rg.length c) := HX0.out _ (Below.refl _ _) 0 _ rfl
  have gz1 : W0.cell? ⟨w.heap.size, 1, none⟩ = some (.slice q xs.length d) := HX0.out _ (Below.refl _ _) 1 _ rfl
  clear hv0e htot
  go_enter Tryz.func16, Tryz.ntmps16
  go_upto_block 0 with fail
  go_cut [5, 6] from 19 to 40 (fun s5 s9 wx => ∃ v2 j : Nat, s5 = .int .i64 v2 ∧ s9 = .int .i64 j ∧ v2 ≤ 300000000000000 ∧ Hid (Cnt M tot v2 (fnsT xs)) ∧ Hid (Below W0.heap.size W0 wx))
  case first =>
    go_wp2_with fail
    go_loopw [5, 6] (fun t i wx => ∃ (ds rs : List Rgn) (v2 : Nat), t = .int .i64 v2 ∧ i = .int .i64 ds.length ∧ Hid (rg = ds ++ rs) ∧ ds.length + rs.length = rg.length ∧ v2 ≤ 300000000000000 ∧ Hid (Cnt M tot v2 (rgnsT rs + (fnsT xs))) ∧ Hid (Below W0.heap.size W0 wx)) (fun _ i _ => rg.length - (intOf i).toNat)
    case atStart => exact ⟨[], rg, v0, rfl, rfl, Lib.hid rfl, by simp, hv0, hE0, Lib.hid (Below.refl _ _)⟩
    case round =>
      obtain ⟨ds, rs, v2, rfl, rfl, EN, hk2, hv2, hE2, HB2⟩ := hrel
      have gx2 : wr.cell? ⟨w.heap.size, 0, none⟩ = some (.slice p rg.length c) := HX0.out _ HB2.out _ _ rfl
      have hm2 : rg.length ≤ 140737488355328 := R1.out.1
      cases rs with
      | nil =>
        simp only [List.length_nil] at hk2
        have hge2 : ¬ ds.length < rg.length := by omega
        go_wp2_with fail
        go_meet
        exact ⟨v2, _, rfl, rfl, hv2, Lib.hid (by have := hE2.out; simpa [rgnsT] using this), HB2⟩
      | cons y rs =>
        simp only [List.length_cons] at hk2
        have hlt2 : ds.length < rg.length := by omega
        by_cases hM2 : v2 ≤ M
        · rcases R1.out.2 with h30 | ⟨b3, o3, hp3, hb3, ha3⟩
          · omega
          rw [EN.out] at ha3
          have g3 : wr.cell? ⟨b3, o3 + ds.length * 4, none⟩ = some (.string (str y.name)) := (HB2.out.cell (show b3 < W0.heap.size by have := HW0.out.size; omega)).trans ((HW0.out.cell hb3).trans (by have := (Row.drop _ _ _ ha3).1; exact this.1))
          rw [hp3] at gx2
          have HN2 := Lib.hid (fun w => rname_nat y.name M hM w)
          have hn2 : 1 + min y.name.length M ≤ M + 1 := by omega
          have hc2 : (1 + min y.name.length M ≤ M ∧ 1 + y.name.length = 1 + min y.name.length M) ∨ (M < 1 + min y.name.length M ∧ M < 1 + y.name.length) := by omega
          generalize 1 + min y.name.length M = n2 at HN2 hn2 hc2
          obtain ⟨m2, hme⟩ : ∃ m, m = v2 + n2 := ⟨_, rfl⟩
          have HM2 := Lib.hid hme
          have hwr : IntKind.i64.wrap ((v2 : Int) + (n2 : Int)) = (m2 : Int) := by rw [hme]; exact wrap_add v2 n2 (by omega)
          have hw2 : (v2 : Int) + (n2 : Int) = (m2 : Int) := by omega
          have HH := Lib.hid hp3
          have HE3 := Lib.hid (show Cnt M tot m2 (rgnsT rs + (fnsT xs)) by have := hE2.out; unfold Cnt at *; simp only [rgnsT] at this; omega)
          have hmb : m2 ≤ 300000000000000 := by omega
          clear ha3 hme hp3 hc2
          go_wp2_with fail
          refine (HN2.out _).mono ?_
          rintro z w' ⟨rfl, rfl⟩
          go_wp2_with fail
          go_roundw
          case rel => exact ⟨ds ++ [y], rs, m2, rfl, by rw [List.length_append]; go_num, Lib.hid (by rw [EN.out]; simp), by simp; omega, hmb, HE3, HB2⟩
          case measure => simp [intOf]; omega
        · go_wp2_with fail
          go_meet
          exact ⟨v2, _, rfl, rfl, hv2, Lib.hid (by have := hE2.out; unfold Cnt at *; simp only [rgnsT] at this; omega), HB2⟩
  case rest =>
    obtain ⟨v1, j1, rfl, rfl, hv1, hE1, hB1⟩ := hcut
    clear hE0
    go_wp2_with fail
    go_loopw [5, 7] (fun t i wx => ∃ (ds rs : List Fnc) (v2 : Nat), t = .int .i64 v2 ∧ i = .int .i64 ds.length ∧ Hid (xs = ds ++ rs) ∧ ds.length + rs.length = xs.length ∧ v2 ≤ 300000000000000 ∧ Hid (Cnt M tot v2 (fnsT rs)) ∧ Hid (Below W0.heap.size W0 wx)) (fun _ i _ => xs.length - (intOf i).toNat)
    case atStart => exact ⟨[], xs, v1, rfl, rfl, Lib.hid rfl, by simp, hv1, hE1, hB1⟩
    case round =>
      clear hB1 hE1
      obtain ⟨ds, rs, v2, rfl, rfl, E1, hk2, hv2, hE2, hBr⟩ := hrel
      have gx1 : wr.cell? ⟨w.heap.size, 1, none⟩ = some (.slice q xs.length d) := HX0.out _ hBr.out _ _ rfl
      have hm2 : xs.length ≤ 140737488355328 := S1.out.1
      cases rs with
      | nil =>
        simp only [List.length_nil] at hk2
        have hge2 : ¬ ds.length < xs.length := by omega
        have hb : decide (M < tot) = decide (M < v2) := by have := hE2.out; unfold Cnt at this; simp only [fnsT] at this; rcases this with ⟨a, b⟩ | ⟨a, b⟩ <;> (rw [decide_eq_decide]; omega)
        have HV := Lib.hid hb
        clear hb
        go_wp2_with fail
        go_ret
        exact ⟨ret_bool (by rw [HV.out]), HW0.out.trans (hBr.out.mono HW0.out.size)⟩
      | cons y rs =>
        simp only [List.length_cons] at hk2
        have hlt2 : ds.length < xs.length := by omega
        by_cases hM2 : v2 ≤ M
        · rcases S1.out.2 with h30 | ⟨b1, o1, rfl, hb1, ha1⟩
          · omega
          rw [E1.out] at ha1
          obtain ⟨wo, rfl⟩ : ∃ wo : World, wo = wr := ⟨_, rfl⟩
          have HBww := HW0.out.trans (hBr.out.mono HW0.out.size)
          obtain ⟨s, c1, ok1⟩ := Fnc.At.openP (Fnc.At.later (HBww.mono HXN.out) (Nat.le_trans HXN.out HBww.size) y b1 _ hb1 (Row.drop _ _ _ ha1).1)
          have hbl : b1 < wo.heap.size := by have := HBww.size; have := HXN.out; omega
          obtain ⟨A1, hA1⟩ : ∃ A1, y.cells s = A1 := ⟨_, rfl⟩
          have HZ1 := Lib.hid (show A1.size = 5 by rw [← hA1]; rfl)
          have HO1 := Lib.hid (show A1.all (·.oneCell') = true by rw [← hA1]; exact oneFnc _ _)
          have F1 := Lib.hid (show wo.rangeAt b1 (o1 + ds.length * 5) A1.toList from fun j z hz => c1 j z (by rw [hA1, ← Array.getElem?_toList]; exact hz))
          have HI1 := Lib.hid (infoFnc.trans (by rw [HZ1.out]) : (Tryz.prog.info? 49).map (·.size) = some A1.size)
          obtain ⟨W1, hW1⟩ : ∃ W1, wo.alloc (Obj.cells A1 49) = W1 := ⟨_, rfl⟩
          have HWr := Lib.hid (show Below wo.heap.size wo W1 by rw [← hW1]; exact (Below.refl _ wo).alloc (Nat.le_refl _) _)
          have HXA := Lib.hid (fun w1 hb => cells_later (w0 := W1) (w1 := w1) (b := wo.heap.size) (A := A1) (t := 49) (by rw [← hW1]; exact heap_alloc_new wo _) hb)
          obtain ⟨nm, ps, vs, rt, bd⟩ := y
          have HXC := Lib.hid (show ∀ w1, Below W1.heap.size W1 w1 → ∀ j z, (#[.string (str nm), .slice s.pp ps.length s.cp, .slice s.pv vs.length s.cv, .slice s.pr rt.length s.cr, .slice s.pb bd.len s.cb] : Array Value)[j]? = some z → w1.cell? ⟨wo.heap.size, j, none⟩ = some z from fun w1 hb j z hz => HXA.out w1 hb j z (by rw [← hA1]; exact hz))
          have HOK := Lib.hid (show (Fnc.mk nm ps vs rt bd).Ok wo wo.heap.size s from ok1)
          have HR1 := Lib.hid (show RowIn wo.heap.size (Vr.At wo) 4 ps s.pp from ok1.1)
          have HR2 := Lib.hid (show RowIn wo.heap.size (Vr.At wo) 4 vs s.pv from ok1.2.1)
          have HR3 := Lib.hid (show RowIn wo.heap.size (StrAt wo) 1 rt s.pr from ok1.2.2.1.2)
          have gx0 : W1.cell? ⟨wo.heap.size, 0, none⟩ = some (.string (str nm)) := HXC.out _ (Below.refl _ _) 0 _ rfl
          have HN := Lib.hid (fun w => rname_nat nm M hM w)
          have hn1 : 1 + min nm.length M ≤ M + 1 := by omega
          have hc1 : (1 + min nm.length M ≤ M ∧ 1 + nm.length = 1 + min nm.length M) ∨ (M < 1 + min nm.length M ∧ M < 1 + nm.length) := by omega
          generalize 1 + min nm.length M = n1 at HN hn1 hc1
          obtain ⟨m6, hme⟩ : ∃ m, m = v2 + n1 := ⟨_, rfl⟩
          have HM6 := Lib.hid hme
          have hwr6 : IntKind.i64.wrap ((v2 : Int) + (n1 : Int)) = (m6 : Int) := by rw [hme]; exact wrap_add v2 n1 (by omega)
          have hw6 : (v2 : Int) + (n1 : Int) = (m6 : Int) := by omega
          have hv6 : m6 ≤ 2 * M + 1 := by omega
          have hE6 := Lib.hid (show Cnt M tot m6 (vrsT ps + (vrsT vs + (strsT rt + (bd.total + fnsT rs)))) by have := hE2.out; unfold Cnt at *; simp only [fnsT, Fnc.total] at this; omega)
          have hB6 := Lib.hid (Below.refl W1.heap.size W1)
          obtain ⟨rs0, rfl⟩ : ∃ r, r = rs := ⟨_, rfl⟩
          clear ok1 HXA hA1 c1 ha1 hme hc1 HBww hE2
          go_wp2_with (first | (refine wpl_load rfl 49 _ rfl b1 (o1 + ds.length * 5) rfl A1 _ F1.out Tryz.underlying49 rfl HI1.out ?_) | (refine wpl_store_new rfl 49 _ _ rfl _ A1 _ rfl rfl (by rw [HZ1.out]; rfl) HI1.out HO1.out ?_))
          refine (HN.out _).mono ?_
          rintro z w' ⟨rfl, rfl⟩
          go_upto_block 4 with fail
          go_cut [5, 9] from 64 to 85 (fun s5 s9 wx => ∃ v2 j : Nat, s5 = .int .i64 v2 ∧ s9 = .int .i64 j ∧ v2 ≤ (2 * M + 1) ∧ Hid (Cnt M tot v2 (vrsT vs + (strsT rt + (bd.total + fnsT rs0)))) ∧ Hid (Below W1.heap.size W1 wx))
          case first =>
            go_wp2_with fail
            go_loopw [5, 9] (fun t i wx => ∃ (ds rs : List Vr) (v2 : Nat), t = .int .i64 v2 ∧ i = .int .i64 ds.length ∧ Hid (ps = ds ++ rs) ∧ ds.length + rs.length = ps.length ∧ v2 ≤ (2 * M + 1) ∧ Hid (Cnt M tot v2 (vrsT rs + (vrsT vs + (strsT rt + (bd.total + fnsT rs0))))) ∧ Hid (Below W1.heap.size W1 wx)) (fun _ i _ => ps.length - (intOf i).toNat)
            case atStart => exact ⟨[], ps, m6, rfl, rfl, Lib.hid rfl, by simp, hv6, hE6, hB6⟩
            case round =>
              obtain ⟨ds, rs, v2, rfl, rfl, EN, hk2, hv2, hE2, HB2⟩ := hrel
              have gx2 : wr.cell? ⟨wo.heap.size, 1, none⟩ = some (.slice s.pp ps.length s.cp) := HXC.out _ HB2.out _ _ rfl
              have hm2 : ps.length ≤ 140737488355328 := HR1.out.1
              cases rs with
              | nil =>
                simp only [List.length_nil] at hk2
                have hge2 : ¬ ds.length < ps.length := by omega
                go_wp2_with fail
                go_meet
                exact ⟨v2, _, rfl, rfl, hv2, Lib.hid (by have := hE2.out; simpa [vrsT] using this), HB2⟩
              | cons y rs =>
                simp only [List.length_cons] at hk2
                have hlt2 : ds.length < ps.length := by omega
                by_cases hM2 : v2 ≤ M
                · rcases HR1.out.2 with h30 | ⟨b3, o3, hp3, hb3, ha3⟩
                  · omega
                  rw [EN.out] at ha3
                  have g3 : wr.cell? ⟨b3, o3 + ds.length * 4, none⟩ = some (.string (str y.name)) := (HB2.out.cell (show b3 < W1.heap.size by have := HWr.out.size; omega)).trans ((HWr.out.cell hb3).trans (by have := (Row.drop _ _ _ ha3).1; exact this.1))
                  rw [hp3] at gx2
                  have HN2 := Lib.hid (fun w => rname_nat y.name M hM w)
                  have hn2 : 1 + min y.name.length M ≤ M + 1 := by omega
                  have hc2 : (1 + min y.name.length M ≤ M ∧ 1 + y.name.length = 1 + min y.name.length M) ∨ (M < 1 + min y.name.length M ∧ M < 1 + y.name.length) := by omega
                  generalize 1 + min y.name.length M = n2 at HN2 hn2 hc2
                  obtain ⟨m2, hme⟩ : ∃ m, m = v2 + n2 := ⟨_, rfl⟩
                  have HM2 := Lib.hid hme
                  have hwr : IntKind.i64.wrap ((v2 : Int) + (n2 : Int)) = (m2 : Int) := by rw [hme]; exact wrap_add v2 n2 (by omega)
                  have hw2 : (v2 : Int) + (n2 : Int) = (m2 : Int) := by omega
                  have HH := Lib.hid hp3
                  have HE3 := Lib.hid (show Cnt M tot m2 (vrsT rs + (vrsT vs + (strsT rt + (bd.total + fnsT rs0)))) by have := hE2.out; unfold Cnt at *; simp only [vrsT] at this; omega)
                  have hmb : m2 ≤ (2 * M + 1) := by omega
                  clear ha3 hme hp3 hc2
                  go_wp2_with fail
                  refine (HN2.out _).mono ?_
                  rintro z w' ⟨rfl, rfl⟩
                  go_wp2_with fail
                  go_roundw
                  case rel => exact ⟨ds ++ [y], rs, m2, rfl, by rw [List.length_append]; go_num, Lib.hid (by rw [EN.out]; simp), by simp; omega, hmb, HE3, HB2⟩
                  case measure => simp [intOf]; omega
                · go_wp2_with fail
                  go_meet
                  exact ⟨v2, _, rfl, rfl, hv2, Lib.hid (by have := hE2.out; unfold Cnt at *; simp only [vrsT] at this; omega), HB2⟩
          case rest =>
            obtain ⟨v7, j7, rfl, rfl, hv7, hE7, hB7⟩ := hcut
            clear hE6
            go_upto_block 6 with fail
            go_cut [5, 10] from 86 to 107 (fun s5 s9 wx => ∃ v2 j : Nat, s5 = .int .i64 v2 ∧ s9 = .int .i64 j ∧ v2 ≤ (2 * M + 1) ∧ Hid (Cnt M tot v2 (strsT rt + (bd.total + fnsT rs0))) ∧ Hid (Below W1.heap.size W1 wx))
            case first =>
              go_wp2_with fail
              go_loopw [5, 10] (fun t i wx => ∃ (ds rs : List Vr) (v2 : Nat), t = .int .i64 v2 ∧ i = .int .i64 ds.length ∧ Hid (vs = ds ++ rs) ∧ ds.length + rs.length = vs.length ∧ v2 ≤ (2 * M + 1) ∧ Hid (Cnt M tot v2 (vrsT rs + (strsT rt + (bd.total + fnsT rs0)))) ∧ Hid (Below W1.heap.size W1 wx)) (fun _ i _ => vs.length - (intOf i).toNat)
              case atStart => exact ⟨[], vs, v7, rfl, rfl, Lib.hid rfl, by simp, hv7, hE7, hB7⟩
              case round =>
                obtain ⟨ds, rs, v2, rfl, rfl, EN, hk2, hv2, hE2, HB2⟩ := hrel
                have gx2 : wr.cell? ⟨wo.heap.size, 2, none⟩ = some (.slice s.pv vs.length s.cv) := HXC.out _ HB2.out _ _ rfl
                have hm2 : vs.length ≤ 140737488355328 := HR2.out.1
                cases rs with
                | nil =>
                  simp only [List.length_nil] at hk2
                  have hge2 : ¬ ds.length < vs.length := by omega
                  go_wp2_with fail
                  go_meet
                  exact ⟨v2, _, rfl, rfl, hv2, Lib.hid (by have := hE2.out; simpa [vrsT] using this), HB2⟩
                | cons y rs =>
                  simp only [List.length_cons] at hk2
                  have hlt2 : ds.length < vs.length := by omega
                  by_cases hM2 : v2 ≤ M
                  · rcases HR2.out.2 with h30 | ⟨b3, o3, hp3, hb3, ha3⟩
                    · omega
                    rw [EN.out] at ha3
                    have g3 : wr.cell? ⟨b3, o3 + ds.length * 4, none⟩ = some (.string (str y.name)) := (HB2.out.cell (show b3 < W1.heap.size by have := HWr.out.size; omega)).trans ((HWr.out.cell hb3).trans (by have := (Row.drop _ _ _ ha3).1; exact this.1))
                    rw [hp3] at gx2
                    have HN2 := Lib.hid (fun w => rname_nat y.name M hM w)
                    have hn2 : 1 + min y.name.length M ≤ M + 1 := by omega
                    have hc2 : (1 + min y.name.length M ≤ M ∧ 1 + y.name.length = 1 + min y.name.length M) ∨ (M < 1 + min y.name.length M ∧ M < 1 + y.name.length) := by omega
                    generalize 1 + min y.name.length M = n2 at HN2 hn2 hc2
                    obtain ⟨m2, hme⟩ : ∃ m, m = v2 + n2 := ⟨_, rfl⟩
                    have HM2 := Lib.hid hme
                    have hwr : IntKind.i64.wrap ((v2 : Int) + (n2 : Int)) = (m2 : Int) := by rw [hme]; exact wrap_add v2 n2 (by omega)
                    have hw2 : (v2 : Int) + (n2 : Int) = (m2 : Int) := by omega
                    have HH := Lib.hid hp3
                    have HE3 := Lib.hid (show Cnt M tot m2 (vrsT rs + (strsT rt + (bd.total + fnsT rs0))) by have := hE2.out; unfold Cnt at *; simp only [vrsT] at this; omega)
                    have hmb : m2 ≤ (2 * M + 1) := by omega
                    clear ha3 hme hp3 hc2
                    go_wp2_with fail
                    refine (HN2.out _).mono ?_
                    rintro z w' ⟨rfl, rfl⟩
                    go_wp2_with fail
                    go_roundw
                    case rel => exact ⟨ds ++ [y], rs, m2, rfl, by rw [List.length_append]; go_num, Lib.hid (by rw [EN.out]; simp), by simp; omega, hmb, HE3, HB2⟩
                    case measure => simp [intOf]; omega
                  · go_wp2_with fail
                    go_meet
                    exact ⟨v2, _, rfl, rfl, hv2, Lib.hid (by have := hE2.out; unfold Cnt at *; simp only [vrsT] at this; omega), HB2⟩
            case rest =>
              obtain ⟨v8, j8, rfl, rfl, hv8, hE8, hB8⟩ := hcut
              clear hE7 hB7
              go_upto_block 8 with fail
              go_cut [5, 11] from 108 to 128 (fun s5 s9 wx => ∃ v2 j : Nat, s5 = .int .i64 v2 ∧ s9 = .int .i64 j ∧ v2 ≤ (2 * M + 1) ∧ Hid (Cnt M tot v2 (bd.total + fnsT rs0)) ∧ Hid (Below W1.heap.size W1 wx))
              case first =>
                go_wp2_with fail
                go_loopw [5, 11] (fun t i wx => ∃ (ds rs : List (List UInt8)) (v2 : Nat), t = .int .i64 v2 ∧ i = .int .i64 ds.length ∧ Hid (rt = ds ++ rs) ∧ ds.length + rs.length = rt.length ∧ v2 ≤ (2 * M + 1) ∧ Hid (Cnt M tot v2 (strsT rs + (bd.total + fnsT rs0))) ∧ Hid (Below W1.heap.size W1 wx)) (fun _ i _ => rt.length - (intOf i).toNat)
                case atStart => exact ⟨[], rt, v8, rfl, rfl, Lib.hid rfl, by simp, hv8, hE8, hB8⟩
                case round =>
                  obtain ⟨ds, rs, v2, rfl, rfl, EN, hk2, hv2, hE2, HB2⟩ := hrel
                  have gx2 : wr.cell? ⟨wo.heap.size, 3, none⟩ = some (.slice s.pr rt.length s.cr) := HXC.out _ HB2.out _ _ rfl
                  have hm2 : rt.length ≤ 140737488355328 := HR3.out.1
                  cases rs with
                  | nil =>
                    simp only [List.length_nil] at hk2
                    have hge2 : ¬ ds.length < rt.length := by omega
                    go_wp2_with fail
                    go_meet
                    exact ⟨v2, _, rfl, rfl, hv2, Lib.hid (by have := hE2.out; simpa [strsT] using this), HB2⟩
                  | cons y rs =>
                    simp only [List.length_cons] at hk2
                    have hlt2 : ds.length < rt.length := by omega
                    by_cases hM2 : v2 ≤ M
                    · rcases HR3.out.2 with h30 | ⟨b3, o3, hp3, hb3, ha3⟩
                      · omega
                      rw [EN.out] at ha3
                      have g3 : wr.cell? ⟨b3, o3 + ds.length, none⟩ = some (.string (str y)) := (HB2.out.cell (show b3 < W1.heap.size by have := HWr.out.size; omega)).trans ((HWr.out.cell hb3).trans (by have := (Row.drop _ _ _ ha3).1; rw [Nat.mul_one] at this; exact this))
                      rw [hp3] at gx2
                      have HN2 := Lib.hid (fun w => rname_nat y M hM w)
                      have hn2 : 1 + min y.length M ≤ M + 1 := by omega
                      have hc2 : (1 + min y.length M ≤ M ∧ 1 + y.length = 1 + min y.length M) ∨ (M < 1 + min y.length M ∧ M < 1 + y.length) := by omega
                      generalize 1 + min y.length M = n2 at HN2 hn2 hc2
                      obtain ⟨m2, hme⟩ : ∃ m, m = v2 + n2 := ⟨_, rfl⟩
                      have HM2 := Lib.hid hme
                      have hwr : IntKind.i64.wrap ((v2 : Int) + (n2 : Int)) = (m2 : Int) := by rw [hme]; exact wrap_add v2 n2 (by omega)
                      have hw2 : (v2 : Int) + (n2 : Int) = (m2 : Int) := by omega
                      have HH := Lib.hid hp3
                      have HE3 := Lib.hid (show Cnt M tot m2 (strsT rs + (bd.total + fnsT rs0)) by have := hE2.out; unfold Cnt at *; simp only [strsT] at this; omega)
                      have hmb : m2 ≤ (2 * M + 1) := by omega
                      clear ha3 hme hp3 hc2
                      go_wp2_with fail
                      refine (HN2.out _).mono ?_
                      rintro z w' ⟨rfl, rfl⟩
                      go_wp2_with fail
                      go_roundw
                      case rel => exact ⟨ds ++ [y], rs, m2, rfl, by rw [List.length_append]; go_num, Lib.hid (by rw [EN.out]; simp), by simp; omega, hmb, HE3, HB2⟩
                      case measure => simp [intOf]; omega
                    · go_wp2_with fail
                      go_meet
                      exact ⟨v2, _, rfl, rfl, hv2, Lib.hid (by have := hE2.out; unfold Cnt at *; simp only [strsT] at this; omega), HB2⟩
              case rest =>
                obtain ⟨v9, j9, rfl, rfl, hv9, hE9, hB9⟩ := hcut
                clear hE8 hB8
                have gx4 : wc.cell? ⟨wo.heap.size, 4, none⟩ = some (.slice s.pb bd.len s.cb) := HXC.out _ hB9.out 4 _ rfl
                have HC := Lib.hid (count_any bd M hM s.pb s.cb wo.heap.size wc (Sts.In.later HOK.out.2.2.2 (HWr.out.trans (hB9.out.mono HWr.out.size)) (Nat.le_refl _)) (HWr.out.trans (hB9.out.mono HWr.out.size)).size)
                go_wp2_with fail
                refine HC.out.mono ?_
                rintro z w9 ⟨⟨n9, rfl, hn9, hc9⟩, hB⟩
                obtain ⟨m9, hme⟩ : ∃ m, m = v9 + n9 := ⟨_, rfl⟩
                have hwr : IntKind.i64.wrap ((v9 : Int) + (n9 : Int)) = (m9 : Int) := by rw [hme]; exact wrap_add v9 n9 (by omega)
                have hw9 : (v9 : Int) + (n9 : Int) = (m9 : Int) := by omega
                have hv10 : m9 ≤ 300000000000000 := by omega
                have HE10 := Lib.hid (show Cnt M tot m9 (fnsT rs0) by have := hE9.out; unfold Cnt at *; omega)
                have HB10 := Lib.hid (hBr.out.trans ((HWr.out.trans ((hB9.out.trans (hB.mono hB9.out.size)).mono HWr.out.size)).mono hBr.out.size))
                clear hB hme hc9 HC
                go_wp2_with fail
                go_roundw
                case rel => exact ⟨ds ++ [Fnc.mk nm ps vs rt bd], rs0, m9, rfl, by rw [List.length_append]; go_num, Lib.hid (by rw [E1.out]; simp), by simp; omega, hv10, HE10, HB10⟩
                case measure => simp [intOf]; omega
        · have hb : decide (M < tot) = decide (M < v2) := by have := hE2.out; unfold Cnt at this; rcases this with ⟨a, b⟩ | ⟨a, b⟩ <;> (rw [decide_eq_decide]; omega)
          have HV := Lib.hid hb
          clear hb
          go_wp2_with fail
          go_ret
          exact ⟨ret_bool (by rw [HV.out]), HW0.out.trans (hBr.out.mono HW0.out.size)⟩
end Go.Proofs.YtlhbledakddbbaaGreatDoor
/- Bounds of what is short; the text of any short program. -/
namespace Go.Proofs.YtlhbledakddbbaaGreatDoor
open Go.RowKit

theorem vrsT_len (l : List Vr) : l.length ≤ vrsT l := by
  induction l with
  | nil => exact Nat.le_refl _
  | cons x r ih => simp only [List.length_cons, vrsT]; omega
theorem vrsT_mem {l : List Vr} {v : Vr} (h : v ∈ l) : v.name.length ≤ vrsT l := by
  induction l with
  | nil => cases h
  | cons x r ih =>
    simp only [vrsT]
    rcases List.mem_cons.1 h with rfl | h
    · omega
    · have := ih h; omega
theorem rgnsT_mem {l : List Rgn} {v : Rgn} (h : v ∈ l) : v.name.length ≤ rgnsT l := by
  induction l with
  | nil => cases h
  | cons x r ih =>
    simp only [rgnsT]
    rcases List.mem_cons.1 h with rfl | h
    · omega
    · have := ih h; omega
theorem fnsT_mem {l : List Fnc} {f : Fnc} (h : f ∈ l) : f.total ≤ fnsT l := by
  induction l with
  | nil => cases h
  | cons x r ih =>
    simp only [fnsT]
    rcases List.mem_cons.1 h with rfl | h
    · omega
    · have := ih h; omega
theorem secT_len (s : Bool) : (secT s).length ≤ 7 := by cases s <;> decide
theorem params_len (l : List Vr) : sumL (l.map Vr.param) ≤ 10 * vrsT l := by
  induction l with
  | nil => exact Nat.le_refl _
  | cons x r ih =>
    have := secT_len x.secret
    simp only [List.map_cons, sumL, vrsT, Vr.param, List.length_append]; omega
theorem dec_int {z : Int} (h : z ≤ 9223372036854775807) : (Lib.decDigits z.toNat).length ≤ 20 := dec_len (by omega)
theorem Rgn.line_len {r : Rgn} (h : r.fit) : r.line.length ≤ 100 + r.name.length := by
  have h1 := dec_int h.1.2
  have h2 := dec_int h.2.2
  have h3 := secT_len r.secret
  simp only [Rgn.line, List.length_append, List.length_cons, List.length_nil]; omega
theorem Vr.line_len {v : Vr} (h : v.fit) : v.line.length ≤ 100 + v.name.length := by
  have h2 := dec_int h.2
  have h3 := secT_len v.secret
  have h4 : v.word.length ≤ 6 := by unfold Vr.word; split <;> decide
  unfold Vr.line
  split <;> (simp only [List.length_append, List.length_cons, List.length_nil]; omega)
theorem Fnc.head_len (f : Fnc) : f.head.length ≤ 100 + 10 * f.total := by
  have h1 := joinL_len (f.params.map Vr.param)
  have h2 := params_len f.params
  have h3 := joinL_len f.rets
  have h4 := sumL_strs f.rets
  unfold Fnc.head Fnc.total
  split <;> (simp only [List.length_append, List.length_cons, List.length_nil]; omega)
/-- the lines of a short program that may be told: how far in, how long -/
theorem Prg.lines_len {x : Prg} {N : Nat} {w : World} {p q : Option Addr} (hok : x.Ok w N p q) (hfit : x.fit) (ht : x.total ≤ 5000) (hm : x.may = true) : ∀ y ∈ x.lines, y.1 ≤ 1000 ∧ y.2.length ≤ 1000000 := by
  intro y hy
  unfold Prg.total at ht
  rcases List.mem_append.1 hy with hy | hy
  · obtain ⟨r, hr, rfl⟩ := List.mem_map.1 hy
    have h1 := Rgn.line_len (hfit.1 r hr)
    have h2 := rgnsT_mem hr
    exact ⟨Nat.zero_le _, by simp only []; omega⟩
  · obtain ⟨f, hf, hy⟩ := List.mem_flatMap.1 hy
    have hft := fnsT_mem hf
    have hmf := by
      unfold Prg.may at hm
      rw [Bool.and_eq_true] at hm
      exact List.all_eq_true.1 hm.2 f hf
    have hd := can_deep hmf
    unfold Fnc.lines at hy
    rcases List.mem_cons.1 hy with rfl | hy
    · have := Fnc.head_len f
      exact ⟨Nat.zero_le _, by simp only []; omega⟩
    · rcases List.mem_append.1 hy with hy | hy
      · obtain ⟨v, hv, rfl⟩ := List.mem_map.1 hy
        have h1 := Vr.line_len ((hfit.2 f hf).2 v hv)
        have h2 := vrsT_mem hv
        unfold Fnc.total at hft
        exact ⟨by simp only []; omega, by simp only []; omega⟩
      · rcases List.mem_append.1 hy with hy | hy
        · have hfn : f.body.fine := by
            rcases hok.2.2 with h0 | ⟨b, o, _, _, hr⟩
            · have : x.fns = [] := List.length_eq_zero_iff.1 h0
              rw [this] at hf; cases hf
            · obtain ⟨i, hi⟩ := List.getElem?_of_mem hf
              obtain ⟨s, _, ok⟩ := (hr.get hi).open
              exact ok.2.2.2.fine
          have h1 := Sts.lines_ok f.body 1 hfn y hy
          unfold Fnc.total at hft
          exact ⟨by have := h1.2.1; omega, by have := h1.2.2; omega⟩
        · rw [List.mem_singleton] at hy
          subst hy
          exact ⟨Nat.zero_le _, by decide⟩
/-- the text of any short program -/
theorem text_any (x : Prg) (p q : Option Addr) (c d N : Nat) (w : World) (hG : Glob w) (hok : x.Ok w N p q) (hN : N ≤ w.heap.size) (hfit : x.fit) (ht : x.total ≤ 5000) :
    Calls Tryz.prog 17 #[x.val p q c d] w fun e w' => e = .returned (.tuple #[.string (str x.out), .int .i64 (x.err : Int)]) ∧ Below w.heap.size w w' := by
  have hok' := hok.later (Below.refl N w) hN
  have h6 : ∀ f ∈ x.fns, f.body.wt ≤ 1000000 := fun f hf => by
    have h1 := Sts.wt_total f.body
    have h2 := fnsT_mem hf
    unfold Prg.total at ht
    unfold Fnc.total at h2
    omega
  by_cases hm : x.may = true
  · refine text_yes x h6 p q c d w hG hok' hm hfit (fun f hf => ?_) (Prg.lines_len hok hfit ht hm)
    have h1 := vrsT_len f.params
    have h2 := fnsT_mem hf
    unfold Prg.total at ht
    unfold Fnc.total at h2
    omega
  · exact text_no x h6 p q c d w hok' (by simpa using hm)
end Go.Proofs.YtlhbledakddbbaaGreatDoor
/- The document's names, mayVar, secret and list. -/
namespace Go.Proofs.YtlhbledakddbbaaGreatDoor
open Go.RowKit

set_option maxHeartbeats 1600000 in
theorem rNms_any (ns : List (List UInt8)) (p : Option Addr) (c N : Nat) (w : World) (hN : N ≤ w.heap.size) (h : RowIn N (StrAt w) 1 ns p) :
    Calls Tryz.prog 99 #[.slice p ns.length c] w fun e w' => e = .returned (.bool (namesB ns)) ∧ Below w.heap.size w w' := by
  have S1 := Lib.hid h
  have hm1 := h.1
  clear h
  go_enter Tryz.func99, Tryz.ntmps99
  go_wp2_with fail
  go_loopw [3] (fun i wr => ∃ (k : Nat) (r : List (List UInt8)), i = .int .i64 k ∧ k + r.length = ns.length ∧ Hid (∀ b o, p = some ⟨b, o, none⟩ → Row (StrAt w) 1 ns b o → Row (StrAt w) 1 r b (o + k * 1)) ∧ Hid (namesB ns = namesB r) ∧ Hid (Below w.heap.size w wr)) (fun i _ => ns.length - (intOf i).toNat)
  case atStart => exact ⟨0, ns, rfl, by omega, Lib.hid fun b o _ h => by rw [Nat.zero_mul]; exact h, Lib.hid rfl, Lib.hid (Below.refl _ _)⟩
  case round =>
    obtain ⟨k, r, rfl, hk, hat, hE, hB⟩ := hrel
    cases r with
    | nil =>
      simp only [List.length_nil] at hk
      have hge : ¬ k < ns.length := by omega
      go_wp2_with fail
      go_ret
      exact ⟨ret_bool (by rw [hE.out]; rfl), hB.out⟩
    | cons x r =>
      simp only [List.length_cons] at hk
      have hlt : k < ns.length := by omega
      rcases S1.out.2 with h30 | ⟨b, o, rfl, hb, ha⟩
      · omega
      obtain ⟨hx, hr⟩ := hat.out b o rfl ha
      rw [Nat.mul_one] at hx hr
      have c0 := StrAt.later (hB.out.mono hN) x b _ hb hx
      unfold StrAt at c0
      have HR := Lib.hid hr
      have HNm := Lib.hid (fun w => rnm_any (str x) w)
      rw [str_data] at HNm
      have HE := Lib.hid (show namesB ns = (nameB x && namesB r) by rw [hE.out]; rfl)
      obtain ⟨z, hz⟩ : ∃ z, nameB x = z := ⟨_, rfl⟩
      rw [hz] at HE HNm
      clear hx hr ha hE hz
      go_wp2_with fail
      refine (HNm.out _).mono ?_
      rintro e w2 ⟨rfl, hB2⟩
      have HB2 := Lib.hid (hB.out.trans (hB2.mono hB.out.size))
      clear hB2
      cases z
      · go_wp2_with fail
        go_ret
        exact ⟨ret_bool (by rw [HE.out]; rfl), HB2.out⟩
      · go_wp2_with fail
        go_roundw
        case rel => exact ⟨k + 1, r, by go_num, by omega, Lib.hid fun b' o' e _ => by cases e; rw [show o + (k + 1) * 1 = o + k + 1 by omega]; exact HR.out, Lib.hid (by rw [HE.out]; rfl), HB2⟩
        case measure => simp [intOf]; omega
theorem rsecret_any (s : Bool) (w : World) : Calls Tryz.prog 57 #[.bool s] w fun e w' => e = .returned (.string (str (secT s))) ∧ w = w' := by
  cases s
  · go_enter Tryz.func57, Tryz.ntmps57
    go_wp2_with fail
    go_ret
    exact ⟨rfl, rfl⟩
  · go_enter Tryz.func57, Tryz.ntmps57
    go_wp2_with fail
    go_ret
    exact ⟨rfl, rfl⟩
theorem joinTail_c (x : List UInt8) (r : List (List UInt8)) : Lib.joinTail [44, 32] (x :: r) = [44, 32] ++ x ++ Lib.joinTail [44, 32] r := by simp [Lib.joinTail]
set_option maxHeartbeats 1600000 in
theorem rlist_any (ts : List (List UInt8)) (p : Option Addr) (c N : Nat) (w : World) (h : RowIn N (StrAt w) 1 ts p) (hl : (Lib.join ts [44, 32]).length ≤ 1000000) :
    Calls Tryz.prog 58 #[.slice p ts.length c] w fun e w' => e = .returned (.string (str (Lib.join ts [44, 32]))) ∧ w = w' := by
  have S1 := Lib.hid h
  have hm1 := h.1
  obtain ⟨T, hT⟩ : ∃ T, Lib.join ts [44, 32] = T := ⟨_, rfl⟩
  rw [hT] at hl ⊢
  obtain ⟨TT, hTT⟩ : ∃ TT, str T = TT := ⟨_, rfl⟩
  rw [hTT]
  have HTT := Lib.hid hTT
  have HT := Lib.hid hT
  clear h hT hTT
  go_enter Tryz.func58, Tryz.ntmps58
  go_wp2_with fail
  go_loopw [3, 4] (fun a i wr => ∃ (k : Nat) (r : List (List UInt8)) (A : List UInt8), i = .int .i64 k ∧ a = .string (str A) ∧ k + r.length = ts.length ∧ Hid (∀ b o, p = some ⟨b, o, none⟩ → Row (StrAt w) 1 ts b o → Row (StrAt w) 1 r b (o + k * 1)) ∧ Hid (A ++ (if k = 0 then Lib.join r [44, 32] else Lib.joinTail [44, 32] r) = T) ∧ wr = w) (fun _ i _ => ts.length - (intOf i).toNat)
  case atStart => exact ⟨0, ts, [], rfl, rfl, by omega, Lib.hid fun b o _ h => by rw [Nat.zero_mul]; exact h, Lib.hid (by rw [if_pos rfl, HT.out]; rfl), rfl⟩
  case round =>
    obtain ⟨k, r, A, rfl, rfl, hk, hat, hE, rfl⟩ := hrel
    cases r with
    | nil =>
      simp only [List.length_nil] at hk
      have hge : ¬ k < ts.length := by omega
      go_wp2_with fail
      go_ret
      refine ⟨ret_strE ?_, rfl⟩
      rw [← HTT.out, ← hE.out]
      split <;> simp [Lib.join, Lib.joinTail]
    | cons x r =>
      simp only [List.length_cons] at hk
      have hlt : k < ts.length := by omega
      rcases S1.out.2 with h30 | ⟨b, o, rfl, hb, ha⟩
      · omega
      obtain ⟨hx, hr⟩ := hat.out b o rfl ha
      rw [Nat.mul_one] at hx hr
      unfold StrAt at hx
      have HR := Lib.hid hr
      have hEo := hE.out
      have hlen := congrArg List.length hEo
      by_cases h0 : k = 0
      · subst h0
        rw [Nat.add_zero] at hx
        rw [if_pos rfl, Lib.join_cons] at hEo
        have hA1 : A.length + x.length ≤ 1000000 := by have := congrArg List.length hEo; simp only [List.length_append] at this; omega
        have q1 : ∀ w : World, (Op.stringOp .add (str A) (str x)).run Tryz.prog w = .ok (.string (str (A ++ x))) w := fun w => add_str A x (by omega) w
        have HN := Lib.hid (show A ++ x ++ (if 0 + 1 = 0 then Lib.join r [44, 32] else Lib.joinTail [44, 32] r) = T by rw [if_neg (by omega), ← hEo, List.append_assoc])
        clear hr ha hE hEo hlen
        go_wp2_with fail
        go_roundw
        case rel => exact ⟨0 + 1, r, A ++ x, by go_num, rfl, by omega, Lib.hid fun b' o' e _ => by cases e; rw [show o + (0 + 1) * 1 = o + 0 + 1 by omega]; exact HR.out, HN, trivial⟩
        case measure => simp [intOf]; omega
      · rw [if_neg h0, joinTail_c] at hEo
        have hA1 : A.length + 2 + x.length ≤ 1000000 := by have := congrArg List.length hEo; simp only [List.length_append, List.length_cons, List.length_nil] at this; omega
        have q0 : ∀ w : World, (Op.stringOp .add (str A) ⟨#[44, 32]⟩).run Tryz.prog w = .ok (.string (str (A ++ [44, 32]))) w := fun w => add_str A [44, 32] (by simp; omega) w
        obtain ⟨B, hB⟩ : ∃ B, str (A ++ [44, 32]) = B := ⟨_, rfl⟩
        have q1 : ∀ w : World, (Op.stringOp .add B (str x)).run Tryz.prog w = .ok (.string (str (A ++ [44, 32] ++ x))) w := fun w => by rw [← hB]; exact add_str (A ++ [44, 32]) x (by simp; omega) w
        rw [hB] at q0
        obtain ⟨C, hC⟩ : ∃ C, A ++ [44, 32] ++ x = C := ⟨_, rfl⟩
        rw [hC] at q1
        have HN := Lib.hid (show C ++ (if k + 1 = 0 then Lib.join r [44, 32] else Lib.joinTail [44, 32] r) = T by rw [if_neg (by omega), ← hC, ← hEo]; simp)
        have hpos : (0 : Int) < (k : Int) := by omega
        clear hr ha hE hEo hlen hB hC
        go_wp2_with fail
        go_roundw
        case rel => exact ⟨k + 1, r, C, by go_num, rfl, by omega, Lib.hid fun b' o' e _ => by cases e; rw [show o + (k + 1) * 1 = o + k + 1 by omega]; exact HR.out, HN, trivial⟩
        case measure => simp [intOf]; omega
end Go.Proofs.YtlhbledakddbbaaGreatDoor
/- The document's mayVar. -/
namespace Go.Proofs.YtlhbledakddbbaaGreatDoor
open Go.RowKit

def Vr.mayR (v : Vr) (p : Bool) : Bool := if p then v.mayP else v.may
set_option maxHeartbeats 3200000 in
theorem rmayVar_any (v : Vr) (pa : Bool) (w : World) : Calls Tryz.prog 98 #[v.val, .bool pa] w fun e w' => e = .returned (.bool (v.mayR pa)) ∧ Below w.heap.size w w' := by
  obtain ⟨nm, kd, sz, sc⟩ := v
  have HNm := Lib.hid (fun w => rnm_any (str nm) w)
  rw [str_data] at HNm
  obtain ⟨W1, hW1⟩ : ∃ W1, w.alloc (.cells #[.string (str nm), .int .i64 kd, .int .i64 sz, .bool sc] 80 (0, 0)) = W1 := ⟨_, rfl⟩
  have hB1 : Below w.heap.size w W1 := by rw [← hW1]; exact (Below.refl w.heap.size w).alloc (Nat.le_refl _) _
  have hk1 : W1.heap[w.heap.size]? = some (.cells #[.string (str nm), .int .i64 kd, .int .i64 sz, .bool sc] 80 (0, 0)) := by rw [← hW1]; exact heap_alloc_new w _
  have HK := Lib.hid hk1
  have HB := Lib.hid hB1
  have c0 := cell_block hk1 (j := 0) (v := .string (str nm)) rfl
  have c1 := cell_block hk1 (j := 1) (v := .int .i64 kd) rfl
  have c2 := cell_block hk1 (j := 2) (v := .int .i64 sz) rfl
  have c3 := cell_block hk1 (j := 3) (v := .bool sc) rfl
  obtain ⟨R, hR⟩ : ∃ R, (Vr.mk nm kd sz sc).mayR pa = R := ⟨_, rfl⟩
  rw [hR]
  simp only [Vr.mayR, Vr.mayP, Vr.may] at hR
  have HR := Lib.hid hR
  unfold Vr.val
  simp only []
  clear hB1 hk1 hR
  generalize nameB nm = z at *
  go_enter Tryz.func98, Tryz.ntmps98
  go_wp2_with fail
  refine (HNm.out _).mono ?_
  rintro e w2 ⟨rfl, hB2⟩
  have hk2 := (hB2.block _ (lt_of_block HK.out)).trans HK.out
  have c0 := cell_block hk2 (j := 0) (v := .string (str nm)) rfl
  have c1 := cell_block hk2 (j := 1) (v := .int .i64 kd) rfl
  have c2 := cell_block hk2 (j := 2) (v := .int .i64 sz) rfl
  have c3 := cell_block hk2 (j := 3) (v := .bool sc) rfl
  have HB2 := Lib.hid (HB.out.trans (hB2.mono HB.out.size))
  clear hB2 hk2
  cases z with
  | false =>
    go_wp2_with fail
    go_ret
    exact ⟨ret_bool (by rw [← HR.out]; cases pa <;> simp), HB2.out⟩
  | true =>
    by_cases h2 : sz < 0
    · have h3 : ¬ sz = 0 := by omega
      have h4 : ¬ 0 ≤ sz := by omega
      go_wp2_with fail
      go_ret
      exact ⟨ret_bool (by rw [← HR.out]; cases pa <;> simp [h3, h4]), HB2.out⟩
    · cases pa with
      | true =>
        by_cases h1 : kd = 1
        · subst h1
          go_wp2_with fail
          go_ret
          exact ⟨ret_bool (by rw [← HR.out]; exact Bool.eq_iff_iff.2 (by simp)), HB2.out⟩
        · have f1 : (kd == 1) = false := by simp; exact h1
          go_wp2_with fail
          go_ret
          exact ⟨ret_bool (by rw [← HR.out]; simp [h1]), HB2.out⟩
      | false =>
        by_cases h1 : kd = 1
        · subst h1
          by_cases h3 : sz = 0
          · subst h3
            go_wp2_with fail
            go_ret
            exact ⟨ret_bool (by rw [← HR.out]; simp), HB2.out⟩
          · have f3 : (sz == 0) = false := by simp; exact h3
            go_wp2_with fail
            go_ret
            exact ⟨ret_bool (by rw [← HR.out]; simp [h3]), HB2.out⟩
        · have f1 : (kd == 1) = false := by simp; exact h1
          by_cases h4 : kd = 2
          · subst h4
            go_wp2_with fail
            go_ret
            exact ⟨ret_bool (by rw [← HR.out]; simp; omega), HB2.out⟩
          · have f4 : (kd == 2) = false := by simp; exact h4
            go_wp2_with fail
            go_ret
            exact ⟨ret_bool (by rw [← HR.out]; exact Bool.eq_iff_iff.2 (by simp [h1, h4]; omega)), HB2.out⟩
end Go.Proofs.YtlhbledakddbbaaGreatDoor
/- The document's rest: what a statement has besides, for each kind. -/
namespace Go.Proofs.YtlhbledakddbbaaGreatDoor
open Go.RowKit

/-- what the document's rest answers -/
def restR (nb lb eb ab wb bb ob : Bool) (nm : List UInt8) (ns : List (List UInt8)) (e a : Ex) (g : Exs) (lo hi : Nat) (bd el : Sts) : Bool :=
  (nb == !nm.isEmpty) && ((lb || (decide (ns.length = 0) && decide (g.len = 0))) && ((eb || e.none) && ((ab || a.none) && ((wb || (decide (lo = 0) && decide (hi = 0))) && ((bb || decide (bd.len = 0)) && (ob || decide (el.len = 0)))))))

set_option maxRecDepth 100000 in
set_option maxHeartbeats 6400000 in
theorem rrest_1 (kd : Int) (nm : List UInt8) (ns : List (List UInt8)) (e a : Ex) (g : Exs) (lo hi : Nat) (bd el : Sts) (s : StP) (N : Nat) (w : World) (_hN : N ≤ w.heap.size) (hx : (St.mk kd nm ns e a g lo hi bd el).Ok w N s) :
    Calls Tryz.prog 153 #[(St.mk kd nm ns e a g lo hi bd el).val s, .bool true, .bool false, .bool true, .bool false, .bool false, .bool false, .bool false] w fun z w' => z = .returned (.bool (restR true false true false false false false nm ns e a g lo hi bd el)) ∧ Below w.heap.size w w' := by
  obtain ⟨A1, hA1⟩ : ∃ A1, (St.mk kd nm ns e a g lo hi bd el).cells s = A1 := ⟨_, rfl⟩
  obtain ⟨W1, hW1⟩ : ∃ W1, w.alloc (Obj.cells A1 54) = W1 := ⟨_, rfl⟩
  have hB1 : Below w.heap.size w W1 := by rw [← hW1]; exact (Below.refl _ w).alloc (Nat.le_refl _) _
  have hz1 : w.heap.size < W1.heap.size := by rw [← hW1]; simp
  have hX : ∀ j z, ((St.mk kd nm ns e a g lo hi bd el).cells s)[j]? = some z → W1.cell? ⟨w.heap.size, j, none⟩ = some z := fun j z hz => by rw [← hW1]; exact cell_block (heap_alloc_new w _) (by rw [← hA1]; exact hz)
  have HB := Lib.hid hB1
  have HB3 := Lib.hid hB1
  have hm2 : ns.length ≤ 140737488355328 := hx.1.2.1
  have hm11 : g.len ≤ 140737488355328 := hx.2.2.2.1.1
  have hm14 : bd.len ≤ 140737488355328 := hx.2.2.2.2.1.1
  have hm15 : el.len ≤ 140737488355328 := hx.2.2.2.2.2.1.1
  have HX := Lib.hid (fun (w' : World) (h : Below W1.heap.size W1 w') => show w'.cell? ⟨w.heap.size, 0, none⟩ = some (.int .i64 kd) ∧ w'.cell? ⟨w.heap.size, 1, none⟩ = some (.string (str nm)) ∧ w'.cell? ⟨w.heap.size, 2, none⟩ = some (.slice s.pn ns.length s.cn) ∧ w'.cell? ⟨w.heap.size, 3, none⟩ = some (.int .i64 e.op) ∧ w'.cell? ⟨w.heap.size, 4, none⟩ = some (.int .u64 (e.word : Int)) ∧ w'.cell? ⟨w.heap.size, 5, none⟩ = some (.string (str e.name)) ∧ w'.cell? ⟨w.heap.size, 6, none⟩ = some (.slice s.pe e.args.len s.ce) ∧ w'.cell? ⟨w.heap.size, 7, none⟩ = some (.int .i64 a.op) ∧ w'.cell? ⟨w.heap.size, 8, none⟩ = some (.int .u64 (a.word : Int)) ∧ w'.cell? ⟨w.heap.size, 9, none⟩ = some (.string (str a.name)) ∧ w'.cell? ⟨w.heap.size, 10, none⟩ = some (.slice s.pa a.args.len s.ca) ∧ w'.cell? ⟨w.heap.size, 11, none⟩ = some (.slice s.pg g.len s.cg) ∧ w'.cell? ⟨w.heap.size, 12, none⟩ = some (.int .u64 (lo : Int)) ∧ w'.cell? ⟨w.heap.size, 13, none⟩ = some (.int .u64 (hi : Int)) ∧ w'.cell? ⟨w.heap.size, 14, none⟩ = some (.slice s.pb bd.len s.cb) ∧ w'.cell? ⟨w.heap.size, 15, none⟩ = some (.slice s.pl el.len s.cl) from ⟨(h.cell hz1).trans (hX 0 _ rfl), (h.cell hz1).trans (hX 1 _ rfl), (h.cell hz1).trans (hX 2 _ rfl), (h.cell hz1).trans (hX 3 _ rfl), (h.cell hz1).trans (hX 4 _ rfl), (h.cell hz1).trans (hX 5 _ rfl), (h.cell hz1).trans (hX 6 _ rfl), (h.cell hz1).trans (hX 7 _ rfl), (h.cell hz1).trans (hX 8 _ rfl), (h.cell hz1).trans (hX 9 _ rfl), (h.cell hz1).trans (hX 10 _ rfl), (h.cell hz1).trans (hX 11 _ rfl), (h.cell hz1).trans (hX 12 _ rfl), (h.cell hz1).trans (hX 13 _ rfl), (h.cell hz1).trans (hX 14 _ rfl), (h.cell hz1).trans (hX 15 _ rfl)⟩)
  have HZe := Lib.hid (fun (w' : World) (_ : Below W1.heap.size W1 w') => rNone_any e s.pe s.ce w')
  have HZa := Lib.hid (fun (w' : World) (_ : Below W1.heap.size W1 w') => rNone_any a s.pa s.ca w')
  unfold Ex.val at HZe HZa
  unfold St.val
  rw [hA1]
  have es : (str nm).toList.isEmpty = nm.isEmpty := by rw [Lib.toList_data, str_data]
  obtain ⟨c0, c1, c2, c3, c4, c5, c6, c7, c8, c9, c10, c11, c12, c13, c14, c15⟩ := HX.out W1 (Below.refl _ _)
  unfold restR
  clear hX hx hB1 _hN hA1
  generalize ns.length = n2 at *
  generalize g.len = n11 at *
  generalize bd.len = n14 at *
  generalize el.len = n15 at *
  generalize e.none = ze at *
  generalize a.none = za at *
  cases hn : nm.isEmpty with
  | true =>
    rw [hn] at es
    have e0 : (str nm).toList = [] := by simpa using es
    go_enter Tryz.func153, Tryz.ntmps153
    go_wp2_with fail
    go_ret
    exact ⟨ret_bool (by simp [*]), HB3.out⟩
  | false =>
    rw [hn] at es
    have e0 : ¬ (str nm).toList = [] := by intro h; rw [h] at es; cases es
    by_cases h1 : n2 = 0 ∧ n11 = 0
    · obtain ⟨rfl, rfl⟩ := h1
      cases za with
      | true =>
        by_cases hlo : lo = 0
        · subst hlo
          by_cases hhi : hi = 0
          · subst hhi
            by_cases hn14 : n14 = 0
            · subst hn14
              by_cases hn15 : n15 = 0
              · subst hn15
                go_enter Tryz.func153, Tryz.ntmps153
                go_wp2_with fail
                refine (HZa.out W1 (Below.refl _ _)).mono ?_
                rintro z w3 ⟨rfl, hB3⟩
                have HB4 := Lib.hid hB3
                have HB3 := Lib.hid (HB.out.trans (HB4.out.mono HB.out.size))
                obtain ⟨c0, c1, c2, c3, c4, c5, c6, c7, c8, c9, c10, c11, c12, c13, c14, c15⟩ := HX.out _ HB4.out
                clear hB3
                go_wp2_with fail
                go_ret
                exact ⟨ret_bool (by simp [*]), HB3.out⟩
              · have fn15 : ((n15 : Int) == 0) = false := by simp; omega
                go_enter Tryz.func153, Tryz.ntmps153
                go_wp2_with fail
                refine (HZa.out W1 (Below.refl _ _)).mono ?_
                rintro z w3 ⟨rfl, hB3⟩
                have HB4 := Lib.hid hB3
                have HB3 := Lib.hid (HB.out.trans (HB4.out.mono HB.out.size))
                obtain ⟨c0, c1, c2, c3, c4, c5, c6, c7, c8, c9, c10, c11, c12, c13, c14, c15⟩ := HX.out _ HB4.out
                clear hB3
                go_wp2_with fail
                go_ret
                exact ⟨ret_bool (by simp [*]), HB3.out⟩
            · have fn14 : ((n14 : Int) == 0) = false := by simp; omega
              go_enter Tryz.func153, Tryz.ntmps153
              go_wp2_with fail
              refine (HZa.out W1 (Below.refl _ _)).mono ?_
              rintro z w3 ⟨rfl, hB3⟩
              have HB4 := Lib.hid hB3
              have HB3 := Lib.hid (HB.out.trans (HB4.out.mono HB.out.size))
              obtain ⟨c0, c1, c2, c3, c4, c5, c6, c7, c8, c9, c10, c11, c12, c13, c14, c15⟩ := HX.out _ HB4.out
              clear hB3
              go_wp2_with fail
              go_ret
              exact ⟨ret_bool (by simp [*]), HB3.out⟩
          · have fh : ((hi : Int) != 0) = true := by simp; omega
            go_enter Tryz.func153, Tryz.ntmps153
            go_wp2_with fail
            refine (HZa.out W1 (Below.refl _ _)).mono ?_
            rintro z w3 ⟨rfl, hB3⟩
            have HB4 := Lib.hid hB3
            have HB3 := Lib.hid (HB.out.trans (HB4.out.mono HB.out.size))
            obtain ⟨c0, c1, c2, c3, c4, c5, c6, c7, c8, c9, c10, c11, c12, c13, c14, c15⟩ := HX.out _ HB4.out
            clear hB3
            go_wp2_with fail
            go_ret
            exact ⟨ret_bool (by simp [*]), HB3.out⟩
        · have fl : ((lo : Int) != 0) = true := by simp; omega
          go_enter Tryz.func153, Tryz.ntmps153
          go_wp2_with fail
          refine (HZa.out W1 (Below.refl _ _)).mono ?_
          rintro z w3 ⟨rfl, hB3⟩
          have HB4 := Lib.hid hB3
          have HB3 := Lib.hid (HB.out.trans (HB4.out.mono HB.out.size))
          obtain ⟨c0, c1, c2, c3, c4, c5, c6, c7, c8, c9, c10, c11, c12, c13, c14, c15⟩ := HX.out _ HB4.out
          clear hB3
          go_wp2_with fail
          go_ret
          exact ⟨ret_bool (by simp [*]), HB3.out⟩
      | false =>
        go_enter Tryz.func153, Tryz.ntmps153
        go_wp2_with fail
        refine (HZa.out W1 (Below.refl _ _)).mono ?_
        rintro z w3 ⟨rfl, hB3⟩
        have HB4 := Lib.hid hB3
        have HB3 := Lib.hid (HB.out.trans (HB4.out.mono HB.out.size))
        obtain ⟨c0, c1, c2, c3, c4, c5, c6, c7, c8, c9, c10, c11, c12, c13, c14, c15⟩ := HX.out _ HB4.out
        clear hB3
        go_wp2_with fail
        go_ret
        exact ⟨ret_bool (by simp [*]), HB3.out⟩
    · have q1 : (0 : Int) < (n2 : Int) + (n11 : Int) := by omega
      have q2 : (decide (n2 = 0) && decide (n11 = 0)) = false := by simp; omega
      go_enter Tryz.func153, Tryz.ntmps153
      go_wp2_with fail
      go_ret
      exact ⟨ret_bool (by simp [*]), HB3.out⟩
set_option maxRecDepth 100000 in
set_option maxHeartbeats 6400000 in
theorem rrest_2 (kd : Int) (nm : List UInt8) (ns : List (List UInt8)) (e a : Ex) (g : Exs) (lo hi : Nat) (bd el : Sts) (s : StP) (N : Nat) (w : World) (_hN : N ≤ w.heap.size) (hx : (St.mk kd nm ns e a g lo hi bd el).Ok w N s) :
    Calls Tryz.prog 153 #[(St.mk kd nm ns e a g lo hi bd el).val s, .bool true, .bool false, .bool true, .bool true, .bool false, .bool false, .bool false] w fun z w' => z = .returned (.bool (restR true false true true false false false nm ns e a g lo hi bd el)) ∧ Below w.heap.size w w' := by
  obtain ⟨A1, hA1⟩ : ∃ A1, (St.mk kd nm ns e a g lo hi bd el).cells s = A1 := ⟨_, rfl⟩
  obtain ⟨W1, hW1⟩ : ∃ W1, w.alloc (Obj.cells A1 54) = W1 := ⟨_, rfl⟩
  have hB1 : Below w.heap.size w W1 := by rw [← hW1]; exact (Below.refl _ w).alloc (Nat.le_refl _) _
  have hz1 : w.heap.size < W1.heap.size := by rw [← hW1]; simp
  have hX : ∀ j z, ((St.mk kd nm ns e a g lo hi bd el).cells s)[j]? = some z → W1.cell? ⟨w.heap.size, j, none⟩ = some z := fun j z hz => by rw [← hW1]; exact cell_block (heap_alloc_new w _) (by rw [← hA1]; exact hz)
  have HB := Lib.hid hB1
  have HB3 := Lib.hid hB1
  have hm2 : ns.length ≤ 140737488355328 := hx.1.2.1
  have hm11 : g.len ≤ 140737488355328 := hx.2.2.2.1.1
  have hm14 : bd.len ≤ 140737488355328 := hx.2.2.2.2.1.1
  have hm15 : el.len ≤ 140737488355328 := hx.2.2.2.2.2.1.1
  have HX := Lib.hid (fun (w' : World) (h : Below W1.heap.size W1 w') => show w'.cell? ⟨w.heap.size, 0, none⟩ = some (.int .i64 kd) ∧ w'.cell? ⟨w.heap.size, 1, none⟩ = some (.string (str nm)) ∧ w'.cell? ⟨w.heap.size, 2, none⟩ = some (.slice s.pn ns.length s.cn) ∧ w'.cell? ⟨w.heap.size, 3, none⟩ = some (.int .i64 e.op) ∧ w'.cell? ⟨w.heap.size, 4, none⟩ = some (.int .u64 (e.word : Int)) ∧ w'.cell? ⟨w.heap.size, 5, none⟩ = some (.string (str e.name)) ∧ w'.cell? ⟨w.heap.size, 6, none⟩ = some (.slice s.pe e.args.len s.ce) ∧ w'.cell? ⟨w.heap.size, 7, none⟩ = some (.int .i64 a.op) ∧ w'.cell? ⟨w.heap.size, 8, none⟩ = some (.int .u64 (a.word : Int)) ∧ w'.cell? ⟨w.heap.size, 9, none⟩ = some (.string (str a.name)) ∧ w'.cell? ⟨w.heap.size, 10, none⟩ = some (.slice s.pa a.args.len s.ca) ∧ w'.cell? ⟨w.heap.size, 11, none⟩ = some (.slice s.pg g.len s.cg) ∧ w'.cell? ⟨w.heap.size, 12, none⟩ = some (.int .u64 (lo : Int)) ∧ w'.cell? ⟨w.heap.size, 13, none⟩ = some (.int .u64 (hi : Int)) ∧ w'.cell? ⟨w.heap.size, 14, none⟩ = some (.slice s.pb bd.len s.cb) ∧ w'.cell? ⟨w.heap.size, 15, none⟩ = some (.slice s.pl el.len s.cl) from ⟨(h.cell hz1).trans (hX 0 _ rfl), (h.cell hz1).trans (hX 1 _ rfl), (h.cell hz1).trans (hX 2 _ rfl), (h.cell hz1).trans (hX 3 _ rfl), (h.cell hz1).trans (hX 4 _ rfl), (h.cell hz1).trans (hX 5 _ rfl), (h.cell hz1).trans (hX 6 _ rfl), (h.cell hz1).trans (hX 7 _ rfl), (h.cell hz1).trans (hX 8 _ rfl), (h.cell hz1).trans (hX 9 _ rfl), (h.cell hz1).trans (hX 10 _ rfl), (h.cell hz1).trans (hX 11 _ rfl), (h.cell hz1).trans (hX 12 _ rfl), (h.cell hz1).trans (hX 13 _ rfl), (h.cell hz1).trans (hX 14 _ rfl), (h.cell hz1).trans (hX 15 _ rfl)⟩)
  have HZe := Lib.hid (fun (w' : World) (_ : Below W1.heap.size W1 w') => rNone_any e s.pe s.ce w')
  have HZa := Lib.hid (fun (w' : World) (_ : Below W1.heap.size W1 w') => rNone_any a s.pa s.ca w')
  unfold Ex.val at HZe HZa
  unfold St.val
  rw [hA1]
  have es : (str nm).toList.isEmpty = nm.isEmpty := by rw [Lib.toList_data, str_data]
  obtain ⟨c0, c1, c2, c3, c4, c5, c6, c7, c8, c9, c10, c11, c12, c13, c14, c15⟩ := HX.out W1 (Below.refl _ _)
  unfold restR
  clear hX hx hB1 _hN hA1
  generalize ns.length = n2 at *
  generalize g.len = n11 at *
  generalize bd.len = n14 at *
  generalize el.len = n15 at *
  generalize e.none = ze at *
  generalize a.none = za at *
  cases hn : nm.isEmpty with
  | true =>
    rw [hn] at es
    have e0 : (str nm).toList = [] := by simpa using es
    go_enter Tryz.func153, Tryz.ntmps153
    go_wp2_with fail
    go_ret
    exact ⟨ret_bool (by simp [*]), HB3.out⟩
  | false =>
    rw [hn] at es
    have e0 : ¬ (str nm).toList = [] := by intro h; rw [h] at es; cases es
    by_cases h1 : n2 = 0 ∧ n11 = 0
    · obtain ⟨rfl, rfl⟩ := h1
      by_cases hlo : lo = 0
      · subst hlo
        by_cases hhi : hi = 0
        · subst hhi
          by_cases hn14 : n14 = 0
          · subst hn14
            by_cases hn15 : n15 = 0
            · subst hn15
              go_enter Tryz.func153, Tryz.ntmps153
              go_wp2_with fail
              go_ret
              exact ⟨ret_bool (by simp [*]), HB3.out⟩
            · have fn15 : ((n15 : Int) == 0) = false := by simp; omega
              go_enter Tryz.func153, Tryz.ntmps153
              go_wp2_with fail
              go_ret
              exact ⟨ret_bool (by simp [*]), HB3.out⟩
          · have fn14 : ((n14 : Int) == 0) = false := by simp; omega
            go_enter Tryz.func153, Tryz.ntmps153
            go_wp2_with fail
            go_ret
            exact ⟨ret_bool (by simp [*]), HB3.out⟩
        · have fh : ((hi : Int) != 0) = true := by simp; omega
          go_enter Tryz.func153, Tryz.ntmps153
          go_wp2_with fail
          go_ret
          exact ⟨ret_bool (by simp [*]), HB3.out⟩
      · have fl : ((lo : Int) != 0) = true := by simp; omega
        go_enter Tryz.func153, Tryz.ntmps153
        go_wp2_with fail
        go_ret
        exact ⟨ret_bool (by simp [*]), HB3.out⟩
    · have q1 : (0 : Int) < (n2 : Int) + (n11 : Int) := by omega
      have q2 : (decide (n2 = 0) && decide (n11 = 0)) = false := by simp; omega
      go_enter Tryz.func153, Tryz.ntmps153
      go_wp2_with fail
      go_ret
      exact ⟨ret_bool (by simp [*]), HB3.out⟩
set_option maxRecDepth 100000 in
set_option maxHeartbeats 6400000 in
theorem rrest_3 (kd : Int) (nm : List UInt8) (ns : List (List UInt8)) (e a : Ex) (g : Exs) (lo hi : Nat) (bd el : Sts) (s : StP) (N : Nat) (w : World) (_hN : N ≤ w.heap.size) (hx : (St.mk kd nm ns e a g lo hi bd el).Ok w N s) :
    Calls Tryz.prog 153 #[(St.mk kd nm ns e a g lo hi bd el).val s, .bool false, .bool false, .bool true, .bool false, .bool false, .bool true, .bool true] w fun z w' => z = .returned (.bool (restR false false true false false true true nm ns e a g lo hi bd el)) ∧ Below w.heap.size w w' := by
  obtain ⟨A1, hA1⟩ : ∃ A1, (St.mk kd nm ns e a g lo hi bd el).cells s = A1 := ⟨_, rfl⟩
  obtain ⟨W1, hW1⟩ : ∃ W1, w.alloc (Obj.cells A1 54) = W1 := ⟨_, rfl⟩
  have hB1 : Below w.heap.size w W1 := by rw [← hW1]; exact (Below.refl _ w).alloc (Nat.le_refl _) _
  have hz1 : w.heap.size < W1.heap.size := by rw [← hW1]; simp
  have hX : ∀ j z, ((St.mk kd nm ns e a g lo hi bd el).cells s)[j]? = some z → W1.cell? ⟨w.heap.size, j, none⟩ = some z := fun j z hz => by rw [← hW1]; exact cell_block (heap_alloc_new w _) (by rw [← hA1]; exact hz)
  have HB := Lib.hid hB1
  have HB3 := Lib.hid hB1
  have hm2 : ns.length ≤ 140737488355328 := hx.1.2.1
  have hm11 : g.len ≤ 140737488355328 := hx.2.2.2.1.1
  have hm14 : bd.len ≤ 140737488355328 := hx.2.2.2.2.1.1
  have hm15 : el.len ≤ 140737488355328 := hx.2.2.2.2.2.1.1
  have HX := Lib.hid (fun (w' : World) (h : Below W1.heap.size W1 w') => show w'.cell? ⟨w.heap.size, 0, none⟩ = some (.int .i64 kd) ∧ w'.cell? ⟨w.heap.size, 1, none⟩ = some (.string (str nm)) ∧ w'.cell? ⟨w.heap.size, 2, none⟩ = some (.slice s.pn ns.length s.cn) ∧ w'.cell? ⟨w.heap.size, 3, none⟩ = some (.int .i64 e.op) ∧ w'.cell? ⟨w.heap.size, 4, none⟩ = some (.int .u64 (e.word : Int)) ∧ w'.cell? ⟨w.heap.size, 5, none⟩ = some (.string (str e.name)) ∧ w'.cell? ⟨w.heap.size, 6, none⟩ = some (.slice s.pe e.args.len s.ce) ∧ w'.cell? ⟨w.heap.size, 7, none⟩ = some (.int .i64 a.op) ∧ w'.cell? ⟨w.heap.size, 8, none⟩ = some (.int .u64 (a.word : Int)) ∧ w'.cell? ⟨w.heap.size, 9, none⟩ = some (.string (str a.name)) ∧ w'.cell? ⟨w.heap.size, 10, none⟩ = some (.slice s.pa a.args.len s.ca) ∧ w'.cell? ⟨w.heap.size, 11, none⟩ = some (.slice s.pg g.len s.cg) ∧ w'.cell? ⟨w.heap.size, 12, none⟩ = some (.int .u64 (lo : Int)) ∧ w'.cell? ⟨w.heap.size, 13, none⟩ = some (.int .u64 (hi : Int)) ∧ w'.cell? ⟨w.heap.size, 14, none⟩ = some (.slice s.pb bd.len s.cb) ∧ w'.cell? ⟨w.heap.size, 15, none⟩ = some (.slice s.pl el.len s.cl) from ⟨(h.cell hz1).trans (hX 0 _ rfl), (h.cell hz1).trans (hX 1 _ rfl), (h.cell hz1).trans (hX 2 _ rfl), (h.cell hz1).trans (hX 3 _ rfl), (h.cell hz1).trans (hX 4 _ rfl), (h.cell hz1).trans (hX 5 _ rfl), (h.cell hz1).trans (hX 6 _ rfl), (h.cell hz1).trans (hX 7 _ rfl), (h.cell hz1).trans (hX 8 _ rfl), (h.cell hz1).trans (hX 9 _ rfl), (h.cell hz1).trans (hX 10 _ rfl), (h.cell hz1).trans (hX 11 _ rfl), (h.cell hz1).trans (hX 12 _ rfl), (h.cell hz1).trans (hX 13 _ rfl), (h.cell hz1).trans (hX 14 _ rfl), (h.cell hz1).trans (hX 15 _ rfl)⟩)
  have HZe := Lib.hid (fun (w' : World) (_ : Below W1.heap.size W1 w') => rNone_any e s.pe s.ce w')
  have HZa := Lib.hid (fun (w' : World) (_ : Below W1.heap.size W1 w') => rNone_any a s.pa s.ca w')
  unfold Ex.val at HZe HZa
  unfold St.val
  rw [hA1]
  have es : (str nm).toList.isEmpty = nm.isEmpty := by rw [Lib.toList_data, str_data]
  obtain ⟨c0, c1, c2, c3, c4, c5, c6, c7, c8, c9, c10, c11, c12, c13, c14, c15⟩ := HX.out W1 (Below.refl _ _)
  unfold restR
  clear hX hx hB1 _hN hA1
  generalize ns.length = n2 at *
  generalize g.len = n11 at *
  generalize bd.len = n14 at *
  generalize el.len = n15 at *
  generalize e.none = ze at *
  generalize a.none = za at *
  cases hn : nm.isEmpty with
  | true =>
    rw [hn] at es
    have e0 : (str nm).toList = [] := by simpa using es
    by_cases h1 : n2 = 0 ∧ n11 = 0
    · obtain ⟨rfl, rfl⟩ := h1
      cases za with
      | true =>
        by_cases hlo : lo = 0
        · subst hlo
          by_cases hhi : hi = 0
          · subst hhi
            go_enter Tryz.func153, Tryz.ntmps153
            go_wp2_with fail
            refine (HZa.out W1 (Below.refl _ _)).mono ?_
            rintro z w3 ⟨rfl, hB3⟩
            have HB4 := Lib.hid hB3
            have HB3 := Lib.hid (HB.out.trans (HB4.out.mono HB.out.size))
            obtain ⟨c0, c1, c2, c3, c4, c5, c6, c7, c8, c9, c10, c11, c12, c13, c14, c15⟩ := HX.out _ HB4.out
            clear hB3
            go_wp2_with fail
            go_ret
            exact ⟨ret_bool (by simp [*]), HB3.out⟩
          · have fh : ((hi : Int) != 0) = true := by simp; omega
            go_enter Tryz.func153, Tryz.ntmps153
            go_wp2_with fail
            refine (HZa.out W1 (Below.refl _ _)).mono ?_
            rintro z w3 ⟨rfl, hB3⟩
            have HB4 := Lib.hid hB3
            have HB3 := Lib.hid (HB.out.trans (HB4.out.mono HB.out.size))
            obtain ⟨c0, c1, c2, c3, c4, c5, c6, c7, c8, c9, c10, c11, c12, c13, c14, c15⟩ := HX.out _ HB4.out
            clear hB3
            go_wp2_with fail
            go_ret
            exact ⟨ret_bool (by simp [*]), HB3.out⟩
        · have fl : ((lo : Int) != 0) = true := by simp; omega
          go_enter Tryz.func153, Tryz.ntmps153
          go_wp2_with fail
          refine (HZa.out W1 (Below.refl _ _)).mono ?_
          rintro z w3 ⟨rfl, hB3⟩
          have HB4 := Lib.hid hB3
          have HB3 := Lib.hid (HB.out.trans (HB4.out.mono HB.out.size))
          obtain ⟨c0, c1, c2, c3, c4, c5, c6, c7, c8, c9, c10, c11, c12, c13, c14, c15⟩ := HX.out _ HB4.out
          clear hB3
          go_wp2_with fail
          go_ret
          exact ⟨ret_bool (by simp [*]), HB3.out⟩
      | false =>
        go_enter Tryz.func153, Tryz.ntmps153
        go_wp2_with fail
        refine (HZa.out W1 (Below.refl _ _)).mono ?_
        rintro z w3 ⟨rfl, hB3⟩
        have HB4 := Lib.hid hB3
        have HB3 := Lib.hid (HB.out.trans (HB4.out.mono HB.out.size))
        obtain ⟨c0, c1, c2, c3, c4, c5, c6, c7, c8, c9, c10, c11, c12, c13, c14, c15⟩ := HX.out _ HB4.out
        clear hB3
        go_wp2_with fail
        go_ret
        exact ⟨ret_bool (by simp [*]), HB3.out⟩
    · have q1 : (0 : Int) < (n2 : Int) + (n11 : Int) := by omega
      have q2 : (decide (n2 = 0) && decide (n11 = 0)) = false := by simp; omega
      go_enter Tryz.func153, Tryz.ntmps153
      go_wp2_with fail
      go_ret
      exact ⟨ret_bool (by simp [*]), HB3.out⟩
  | false =>
    rw [hn] at es
    have e0 : ¬ (str nm).toList = [] := by intro h; rw [h] at es; cases es
    go_enter Tryz.func153, Tryz.ntmps153
    go_wp2_with fail
    go_ret
    exact ⟨ret_bool (by simp [*]), HB3.out⟩
set_option maxRecDepth 100000 in
set_option maxHeartbeats 6400000 in
theorem rrest_4 (kd : Int) (nm : List UInt8) (ns : List (List UInt8)) (e a : Ex) (g : Exs) (lo hi : Nat) (bd el : Sts) (s : StP) (N : Nat) (w : World) (_hN : N ≤ w.heap.size) (hx : (St.mk kd nm ns e a g lo hi bd el).Ok w N s) :
    Calls Tryz.prog 153 #[(St.mk kd nm ns e a g lo hi bd el).val s, .bool false, .bool false, .bool true, .bool false, .bool false, .bool true, .bool false] w fun z w' => z = .returned (.bool (restR false false true false false true false nm ns e a g lo hi bd el)) ∧ Below w.heap.size w w' := by
  obtain ⟨A1, hA1⟩ : ∃ A1, (St.mk kd nm ns e a g lo hi bd el).cells s = A1 := ⟨_, rfl⟩
  obtain ⟨W1, hW1⟩ : ∃ W1, w.alloc (Obj.cells A1 54) = W1 := ⟨_, rfl⟩
  have hB1 : Below w.heap.size w W1 := by rw [← hW1]; exact (Below.refl _ w).alloc (Nat.le_refl _) _
  have hz1 : w.heap.size < W1.heap.size := by rw [← hW1]; simp
  have hX : ∀ j z, ((St.mk kd nm ns e a g lo hi bd el).cells s)[j]? = some z → W1.cell? ⟨w.heap.size, j, none⟩ = some z := fun j z hz => by rw [← hW1]; exact cell_block (heap_alloc_new w _) (by rw [← hA1]; exact hz)
  have HB := Lib.hid hB1
  have HB3 := Lib.hid hB1
  have hm2 : ns.length ≤ 140737488355328 := hx.1.2.1
  have hm11 : g.len ≤ 140737488355328 := hx.2.2.2.1.1
  have hm14 : bd.len ≤ 140737488355328 := hx.2.2.2.2.1.1
  have hm15 : el.len ≤ 140737488355328 := hx.2.2.2.2.2.1.1
  have HX := Lib.hid (fun (w' : World) (h : Below W1.heap.size W1 w') => show w'.cell? ⟨w.heap.size, 0, none⟩ = some (.int .i64 kd) ∧ w'.cell? ⟨w.heap.size, 1, none⟩ = some (.string (str nm)) ∧ w'.cell? ⟨w.heap.size, 2, none⟩ = some (.slice s.pn ns.length s.cn) ∧ w'.cell? ⟨w.heap.size, 3, none⟩ = some (.int .i64 e.op) ∧ w'.cell? ⟨w.heap.size, 4, none⟩ = some (.int .u64 (e.word : Int)) ∧ w'.cell? ⟨w.heap.size, 5, none⟩ = some (.string (str e.name)) ∧ w'.cell? ⟨w.heap.size, 6, none⟩ = some (.slice s.pe e.args.len s.ce) ∧ w'.cell? ⟨w.heap.size, 7, none⟩ = some (.int .i64 a.op) ∧ w'.cell? ⟨w.heap.size, 8, none⟩ = some (.int .u64 (a.word : Int)) ∧ w'.cell? ⟨w.heap.size, 9, none⟩ = some (.string (str a.name)) ∧ w'.cell? ⟨w.heap.size, 10, none⟩ = some (.slice s.pa a.args.len s.ca) ∧ w'.cell? ⟨w.heap.size, 11, none⟩ = some (.slice s.pg g.len s.cg) ∧ w'.cell? ⟨w.heap.size, 12, none⟩ = some (.int .u64 (lo : Int)) ∧ w'.cell? ⟨w.heap.size, 13, none⟩ = some (.int .u64 (hi : Int)) ∧ w'.cell? ⟨w.heap.size, 14, none⟩ = some (.slice s.pb bd.len s.cb) ∧ w'.cell? ⟨w.heap.size, 15, none⟩ = some (.slice s.pl el.len s.cl) from ⟨(h.cell hz1).trans (hX 0 _ rfl), (h.cell hz1).trans (hX 1 _ rfl), (h.cell hz1).trans (hX 2 _ rfl), (h.cell hz1).trans (hX 3 _ rfl), (h.cell hz1).trans (hX 4 _ rfl), (h.cell hz1).trans (hX 5 _ rfl), (h.cell hz1).trans (hX 6 _ rfl), (h.cell hz1).trans (hX 7 _ rfl), (h.cell hz1).trans (hX 8 _ rfl), (h.cell hz1).trans (hX 9 _ rfl), (h.cell hz1).trans (hX 10 _ rfl), (h.cell hz1).trans (hX 11 _ rfl), (h.cell hz1).trans (hX 12 _ rfl), (h.cell hz1).trans (hX 13 _ rfl), (h.cell hz1).trans (hX 14 _ rfl), (h.cell hz1).trans (hX 15 _ rfl)⟩)
  have HZe := Lib.hid (fun (w' : World) (_ : Below W1.heap.size W1 w') => rNone_any e s.pe s.ce w')
  have HZa := Lib.hid (fun (w' : World) (_ : Below W1.heap.size W1 w') => rNone_any a s.pa s.ca w')
  unfold Ex.val at HZe HZa
  unfold St.val
  rw [hA1]
  have es : (str nm).toList.isEmpty = nm.isEmpty := by rw [Lib.toList_data, str_data]
  obtain ⟨c0, c1, c2, c3, c4, c5, c6, c7, c8, c9, c10, c11, c12, c13, c14, c15⟩ := HX.out W1 (Below.refl _ _)
  unfold restR
  clear hX hx hB1 _hN hA1
  generalize ns.length = n2 at *
  generalize g.len = n11 at *
  generalize bd.len = n14 at *
  generalize el.len = n15 at *
  generalize e.none = ze at *
  generalize a.none = za at *
  cases hn : nm.isEmpty with
  | true =>
    rw [hn] at es
    have e0 : (str nm).toList = [] := by simpa using es
    by_cases h1 : n2 = 0 ∧ n11 = 0
    · obtain ⟨rfl, rfl⟩ := h1
      cases za with
      | true =>
        by_cases hlo : lo = 0
        · subst hlo
          by_cases hhi : hi = 0
          · subst hhi
            by_cases hn15 : n15 = 0
            · subst hn15
              go_enter Tryz.func153, Tryz.ntmps153
              go_wp2_with fail
              refine (HZa.out W1 (Below.refl _ _)).mono ?_
              rintro z w3 ⟨rfl, hB3⟩
              have HB4 := Lib.hid hB3
              have HB3 := Lib.hid (HB.out.trans (HB4.out.mono HB.out.size))
              obtain ⟨c0, c1, c2, c3, c4, c5, c6, c7, c8, c9, c10, c11, c12, c13, c14, c15⟩ := HX.out _ HB4.out
              clear hB3
              go_wp2_with fail
              go_ret
              exact ⟨ret_bool (by simp [*]), HB3.out⟩
            · have fn15 : ((n15 : Int) == 0) = false := by simp; omega
              go_enter Tryz.func153, Tryz.ntmps153
              go_wp2_with fail
              refine (HZa.out W1 (Below.refl _ _)).mono ?_
              rintro z w3 ⟨rfl, hB3⟩
              have HB4 := Lib.hid hB3
              have HB3 := Lib.hid (HB.out.trans (HB4.out.mono HB.out.size))
              obtain ⟨c0, c1, c2, c3, c4, c5, c6, c7, c8, c9, c10, c11, c12, c13, c14, c15⟩ := HX.out _ HB4.out
              clear hB3
              go_wp2_with fail
              go_ret
              exact ⟨ret_bool (by simp [*]), HB3.out⟩
          · have fh : ((hi : Int) != 0) = true := by simp; omega
            go_enter Tryz.func153, Tryz.ntmps153
            go_wp2_with fail
            refine (HZa.out W1 (Below.refl _ _)).mono ?_
            rintro z w3 ⟨rfl, hB3⟩
            have HB4 := Lib.hid hB3
            have HB3 := Lib.hid (HB.out.trans (HB4.out.mono HB.out.size))
            obtain ⟨c0, c1, c2, c3, c4, c5, c6, c7, c8, c9, c10, c11, c12, c13, c14, c15⟩ := HX.out _ HB4.out
            clear hB3
            go_wp2_with fail
            go_ret
            exact ⟨ret_bool (by simp [*]), HB3.out⟩
        · have fl : ((lo : Int) != 0) = true := by simp; omega
          go_enter Tryz.func153, Tryz.ntmps153
          go_wp2_with fail
          refine (HZa.out W1 (Below.refl _ _)).mono ?_
          rintro z w3 ⟨rfl, hB3⟩
          have HB4 := Lib.hid hB3
          have HB3 := Lib.hid (HB.out.trans (HB4.out.mono HB.out.size))
          obtain ⟨c0, c1, c2, c3, c4, c5, c6, c7, c8, c9, c10, c11, c12, c13, c14, c15⟩ := HX.out _ HB4.out
          clear hB3
          go_wp2_with fail
          go_ret
          exact ⟨ret_bool (by simp [*]), HB3.out⟩
      | false =>
        go_enter Tryz.func153, Tryz.ntmps153
        go_wp2_with fail
        refine (HZa.out W1 (Below.refl _ _)).mono ?_
        rintro z w3 ⟨rfl, hB3⟩
        have HB4 := Lib.hid hB3
        have HB3 := Lib.hid (HB.out.trans (HB4.out.mono HB.out.size))
        obtain ⟨c0, c1, c2, c3, c4, c5, c6, c7, c8, c9, c10, c11, c12, c13, c14, c15⟩ := HX.out _ HB4.out
        clear hB3
        go_wp2_with fail
        go_ret
        exact ⟨ret_bool (by simp [*]), HB3.out⟩
    · have q1 : (0 : Int) < (n2 : Int) + (n11 : Int) := by omega
      have q2 : (decide (n2 = 0) && decide (n11 = 0)) = false := by simp; omega
      go_enter Tryz.func153, Tryz.ntmps153
      go_wp2_with fail
      go_ret
      exact ⟨ret_bool (by simp [*]), HB3.out⟩
  | false =>
    rw [hn] at es
    have e0 : ¬ (str nm).toList = [] := by intro h; rw [h] at es; cases es
    go_enter Tryz.func153, Tryz.ntmps153
    go_wp2_with fail
    go_ret
    exact ⟨ret_bool (by simp [*]), HB3.out⟩
set_option maxRecDepth 100000 in
set_option maxHeartbeats 6400000 in
theorem rrest_5 (kd : Int) (nm : List UInt8) (ns : List (List UInt8)) (e a : Ex) (g : Exs) (lo hi : Nat) (bd el : Sts) (s : StP) (N : Nat) (w : World) (_hN : N ≤ w.heap.size) (hx : (St.mk kd nm ns e a g lo hi bd el).Ok w N s) :
    Calls Tryz.prog 153 #[(St.mk kd nm ns e a g lo hi bd el).val s, .bool true, .bool false, .bool false, .bool false, .bool true, .bool true, .bool false] w fun z w' => z = .returned (.bool (restR true false false false true true false nm ns e a g lo hi bd el)) ∧ Below w.heap.size w w' := by
  obtain ⟨A1, hA1⟩ : ∃ A1, (St.mk kd nm ns e a g lo hi bd el).cells s = A1 := ⟨_, rfl⟩
  obtain ⟨W1, hW1⟩ : ∃ W1, w.alloc (Obj.cells A1 54) = W1 := ⟨_, rfl⟩
  have hB1 : Below w.heap.size w W1 := by rw [← hW1]; exact (Below.refl _ w).alloc (Nat.le_refl _) _
  have hz1 : w.heap.size < W1.heap.size := by rw [← hW1]; simp
  have hX : ∀ j z, ((St.mk kd nm ns e a g lo hi bd el).cells s)[j]? = some z → W1.cell? ⟨w.heap.size, j, none⟩ = some z := fun j z hz => by rw [← hW1]; exact cell_block (heap_alloc_new w _) (by rw [← hA1]; exact hz)
  have HB := Lib.hid hB1
  have HB3 := Lib.hid hB1
  have hm2 : ns.length ≤ 140737488355328 := hx.1.2.1
  have hm11 : g.len ≤ 140737488355328 := hx.2.2.2.1.1
  have hm14 : bd.len ≤ 140737488355328 := hx.2.2.2.2.1.1
  have hm15 : el.len ≤ 140737488355328 := hx.2.2.2.2.2.1.1
  have HX := Lib.hid (fun (w' : World) (h : Below W1.heap.size W1 w') => show w'.cell? ⟨w.heap.size, 0, none⟩ = some (.int .i64 kd) ∧ w'.cell? ⟨w.heap.size, 1, none⟩ = some (.string (str nm)) ∧ w'.cell? ⟨w.heap.size, 2, none⟩ = some (.slice s.pn ns.length s.cn) ∧ w'.cell? ⟨w.heap.size, 3, none⟩ = some (.int .i64 e.op) ∧ w'.cell? ⟨w.heap.size, 4, none⟩ = some (.int .u64 (e.word : Int)) ∧ w'.cell? ⟨w.heap.size, 5, none⟩ = some (.string (str e.name)) ∧ w'.cell? ⟨w.heap.size, 6, none⟩ = some (.slice s.pe e.args.len s.ce) ∧ w'.cell? ⟨w.heap.size, 7, none⟩ = some (.int .i64 a.op) ∧ w'.cell? ⟨w.heap.size, 8, none⟩ = some (.int .u64 (a.word : Int)) ∧ w'.cell? ⟨w.heap.size, 9, none⟩ = some (.string (str a.name)) ∧ w'.cell? ⟨w.heap.size, 10, none⟩ = some (.slice s.pa a.args.len s.ca) ∧ w'.cell? ⟨w.heap.size, 11, none⟩ = some (.slice s.pg g.len s.cg) ∧ w'.cell? ⟨w.heap.size, 12, none⟩ = some (.int .u64 (lo : Int)) ∧ w'.cell? ⟨w.heap.size, 13, none⟩ = some (.int .u64 (hi : Int)) ∧ w'.cell? ⟨w.heap.size, 14, none⟩ = some (.slice s.pb bd.len s.cb) ∧ w'.cell? ⟨w.heap.size, 15, none⟩ = some (.slice s.pl el.len s.cl) from ⟨(h.cell hz1).trans (hX 0 _ rfl), (h.cell hz1).trans (hX 1 _ rfl), (h.cell hz1).trans (hX 2 _ rfl), (h.cell hz1).trans (hX 3 _ rfl), (h.cell hz1).trans (hX 4 _ rfl), (h.cell hz1).trans (hX 5 _ rfl), (h.cell hz1).trans (hX 6 _ rfl), (h.cell hz1).trans (hX 7 _ rfl), (h.cell hz1).trans (hX 8 _ rfl), (h.cell hz1).trans (hX 9 _ rfl), (h.cell hz1).trans (hX 10 _ rfl), (h.cell hz1).trans (hX 11 _ rfl), (h.cell hz1).trans (hX 12 _ rfl), (h.cell hz1).trans (hX 13 _ rfl), (h.cell hz1).trans (hX 14 _ rfl), (h.cell hz1).trans (hX 15 _ rfl)⟩)
  have HZe := Lib.hid (fun (w' : World) (_ : Below W1.heap.size W1 w') => rNone_any e s.pe s.ce w')
  have HZa := Lib.hid (fun (w' : World) (_ : Below W1.heap.size W1 w') => rNone_any a s.pa s.ca w')
  unfold Ex.val at HZe HZa
  unfold St.val
  rw [hA1]
  have es : (str nm).toList.isEmpty = nm.isEmpty := by rw [Lib.toList_data, str_data]
  obtain ⟨c0, c1, c2, c3, c4, c5, c6, c7, c8, c9, c10, c11, c12, c13, c14, c15⟩ := HX.out W1 (Below.refl _ _)
  unfold restR
  clear hX hx hB1 _hN hA1
  generalize ns.length = n2 at *
  generalize g.len = n11 at *
  generalize bd.len = n14 at *
  generalize el.len = n15 at *
  generalize e.none = ze at *
  generalize a.none = za at *
  cases hn : nm.isEmpty with
  | true =>
    rw [hn] at es
    have e0 : (str nm).toList = [] := by simpa using es
    go_enter Tryz.func153, Tryz.ntmps153
    go_wp2_with fail
    go_ret
    exact ⟨ret_bool (by simp [*]), HB3.out⟩
  | false =>
    rw [hn] at es
    have e0 : ¬ (str nm).toList = [] := by intro h; rw [h] at es; cases es
    by_cases h1 : n2 = 0 ∧ n11 = 0
    · obtain ⟨rfl, rfl⟩ := h1
      cases ze with
      | true =>
        cases za with
        | true =>
          by_cases hn15 : n15 = 0
          · subst hn15
            go_enter Tryz.func153, Tryz.ntmps153
            go_wp2_with fail
            refine (HZe.out W1 (Below.refl _ _)).mono ?_
            rintro z w2 ⟨rfl, hB2⟩
            have HB2 := Lib.hid hB2
            have HB3 := Lib.hid (HB.out.trans (hB2.mono HB.out.size))
            obtain ⟨c0, c1, c2, c3, c4, c5, c6, c7, c8, c9, c10, c11, c12, c13, c14, c15⟩ := HX.out _ hB2
            clear hB2
            go_wp2_with fail
            refine (HZa.out _ HB2.out).mono ?_
            rintro z w3 ⟨rfl, hB3⟩
            have HB4 := Lib.hid (HB2.out.trans (hB3.mono HB2.out.size))
            have HB3 := Lib.hid (HB.out.trans (HB4.out.mono HB.out.size))
            obtain ⟨c0, c1, c2, c3, c4, c5, c6, c7, c8, c9, c10, c11, c12, c13, c14, c15⟩ := HX.out _ HB4.out
            clear hB3
            go_wp2_with fail
            go_ret
            exact ⟨ret_bool (by simp [*]), HB3.out⟩
          · have fn15 : ((n15 : Int) == 0) = false := by simp; omega
            go_enter Tryz.func153, Tryz.ntmps153
            go_wp2_with fail
            refine (HZe.out W1 (Below.refl _ _)).mono ?_
            rintro z w2 ⟨rfl, hB2⟩
            have HB2 := Lib.hid hB2
            have HB3 := Lib.hid (HB.out.trans (hB2.mono HB.out.size))
            obtain ⟨c0, c1, c2, c3, c4, c5, c6, c7, c8, c9, c10, c11, c12, c13, c14, c15⟩ := HX.out _ hB2
            clear hB2
            go_wp2_with fail
            refine (HZa.out _ HB2.out).mono ?_
            rintro z w3 ⟨rfl, hB3⟩
            have HB4 := Lib.hid (HB2.out.trans (hB3.mono HB2.out.size))
            have HB3 := Lib.hid (HB.out.trans (HB4.out.mono HB.out.size))
            obtain ⟨c0, c1, c2, c3, c4, c5, c6, c7, c8, c9, c10, c11, c12, c13, c14, c15⟩ := HX.out _ HB4.out
            clear hB3
            go_wp2_with fail
            go_ret
            exact ⟨ret_bool (by simp [*]), HB3.out⟩
        | false =>
          go_enter Tryz.func153, Tryz.ntmps153
          go_wp2_with fail
          refine (HZe.out W1 (Below.refl _ _)).mono ?_
          rintro z w2 ⟨rfl, hB2⟩
          have HB2 := Lib.hid hB2
          have HB3 := Lib.hid (HB.out.trans (hB2.mono HB.out.size))
          obtain ⟨c0, c1, c2, c3, c4, c5, c6, c7, c8, c9, c10, c11, c12, c13, c14, c15⟩ := HX.out _ hB2
          clear hB2
          go_wp2_with fail
          refine (HZa.out _ HB2.out).mono ?_
          rintro z w3 ⟨rfl, hB3⟩
          have HB4 := Lib.hid (HB2.out.trans (hB3.mono HB2.out.size))
          have HB3 := Lib.hid (HB.out.trans (HB4.out.mono HB.out.size))
          obtain ⟨c0, c1, c2, c3, c4, c5, c6, c7, c8, c9, c10, c11, c12, c13, c14, c15⟩ := HX.out _ HB4.out
          clear hB3
          go_wp2_with fail
          go_ret
          exact ⟨ret_bool (by simp [*]), HB3.out⟩
      | false =>
        go_enter Tryz.func153, Tryz.ntmps153
        go_wp2_with fail
        refine (HZe.out W1 (Below.refl _ _)).mono ?_
        rintro z w2 ⟨rfl, hB2⟩
        have HB2 := Lib.hid hB2
        have HB3 := Lib.hid (HB.out.trans (hB2.mono HB.out.size))
        obtain ⟨c0, c1, c2, c3, c4, c5, c6, c7, c8, c9, c10, c11, c12, c13, c14, c15⟩ := HX.out _ hB2
        clear hB2
        go_wp2_with fail
        go_ret
        exact ⟨ret_bool (by simp [*]), HB3.out⟩
    · have q1 : (0 : Int) < (n2 : Int) + (n11 : Int) := by omega
      have q2 : (decide (n2 = 0) && decide (n11 = 0)) = false := by simp; omega
      go_enter Tryz.func153, Tryz.ntmps153
      go_wp2_with fail
      go_ret
      exact ⟨ret_bool (by simp [*]), HB3.out⟩
set_option maxRecDepth 100000 in
set_option maxHeartbeats 6400000 in
theorem rrest_6 (kd : Int) (nm : List UInt8) (ns : List (List UInt8)) (e a : Ex) (g : Exs) (lo hi : Nat) (bd el : Sts) (s : StP) (N : Nat) (w : World) (_hN : N ≤ w.heap.size) (hx : (St.mk kd nm ns e a g lo hi bd el).Ok w N s) :
    Calls Tryz.prog 153 #[(St.mk kd nm ns e a g lo hi bd el).val s, .bool true, .bool true, .bool false, .bool false, .bool false, .bool false, .bool false] w fun z w' => z = .returned (.bool (restR true true false false false false false nm ns e a g lo hi bd el)) ∧ Below w.heap.size w w' := by
  obtain ⟨A1, hA1⟩ : ∃ A1, (St.mk kd nm ns e a g lo hi bd el).cells s = A1 := ⟨_, rfl⟩
  obtain ⟨W1, hW1⟩ : ∃ W1, w.alloc (Obj.cells A1 54) = W1 := ⟨_, rfl⟩
  have hB1 : Below w.heap.size w W1 := by rw [← hW1]; exact (Below.refl _ w).alloc (Nat.le_refl _) _
  have hz1 : w.heap.size < W1.heap.size := by rw [← hW1]; simp
  have hX : ∀ j z, ((St.mk kd nm ns e a g lo hi bd el).cells s)[j]? = some z → W1.cell? ⟨w.heap.size, j, none⟩ = some z := fun j z hz => by rw [← hW1]; exact cell_block (heap_alloc_new w _) (by rw [← hA1]; exact hz)
  have HB := Lib.hid hB1
  have HB3 := Lib.hid hB1
  have hm2 : ns.length ≤ 140737488355328 := hx.1.2.1
  have hm11 : g.len ≤ 140737488355328 := hx.2.2.2.1.1
  have hm14 : bd.len ≤ 140737488355328 := hx.2.2.2.2.1.1
  have hm15 : el.len ≤ 140737488355328 := hx.2.2.2.2.2.1.1
  have HX := Lib.hid (fun (w' : World) (h : Below W1.heap.size W1 w') => show w'.cell? ⟨w.heap.size, 0, none⟩ = some (.int .i64 kd) ∧ w'.cell? ⟨w.heap.size, 1, none⟩ = some (.string (str nm)) ∧ w'.cell? ⟨w.heap.size, 2, none⟩ = some (.slice s.pn ns.length s.cn) ∧ w'.cell? ⟨w.heap.size, 3, none⟩ = some (.int .i64 e.op) ∧ w'.cell? ⟨w.heap.size, 4, none⟩ = some (.int .u64 (e.word : Int)) ∧ w'.cell? ⟨w.heap.size, 5, none⟩ = some (.string (str e.name)) ∧ w'.cell? ⟨w.heap.size, 6, none⟩ = some (.slice s.pe e.args.len s.ce) ∧ w'.cell? ⟨w.heap.size, 7, none⟩ = some (.int .i64 a.op) ∧ w'.cell? ⟨w.heap.size, 8, none⟩ = some (.int .u64 (a.word : Int)) ∧ w'.cell? ⟨w.heap.size, 9, none⟩ = some (.string (str a.name)) ∧ w'.cell? ⟨w.heap.size, 10, none⟩ = some (.slice s.pa a.args.len s.ca) ∧ w'.cell? ⟨w.heap.size, 11, none⟩ = some (.slice s.pg g.len s.cg) ∧ w'.cell? ⟨w.heap.size, 12, none⟩ = some (.int .u64 (lo : Int)) ∧ w'.cell? ⟨w.heap.size, 13, none⟩ = some (.int .u64 (hi : Int)) ∧ w'.cell? ⟨w.heap.size, 14, none⟩ = some (.slice s.pb bd.len s.cb) ∧ w'.cell? ⟨w.heap.size, 15, none⟩ = some (.slice s.pl el.len s.cl) from ⟨(h.cell hz1).trans (hX 0 _ rfl), (h.cell hz1).trans (hX 1 _ rfl), (h.cell hz1).trans (hX 2 _ rfl), (h.cell hz1).trans (hX 3 _ rfl), (h.cell hz1).trans (hX 4 _ rfl), (h.cell hz1).trans (hX 5 _ rfl), (h.cell hz1).trans (hX 6 _ rfl), (h.cell hz1).trans (hX 7 _ rfl), (h.cell hz1).trans (hX 8 _ rfl), (h.cell hz1).trans (hX 9 _ rfl), (h.cell hz1).trans (hX 10 _ rfl), (h.cell hz1).trans (hX 11 _ rfl), (h.cell hz1).trans (hX 12 _ rfl), (h.cell hz1).trans (hX 13 _ rfl), (h.cell hz1).trans (hX 14 _ rfl), (h.cell hz1).trans (hX 15 _ rfl)⟩)
  have HZe := Lib.hid (fun (w' : World) (_ : Below W1.heap.size W1 w') => rNone_any e s.pe s.ce w')
  have HZa := Lib.hid (fun (w' : World) (_ : Below W1.heap.size W1 w') => rNone_any a s.pa s.ca w')
  unfold Ex.val at HZe HZa
  unfold St.val
  rw [hA1]
  have es : (str nm).toList.isEmpty = nm.isEmpty := by rw [Lib.toList_data, str_data]
  obtain ⟨c0, c1, c2, c3, c4, c5, c6, c7, c8, c9, c10, c11, c12, c13, c14, c15⟩ := HX.out W1 (Below.refl _ _)
  unfold restR
  clear hX hx hB1 _hN hA1
  generalize ns.length = n2 at *
  generalize g.len = n11 at *
  generalize bd.len = n14 at *
  generalize el.len = n15 at *
  generalize e.none = ze at *
  generalize a.none = za at *
  cases hn : nm.isEmpty with
  | true =>
    rw [hn] at es
    have e0 : (str nm).toList = [] := by simpa using es
    go_enter Tryz.func153, Tryz.ntmps153
    go_wp2_with fail
    go_ret
    exact ⟨ret_bool (by simp [*]), HB3.out⟩
  | false =>
    rw [hn] at es
    have e0 : ¬ (str nm).toList = [] := by intro h; rw [h] at es; cases es
    cases ze with
    | true =>
      cases za with
      | true =>
        by_cases hlo : lo = 0
        · subst hlo
          by_cases hhi : hi = 0
          · subst hhi
            by_cases hn14 : n14 = 0
            · subst hn14
              by_cases hn15 : n15 = 0
              · subst hn15
                go_enter Tryz.func153, Tryz.ntmps153
                go_wp2_with fail
                refine (HZe.out W1 (Below.refl _ _)).mono ?_
                rintro z w2 ⟨rfl, hB2⟩
                have HB2 := Lib.hid hB2
                have HB3 := Lib.hid (HB.out.trans (hB2.mono HB.out.size))
                obtain ⟨c0, c1, c2, c3, c4, c5, c6, c7, c8, c9, c10, c11, c12, c13, c14, c15⟩ := HX.out _ hB2
                clear hB2
                go_wp2_with fail
                refine (HZa.out _ HB2.out).mono ?_
                rintro z w3 ⟨rfl, hB3⟩
                have HB4 := Lib.hid (HB2.out.trans (hB3.mono HB2.out.size))
                have HB3 := Lib.hid (HB.out.trans (HB4.out.mono HB.out.size))
                obtain ⟨c0, c1, c2, c3, c4, c5, c6, c7, c8, c9, c10, c11, c12, c13, c14, c15⟩ := HX.out _ HB4.out
                clear hB3
                go_wp2_with fail
                go_ret
                exact ⟨ret_bool (by simp [*]), HB3.out⟩
              · have fn15 : ((n15 : Int) == 0) = false := by simp; omega
                go_enter Tryz.func153, Tryz.ntmps153
                go_wp2_with fail
                refine (HZe.out W1 (Below.refl _ _)).mono ?_
                rintro z w2 ⟨rfl, hB2⟩
                have HB2 := Lib.hid hB2
                have HB3 := Lib.hid (HB.out.trans (hB2.mono HB.out.size))
                obtain ⟨c0, c1, c2, c3, c4, c5, c6, c7, c8, c9, c10, c11, c12, c13, c14, c15⟩ := HX.out _ hB2
                clear hB2
                go_wp2_with fail
                refine (HZa.out _ HB2.out).mono ?_
                rintro z w3 ⟨rfl, hB3⟩
                have HB4 := Lib.hid (HB2.out.trans (hB3.mono HB2.out.size))
                have HB3 := Lib.hid (HB.out.trans (HB4.out.mono HB.out.size))
                obtain ⟨c0, c1, c2, c3, c4, c5, c6, c7, c8, c9, c10, c11, c12, c13, c14, c15⟩ := HX.out _ HB4.out
                clear hB3
                go_wp2_with fail
                go_ret
                exact ⟨ret_bool (by simp [*]), HB3.out⟩
            · have fn14 : ((n14 : Int) == 0) = false := by simp; omega
              go_enter Tryz.func153, Tryz.ntmps153
              go_wp2_with fail
              refine (HZe.out W1 (Below.refl _ _)).mono ?_
              rintro z w2 ⟨rfl, hB2⟩
              have HB2 := Lib.hid hB2
              have HB3 := Lib.hid (HB.out.trans (hB2.mono HB.out.size))
              obtain ⟨c0, c1, c2, c3, c4, c5, c6, c7, c8, c9, c10, c11, c12, c13, c14, c15⟩ := HX.out _ hB2
              clear hB2
              go_wp2_with fail
              refine (HZa.out _ HB2.out).mono ?_
              rintro z w3 ⟨rfl, hB3⟩
              have HB4 := Lib.hid (HB2.out.trans (hB3.mono HB2.out.size))
              have HB3 := Lib.hid (HB.out.trans (HB4.out.mono HB.out.size))
              obtain ⟨c0, c1, c2, c3, c4, c5, c6, c7, c8, c9, c10, c11, c12, c13, c14, c15⟩ := HX.out _ HB4.out
              clear hB3
              go_wp2_with fail
              go_ret
              exact ⟨ret_bool (by simp [*]), HB3.out⟩
          · have fh : ((hi : Int) != 0) = true := by simp; omega
            go_enter Tryz.func153, Tryz.ntmps153
            go_wp2_with fail
            refine (HZe.out W1 (Below.refl _ _)).mono ?_
            rintro z w2 ⟨rfl, hB2⟩
            have HB2 := Lib.hid hB2
            have HB3 := Lib.hid (HB.out.trans (hB2.mono HB.out.size))
            obtain ⟨c0, c1, c2, c3, c4, c5, c6, c7, c8, c9, c10, c11, c12, c13, c14, c15⟩ := HX.out _ hB2
            clear hB2
            go_wp2_with fail
            refine (HZa.out _ HB2.out).mono ?_
            rintro z w3 ⟨rfl, hB3⟩
            have HB4 := Lib.hid (HB2.out.trans (hB3.mono HB2.out.size))
            have HB3 := Lib.hid (HB.out.trans (HB4.out.mono HB.out.size))
            obtain ⟨c0, c1, c2, c3, c4, c5, c6, c7, c8, c9, c10, c11, c12, c13, c14, c15⟩ := HX.out _ HB4.out
            clear hB3
            go_wp2_with fail
            go_ret
            exact ⟨ret_bool (by simp [*]), HB3.out⟩
        · have fl : ((lo : Int) != 0) = true := by simp; omega
          go_enter Tryz.func153, Tryz.ntmps153
          go_wp2_with fail
          refine (HZe.out W1 (Below.refl _ _)).mono ?_
          rintro z w2 ⟨rfl, hB2⟩
          have HB2 := Lib.hid hB2
          have HB3 := Lib.hid (HB.out.trans (hB2.mono HB.out.size))
          obtain ⟨c0, c1, c2, c3, c4, c5, c6, c7, c8, c9, c10, c11, c12, c13, c14, c15⟩ := HX.out _ hB2
          clear hB2
          go_wp2_with fail
          refine (HZa.out _ HB2.out).mono ?_
          rintro z w3 ⟨rfl, hB3⟩
          have HB4 := Lib.hid (HB2.out.trans (hB3.mono HB2.out.size))
          have HB3 := Lib.hid (HB.out.trans (HB4.out.mono HB.out.size))
          obtain ⟨c0, c1, c2, c3, c4, c5, c6, c7, c8, c9, c10, c11, c12, c13, c14, c15⟩ := HX.out _ HB4.out
          clear hB3
          go_wp2_with fail
          go_ret
          exact ⟨ret_bool (by simp [*]), HB3.out⟩
      | false =>
        go_enter Tryz.func153, Tryz.ntmps153
        go_wp2_with fail
        refine (HZe.out W1 (Below.refl _ _)).mono ?_
        rintro z w2 ⟨rfl, hB2⟩
        have HB2 := Lib.hid hB2
        have HB3 := Lib.hid (HB.out.trans (hB2.mono HB.out.size))
        obtain ⟨c0, c1, c2, c3, c4, c5, c6, c7, c8, c9, c10, c11, c12, c13, c14, c15⟩ := HX.out _ hB2
        clear hB2
        go_wp2_with fail
        refine (HZa.out _ HB2.out).mono ?_
        rintro z w3 ⟨rfl, hB3⟩
        have HB4 := Lib.hid (HB2.out.trans (hB3.mono HB2.out.size))
        have HB3 := Lib.hid (HB.out.trans (HB4.out.mono HB.out.size))
        obtain ⟨c0, c1, c2, c3, c4, c5, c6, c7, c8, c9, c10, c11, c12, c13, c14, c15⟩ := HX.out _ HB4.out
        clear hB3
        go_wp2_with fail
        go_ret
        exact ⟨ret_bool (by simp [*]), HB3.out⟩
    | false =>
      go_enter Tryz.func153, Tryz.ntmps153
      go_wp2_with fail
      refine (HZe.out W1 (Below.refl _ _)).mono ?_
      rintro z w2 ⟨rfl, hB2⟩
      have HB2 := Lib.hid hB2
      have HB3 := Lib.hid (HB.out.trans (hB2.mono HB.out.size))
      obtain ⟨c0, c1, c2, c3, c4, c5, c6, c7, c8, c9, c10, c11, c12, c13, c14, c15⟩ := HX.out _ hB2
      clear hB2
      go_wp2_with fail
      go_ret
      exact ⟨ret_bool (by simp [*]), HB3.out⟩
end Go.Proofs.YtlhbledakddbbaaGreatDoor
/- The document's exprs, mayStmt, mayStmts. -/
namespace Go.Proofs.YtlhbledakddbbaaGreatDoor
open Go.RowKit

/-- the expressions that a statement's kind names -/
def exL (x : St) : Exs := if x.kind = 1 ∨ x.kind = 3 ∨ x.kind = 4 then .cons x.e .nil else if x.kind = 2 then .cons x.a (.cons x.e .nil) else if x.kind = 6 then x.args else .nil
theorem one_in {w : World} {N : Nat} {e : Ex} {p : Option Addr} {c : Nat} (t : TypeId) (ok : e.Ok w N p) (hN : N ≤ w.heap.size) :
    (Exs.cons e .nil).In (w.alloc (.cells #[.int .i64 e.op, .int .u64 (e.word : Int), .string (str e.name), .slice p e.args.len c] t (0, 0))) (w.alloc (.cells #[.int .i64 e.op, .int .u64 (e.word : Int), .string (str e.name), .slice p e.args.len c] t (0, 0))).heap.size (some ⟨w.heap.size, 0, none⟩) := by
  have hk := heap_alloc_new w (.cells #[.int .i64 e.op, .int .u64 (e.word : Int), .string (str e.name), .slice p e.args.len c] t (0, 0))
  have hB := (Below.refl w.heap.size w).alloc (Nat.le_refl _) (.cells #[.int .i64 e.op, .int .u64 (e.word : Int), .string (str e.name), .slice p e.args.len c] t (0, 0))
  generalize w.alloc (.cells #[.int .i64 e.op, .int .u64 (e.word : Int), .string (str e.name), .slice p e.args.len c] t (0, 0)) = W at *
  have hz := lt_of_block hk
  have ok' := ok.later (hB.mono hN) (show N ≤ W.heap.size by omega)
  exact ⟨by simp [Exs.len], .inr ⟨_, 0, rfl, hz, exAt_ofOk ok' (cell_block hk rfl) (cell_block hk rfl) (cell_block hk rfl) (cell_block hk rfl), trivial⟩⟩
theorem two_in {w : World} {N : Nat} {a e : Ex} {q p : Option Addr} {d c : Nat} (t : TypeId) (oka : a.Ok w N q) (ok : e.Ok w N p) (hN : N ≤ w.heap.size) :
    (Exs.cons a (.cons e .nil)).In (w.alloc (.cells #[.int .i64 a.op, .int .u64 (a.word : Int), .string (str a.name), .slice q a.args.len d, .int .i64 e.op, .int .u64 (e.word : Int), .string (str e.name), .slice p e.args.len c] t (0, 0))) (w.alloc (.cells #[.int .i64 a.op, .int .u64 (a.word : Int), .string (str a.name), .slice q a.args.len d, .int .i64 e.op, .int .u64 (e.word : Int), .string (str e.name), .slice p e.args.len c] t (0, 0))).heap.size (some ⟨w.heap.size, 0, none⟩) := by
  have hk := heap_alloc_new w (.cells #[.int .i64 a.op, .int .u64 (a.word : Int), .string (str a.name), .slice q a.args.len d, .int .i64 e.op, .int .u64 (e.word : Int), .string (str e.name), .slice p e.args.len c] t (0, 0))
  have hB := (Below.refl w.heap.size w).alloc (Nat.le_refl _) (.cells #[.int .i64 a.op, .int .u64 (a.word : Int), .string (str a.name), .slice q a.args.len d, .int .i64 e.op, .int .u64 (e.word : Int), .string (str e.name), .slice p e.args.len c] t (0, 0))
  generalize w.alloc (.cells #[.int .i64 a.op, .int .u64 (a.word : Int), .string (str a.name), .slice q a.args.len d, .int .i64 e.op, .int .u64 (e.word : Int), .string (str e.name), .slice p e.args.len c] t (0, 0)) = W at *
  have hz := lt_of_block hk
  have ok' := ok.later (hB.mono hN) (show N ≤ W.heap.size by omega)
  have oka' := oka.later (hB.mono hN) (show N ≤ W.heap.size by omega)
  exact ⟨by simp [Exs.len], .inr ⟨_, 0, rfl, hz, exAt_ofOk oka' (cell_block hk rfl) (cell_block hk rfl) (cell_block hk rfl) (cell_block hk rfl), exAt_ofOk ok' (cell_block hk rfl) (cell_block hk rfl) (cell_block hk rfl) (cell_block hk rfl), trivial⟩⟩
set_option maxHeartbeats 3200000 in
theorem rexprs_any (x : St) (s : StP) (N : Nat) (w : World) (hN : N ≤ w.heap.size) (hx : x.Ok w N s) :
    Calls Tryz.prog 152 #[x.val s] w fun z w' => ∃ p c, z = .returned (.slice p (exL x).len c) ∧ (exL x).In w' w'.heap.size p ∧ Below w.heap.size w w' := by
  obtain ⟨A1, hA1⟩ : ∃ A1, x.cells s = A1 := ⟨_, rfl⟩
  obtain ⟨W1, hW1⟩ : ∃ W1, w.alloc (Obj.cells A1 54) = W1 := ⟨_, rfl⟩
  have hB1 : Below w.heap.size w W1 := by rw [← hW1]; exact (Below.refl _ w).alloc (Nat.le_refl _) _
  have hz1 : w.heap.size < W1.heap.size := by rw [← hW1]; simp
  have hX : ∀ j z, (x.cells s)[j]? = some z → W1.cell? ⟨w.heap.size, j, none⟩ = some z := fun j z hz => by rw [← hW1]; exact cell_block (heap_alloc_new w _) (by rw [← hA1]; exact hz)
  have HB := Lib.hid hB1
  have ok := hx.later (hB1.mono hN) (Nat.le_refl N)
  unfold St.val
  rw [hA1]
  obtain ⟨kd, nm, ns, e, a, g, lo, hi, bd, el⟩ := x
  have c0 : W1.cell? ⟨w.heap.size, 0, none⟩ = some (.int .i64 kd) := hX 0 _ rfl
  have c3 : W1.cell? ⟨w.heap.size, 3, none⟩ = some (.int .i64 e.op) := hX 3 _ rfl
  have c4 : W1.cell? ⟨w.heap.size, 4, none⟩ = some (.int .u64 (e.word : Int)) := hX 4 _ rfl
  have c5 : W1.cell? ⟨w.heap.size, 5, none⟩ = some (.string (str e.name)) := hX 5 _ rfl
  have c6 : W1.cell? ⟨w.heap.size, 6, none⟩ = some (.slice s.pe e.args.len s.ce) := hX 6 _ rfl
  have c7 : W1.cell? ⟨w.heap.size, 7, none⟩ = some (.int .i64 a.op) := hX 7 _ rfl
  have c8 : W1.cell? ⟨w.heap.size, 8, none⟩ = some (.int .u64 (a.word : Int)) := hX 8 _ rfl
  have c9 : W1.cell? ⟨w.heap.size, 9, none⟩ = some (.string (str a.name)) := hX 9 _ rfl
  have c10 : W1.cell? ⟨w.heap.size, 10, none⟩ = some (.slice s.pa a.args.len s.ca) := hX 10 _ rfl
  have c11 : W1.cell? ⟨w.heap.size, 11, none⟩ = some (.slice s.pg g.len s.cg) := hX 11 _ rfl
  have OK := Lib.hid ok
  have HN := Lib.hid (show N ≤ W1.heap.size by omega)
  have E1 : ∀ k, k = 1 ∨ k = 3 ∨ k = 4 → exL (.mk k nm ns e a g lo hi bd el) = .cons e .nil := fun k h => if_pos h
  have E2 : exL (.mk 2 nm ns e a g lo hi bd el) = .cons a (.cons e .nil) := rfl
  have E6 : exL (.mk 6 nm ns e a g lo hi bd el) = g := rfl
  have E0 : ∀ k, ¬ (k = 1 ∨ k = 3 ∨ k = 4) → ¬ k = 2 → ¬ k = 6 → exL (.mk k nm ns e a g lo hi bd el) = .nil := fun k h h2 h6 => by
    show (if k = 1 ∨ k = 3 ∨ k = 4 then _ else if k = 2 then _ else if k = 6 then _ else _) = _
    rw [if_neg h, if_neg h2, if_neg h6]
  obtain ⟨X, hX'⟩ : ∃ X, exL (.mk kd nm ns e a g lo hi bd el) = X := ⟨_, rfl⟩
  rw [hX']
  have HE := Lib.hid hX'
  clear ok hX hx hB1 hN hA1 hz1 hX' E2 E6 E0
  by_cases h1 : kd = 1
  · subst h1
    have hE := HE.out.symm.trans (E1 _ (by decide))
    subst hE
    go_enter Tryz.func152, Tryz.ntmps152
    go_wp2_with fail
    go_ret
    exact ⟨_, _, rfl, one_in _ OK.out.2.1 HN.out, HB.out.alloc HB.out.size _⟩
  by_cases h3 : kd = 3
  · subst h3
    have hE := HE.out.symm.trans (E1 _ (by decide))
    subst hE
    go_enter Tryz.func152, Tryz.ntmps152
    go_wp2_with fail
    go_ret
    exact ⟨_, _, rfl, one_in _ OK.out.2.1 HN.out, HB.out.alloc HB.out.size _⟩
  by_cases h4 : kd = 4
  · subst h4
    have hE := HE.out.symm.trans (E1 _ (by decide))
    subst hE
    go_enter Tryz.func152, Tryz.ntmps152
    go_wp2_with fail
    go_ret
    exact ⟨_, _, rfl, one_in _ OK.out.2.1 HN.out, HB.out.alloc HB.out.size _⟩
  by_cases h2 : kd = 2
  · subst h2
    have hE := HE.out.symm.trans (show _ = Exs.cons a (.cons e .nil) from rfl)
    subst hE
    go_enter Tryz.func152, Tryz.ntmps152
    go_wp2_with fail
    go_ret
    exact ⟨_, _, rfl, two_in _ OK.out.2.2.1 OK.out.2.1 HN.out, HB.out.alloc HB.out.size _⟩
  by_cases h6 : kd = 6
  · subst h6
    have hE := HE.out.symm.trans (show _ = g from rfl)
    subst hE
    go_enter Tryz.func152, Tryz.ntmps152
    go_wp2_with fail
    go_ret
    exact ⟨_, _, rfl, OK.out.2.2.2.1.later (Below.refl _ _) HN.out, HB.out⟩
  have hE := HE.out.symm.trans (show _ = Exs.nil by
    show (if kd = 1 ∨ kd = 3 ∨ kd = 4 then _ else if kd = 2 then _ else if kd = 6 then _ else _) = _
    rw [if_neg (by omega), if_neg h2, if_neg h6])
  subst hE
  have f1 : (kd == 1) = false := by simp; exact h1
  have f2 : (kd == 2) = false := by simp; exact h2
  have f3 : (kd == 3) = false := by simp; exact h3
  have f4 : (kd == 4) = false := by simp; exact h4
  have f6 : (kd == 6) = false := by simp; exact h6
  go_enter Tryz.func152, Tryz.ntmps152
  go_wp2_with fail
  go_ret
  exact ⟨_, _, rfl, Exs.In.nil _ _ _, HB.out⟩
end Go.Proofs.YtlhbledakddbbaaGreatDoor
/- The document's mayStmt as it is asked, and that it is the program's. -/
namespace Go.Proofs.YtlhbledakddbbaaGreatDoor
open Go.RowKit

/-- what the document's rest answers for a kind -/
def restK (kd : Int) (nm : List UInt8) (ns : List (List UInt8)) (e a : Ex) (g : Exs) (lo hi : Nat) (bd el : Sts) : Bool :=
  if kd = 1 then restR true false true false false false false nm ns e a g lo hi bd el
  else if kd = 2 then restR true false true true false false false nm ns e a g lo hi bd el
  else if kd = 3 then restR false false true false false true true nm ns e a g lo hi bd el
  else if kd = 4 then restR false false true false false true false nm ns e a g lo hi bd el
  else if kd = 5 then restR true false false false true true false nm ns e a g lo hi bd el
  else if kd = 6 then restR true true false false false false false nm ns e a g lo hi bd el
  else false
def St.mayR : St → Bool
  | .mk kd nm ns e a g lo hi bd el => (exL (.mk kd nm ns e a g lo hi bd el)).may && ((nm.isEmpty || nameB nm) && (namesB ns && (bd.may && (el.may && restK kd nm ns e a g lo hi bd el))))
theorem name_ne {nm : List UInt8} (h : nameB nm = true) : nm.isEmpty = false := by cases nm with | nil => simp [nameB] at h | cons => rfl
theorem Sts.may_nil {a : Sts} (h : a.len = 0) : a.may = true := by cases a with | nil => simp [Sts.may] | cons => simp [Sts.len] at h
theorem names_nil {a : List (List UInt8)} (h : a.length = 0) : namesB a = true := by cases a with | nil => rfl | cons => simp at h
theorem mayR_eq (x : St) : x.mayR = x.may := by
  obtain ⟨kd, nm, ns, e, a, g, lo, hi, bd, el⟩ := x
  have h0 : E0.none = true := rfl
  have n1 := @name_ne nm
  have m1 : decide (bd.len = 0) = true → bd.may = true := fun h => Sts.may_nil (by simpa using h)
  have m2 : decide (el.len = 0) = true → el.may = true := fun h => Sts.may_nil (by simpa using h)
  have m3 : decide (ns.length = 0) = true → namesB ns = true := fun h => names_nil (by simpa using h)
  have z0 : decide ((0 : Int) = 0) = true := rfl
  have z00 : decide ((0 : Nat) = 0) = true := rfl
  have z1 : decide (Sts.nil.len = 0) = true := rfl
  have z2 : decide (Exs.nil.len = 0) = true := rfl
  have z4 : decide (([] : List (List UInt8)).length = 0) = true := rfl
  have z5 : ([] : List UInt8).isEmpty = true := rfl
  have z3 : Exs.nil.may = true := rfl
  simp only [St.mayR, restK, exL, St.may, restSt, St.kind, St.e, St.a, St.args]
  by_cases h1 : kd = 1
  · subst h1
    simp only [reduceIte, Int.reduceEq, or_false, eq_self, restR, St.isZero, Exs.may, h0, z5]
    clear h0 z0 z00 z1 z2 z3 z4 z5
    generalize nameB nm = zn at *
    generalize namesB ns = zs at *
    generalize bd.may = zb at *
    generalize el.may = zl at *
    generalize nm.isEmpty = bn at *
    generalize decide (ns.length = 0) = ln at *
    generalize decide (bd.len = 0) = lb at *
    generalize decide (el.len = 0) = ll at *
    generalize decide (g.len = 0) = lg at *
    generalize decide (lo = 0) = l1 at *
    generalize decide (hi = 0) = l2 at *
    generalize e.may = q1 at *
    generalize a.may = q2 at *
    generalize g.may = q3 at *
    generalize e.none = q4 at *
    generalize a.none = q5 at *
    cases zn <;> cases bn <;> simp only [Bool.false_and, Bool.and_false, Bool.true_and, Bool.and_true, Bool.not_true, Bool.not_false, Bool.false_or, Bool.true_or, Bool.or_false, Bool.or_true, beq_self_eq_true, show (true == false) = false by rfl] at n1 ⊢ <;> (first | (exact absurd (n1 trivial) (by decide)) | skip) <;> cases ln <;> cases lb <;> cases ll <;> simp_all [Bool.and_comm, Bool.and_left_comm]
  by_cases h2 : kd = 2
  · subst h2
    simp only [reduceIte, Int.reduceEq, or_false, eq_self, restR, St.isZero, Exs.may, h0, z5]
    clear h0 z0 z00 z1 z2 z3 z4 z5
    generalize nameB nm = zn at *
    generalize namesB ns = zs at *
    generalize bd.may = zb at *
    generalize el.may = zl at *
    generalize nm.isEmpty = bn at *
    generalize decide (ns.length = 0) = ln at *
    generalize decide (bd.len = 0) = lb at *
    generalize decide (el.len = 0) = ll at *
    generalize decide (g.len = 0) = lg at *
    generalize decide (lo = 0) = l1 at *
    generalize decide (hi = 0) = l2 at *
    generalize e.may = q1 at *
    generalize a.may = q2 at *
    generalize g.may = q3 at *
    generalize e.none = q4 at *
    generalize a.none = q5 at *
    cases zn <;> cases bn <;> simp only [Bool.false_and, Bool.and_false, Bool.true_and, Bool.and_true, Bool.not_true, Bool.not_false, Bool.false_or, Bool.true_or, Bool.or_false, Bool.or_true, beq_self_eq_true, show (true == false) = false by rfl] at n1 ⊢ <;> (first | (exact absurd (n1 trivial) (by decide)) | skip) <;> cases ln <;> cases lb <;> cases ll <;> simp_all [Bool.and_comm, Bool.and_left_comm]
  by_cases h3 : kd = 3
  · subst h3
    simp only [reduceIte, Int.reduceEq, or_false, or_true, eq_self, restR, St.isZero, Exs.may, h0, z1]
    clear h0 z0 z00 z1 z2 z3 z4 z5
    generalize nameB nm = zn at *
    generalize namesB ns = zs at *
    generalize bd.may = zb at *
    generalize el.may = zl at *
    generalize nm.isEmpty = bn at *
    generalize decide (ns.length = 0) = ln at *
    generalize decide (bd.len = 0) = lb at *
    generalize decide (el.len = 0) = ll at *
    generalize decide (g.len = 0) = lg at *
    generalize decide (lo = 0) = l1 at *
    generalize decide (hi = 0) = l2 at *
    generalize e.may = q1 at *
    generalize a.may = q2 at *
    generalize g.may = q3 at *
    generalize e.none = q4 at *
    generalize a.none = q5 at *
    cases zn <;> cases bn <;> simp only [Bool.false_and, Bool.and_false, Bool.true_and, Bool.and_true, Bool.not_true, Bool.not_false, Bool.false_or, Bool.true_or, Bool.or_false, Bool.or_true, beq_self_eq_true, show (false == true) = false by rfl] at n1 ⊢ <;> (first | (exact absurd (n1 trivial) (by decide)) | skip) <;> cases ln <;> cases lb <;> cases ll <;> simp_all [Bool.and_comm, Bool.and_left_comm]
  by_cases h4 : kd = 4
  · subst h4
    simp only [reduceIte, Int.reduceEq, or_true, eq_self, restR, St.isZero, Exs.may, h0, z1]
    clear h0 z0 z00 z1 z2 z3 z4 z5
    generalize nameB nm = zn at *
    generalize namesB ns = zs at *
    generalize bd.may = zb at *
    generalize el.may = zl at *
    generalize nm.isEmpty = bn at *
    generalize decide (ns.length = 0) = ln at *
    generalize decide (bd.len = 0) = lb at *
    generalize decide (el.len = 0) = ll at *
    generalize decide (g.len = 0) = lg at *
    generalize decide (lo = 0) = l1 at *
    generalize decide (hi = 0) = l2 at *
    generalize e.may = q1 at *
    generalize a.may = q2 at *
    generalize g.may = q3 at *
    generalize e.none = q4 at *
    generalize a.none = q5 at *
    cases zn <;> cases bn <;> simp only [Bool.false_and, Bool.and_false, Bool.true_and, Bool.and_true, Bool.not_true, Bool.not_false, Bool.false_or, Bool.true_or, Bool.or_false, Bool.or_true, beq_self_eq_true, show (false == true) = false by rfl] at n1 ⊢ <;> (first | (exact absurd (n1 trivial) (by decide)) | skip) <;> cases ln <;> cases lb <;> cases ll <;> simp_all [Bool.and_comm, Bool.and_left_comm]
  by_cases h5 : kd = 5
  · subst h5
    simp only [reduceIte, Int.reduceEq, or_false, eq_self, restR, St.isZero, z1, z3, z5]
    clear h0 z0 z00 z1 z2 z3 z4 z5
    generalize nameB nm = zn at *
    generalize namesB ns = zs at *
    generalize bd.may = zb at *
    generalize el.may = zl at *
    generalize nm.isEmpty = bn at *
    generalize decide (ns.length = 0) = ln at *
    generalize decide (bd.len = 0) = lb at *
    generalize decide (el.len = 0) = ll at *
    generalize decide (g.len = 0) = lg at *
    generalize decide (lo = 0) = l1 at *
    generalize decide (hi = 0) = l2 at *
    generalize e.may = q1 at *
    generalize a.may = q2 at *
    generalize g.may = q3 at *
    generalize e.none = q4 at *
    generalize a.none = q5 at *
    cases zn <;> cases bn <;> simp only [Bool.false_and, Bool.and_false, Bool.true_and, Bool.not_true, Bool.not_false, Bool.false_or, Bool.true_or, Bool.or_false, Bool.or_true, beq_self_eq_true, show (true == false) = false by rfl] at n1 ⊢ <;> (first | (exact absurd (n1 trivial) (by decide)) | skip) <;> cases ln <;> cases lb <;> cases ll <;> simp_all [Bool.and_comm, Bool.and_left_comm]
  by_cases h6 : kd = 6
  · subst h6
    simp only [reduceIte, Int.reduceEq, or_false, eq_self, restR, St.isZero, z2, z4, z5]
    clear h0 z0 z00 z1 z2 z3 z4 z5
    generalize nameB nm = zn at *
    generalize namesB ns = zs at *
    generalize bd.may = zb at *
    generalize el.may = zl at *
    generalize nm.isEmpty = bn at *
    generalize decide (ns.length = 0) = ln at *
    generalize decide (bd.len = 0) = lb at *
    generalize decide (el.len = 0) = ll at *
    generalize decide (g.len = 0) = lg at *
    generalize decide (lo = 0) = l1 at *
    generalize decide (hi = 0) = l2 at *
    generalize e.may = q1 at *
    generalize a.may = q2 at *
    generalize g.may = q3 at *
    generalize e.none = q4 at *
    generalize a.none = q5 at *
    cases zn <;> cases bn <;> simp only [Bool.false_and, Bool.and_false, Bool.true_and, Bool.not_true, Bool.not_false, Bool.false_or, Bool.true_or, Bool.or_false, Bool.or_true, beq_self_eq_true, show (true == false) = false by rfl] at n1 ⊢ <;> (first | (exact absurd (n1 trivial) (by decide)) | skip) <;> cases ln <;> cases lb <;> cases ll <;> simp_all [Bool.and_comm, Bool.and_left_comm]
  rw [if_neg h1, if_neg h2, if_neg h3, if_neg h4, if_neg h5, if_neg h6, if_neg h1, if_neg h2, if_neg h3, if_neg h4, if_neg h5, if_neg h6]
  simp
end Go.Proofs.YtlhbledakddbbaaGreatDoor
/- The document's mayStmt and mayStmts. -/
namespace Go.Proofs.YtlhbledakddbbaaGreatDoor
open Go.RowKit

def RMS (n : Nat) : Prop := ∀ (l : Sts), l.size ≤ n → ∀ (p : Option Addr) (c N : Nat) (w : World), N ≤ w.heap.size → l.In w N p →
  Calls Tryz.prog 135 #[.slice p l.len c] w fun z w' => z = .returned (.bool l.may) ∧ Below w.heap.size w w'
set_option maxRecDepth 100000 in
set_option maxHeartbeats 6400000 in
theorem rmayStmt_step (n : Nat) (ih : RMS n) (x : St) (hsz : x.size ≤ n + 1) (s : StP) (N : Nat) (w : World) (hN : N ≤ w.heap.size) (hx : x.Ok w N s) :
    Calls Tryz.prog 149 #[x.val s] w fun z w' => z = .returned (.bool x.may) ∧ Below w.heap.size w w' := by
  rw [← mayR_eq]
  obtain ⟨A1, hA1⟩ : ∃ A1, x.cells s = A1 := ⟨_, rfl⟩
  obtain ⟨W1, hW1⟩ : ∃ W1, w.alloc (Obj.cells A1 54) = W1 := ⟨_, rfl⟩
  have hB1 : Below w.heap.size w W1 := by rw [← hW1]; exact (Below.refl _ w).alloc (Nat.le_refl _) _
  have hz1 : w.heap.size < W1.heap.size := by rw [← hW1]; simp
  have hk1 : W1.heap[w.heap.size]? = some (.cells A1 54 (0, 0)) := by rw [← hW1]; exact heap_alloc_new w _
  have hX : ∀ j z, (x.cells s)[j]? = some z → W1.cell? ⟨w.heap.size, j, none⟩ = some z := fun j z hz => cell_block hk1 (by rw [← hA1]; exact hz)
  have HB := Lib.hid hB1
  have HZ1 := Lib.hid (show A1.size = 16 by rw [← hA1]; rfl)
  have HI1 := Lib.hid (infoSt.trans (by rw [HZ1.out]) : (Tryz.prog.info? 54).map (·.size) = some A1.size)
  have HF := Lib.hid (fun (w' : World) (h : Below W1.heap.size W1 w') => show w'.rangeAt w.heap.size 0 A1.toList from range_block ((h.block _ hz1).trans hk1))
  have HOK := Lib.hid (fun (w' : World) (h : Below W1.heap.size W1 w') => hx.later ((hB1.trans (h.mono hB1.size)).mono hN) (Nat.le_refl N))
  have HN := Lib.hid (fun (w' : World) (h : Below W1.heap.size W1 w') => show N ≤ w'.heap.size from Nat.le_trans (Nat.le_trans hN hB1.size) h.size)
  have HEX := Lib.hid (fun (w' : World) (h : Below W1.heap.size W1 w') => rexprs_any x s N w' (HN.out w' h) (HOK.out w' h))
  have HNm := Lib.hid (fun w => rnm_any (str x.name) w)
  rw [str_data] at HNm
  obtain ⟨X, hXe⟩ : ∃ X, exL x = X := ⟨_, rfl⟩
  rw [hXe] at HEX
  obtain ⟨kd, nm, ns, e, a, g, lo, hi, bd, el⟩ := x
  simp only [St.name] at HNm
  simp only [St.size] at hsz
  have HX := Lib.hid (fun (w' : World) (h : Below W1.heap.size W1 w') => show w'.cell? ⟨w.heap.size, 0, none⟩ = some (.int .i64 kd) ∧ w'.cell? ⟨w.heap.size, 1, none⟩ = some (.string (str nm)) ∧ w'.cell? ⟨w.heap.size, 2, none⟩ = some (.slice s.pn ns.length s.cn) ∧ w'.cell? ⟨w.heap.size, 14, none⟩ = some (.slice s.pb bd.len s.cb) ∧ w'.cell? ⟨w.heap.size, 15, none⟩ = some (.slice s.pl el.len s.cl) from ⟨(h.cell hz1).trans (hX 0 _ rfl), (h.cell hz1).trans (hX 1 _ rfl), (h.cell hz1).trans (hX 2 _ rfl), (h.cell hz1).trans (hX 14 _ rfl), (h.cell hz1).trans (hX 15 _ rfl)⟩)
  have HR1 := Lib.hid (fun (w' : World) (h : Below W1.heap.size W1 w') => rrest_1 kd nm ns e a g lo hi bd el s N w' (HN.out w' h) (HOK.out w' h))
  have HR2 := Lib.hid (fun (w' : World) (h : Below W1.heap.size W1 w') => rrest_2 kd nm ns e a g lo hi bd el s N w' (HN.out w' h) (HOK.out w' h))
  have HR3 := Lib.hid (fun (w' : World) (h : Below W1.heap.size W1 w') => rrest_3 kd nm ns e a g lo hi bd el s N w' (HN.out w' h) (HOK.out w' h))
  have HR4 := Lib.hid (fun (w' : World) (h : Below W1.heap.size W1 w') => rrest_4 kd nm ns e a g lo hi bd el s N w' (HN.out w' h) (HOK.out w' h))
  have HR5 := Lib.hid (fun (w' : World) (h : Below W1.heap.size W1 w') => rrest_5 kd nm ns e a g lo hi bd el s N w' (HN.out w' h) (HOK.out w' h))
  have HR6 := Lib.hid (fun (w' : World) (h : Below W1.heap.size W1 w') => rrest_6 kd nm ns e a g lo hi bd el s N w' (HN.out w' h) (HOK.out w' h))
  have HNs := Lib.hid (fun (w' : World) (h : Below W1.heap.size W1 w') => rNms_any ns s.pn s.cn N w' (HN.out w' h) (HOK.out w' h).1.2)
  have HBd := Lib.hid (fun (w' : World) (h : Below W1.heap.size W1 w') => ih bd (by omega) s.pb s.cb N w' (HN.out w' h) (HOK.out w' h).2.2.2.2.1)
  have HEl := Lib.hid (fun (w' : World) (h : Below W1.heap.size W1 w') => ih el (by omega) s.pl s.cl N w' (HN.out w' h) (HOK.out w' h).2.2.2.2.2.1)
  unfold St.val at HEX HR1 HR2 HR3 HR4 HR5 HR6 ⊢
  rw [hA1] at HEX HR1 HR2 HR3 HR4 HR5 HR6 ⊢
  obtain ⟨R, hR⟩ : ∃ R, (St.mk kd nm ns e a g lo hi bd el).mayR = R := ⟨_, rfl⟩
  rw [hR]
  simp only [St.mayR, restK] at hR
  rw [hXe] at hR
  have HR := Lib.hid hR
  have es : (str nm).toList.isEmpty = nm.isEmpty := by rw [Lib.toList_data, str_data]
  have HBw := Lib.hid (Below.refl W1.heap.size W1)
  clear hB1 hX hx ih hN hA1 hXe hR hz1 hk1
  generalize nameB nm = zn at *
  generalize namesB ns = zs at *
  generalize bd.may = zb at *
  generalize el.may = zl at *
  generalize restR true false true false false false false nm ns e a g lo hi bd el = r1 at *
  generalize restR true false true true false false false nm ns e a g lo hi bd el = r2 at *
  generalize restR false false true false false true true nm ns e a g lo hi bd el = r3 at *
  generalize restR false false true false false true false nm ns e a g lo hi bd el = r4 at *
  generalize restR true false false false true true false nm ns e a g lo hi bd el = r5 at *
  generalize restR true true false false false false false nm ns e a g lo hi bd el = r6 at *
  go_enter Tryz.func149, Tryz.ntmps149
  go_wp2_with (refine wpl_load rfl 54 _ rfl w.heap.size 0 rfl A1 _ (HF.out _ HBw.out) Tryz.underlying54 rfl HI1.out ?_)
  refine (HEX.out _ HBw.out).mono ?_
  rintro z w2 ⟨pq, cq, rfl, hin, hB2⟩
  have HIn := Lib.hid hin
  have hmX := hin.1
  replace HBw := Lib.hid (HBw.out.trans (hB2.mono HBw.out.size))
  clear hB2 hin
  go_wp2_with fail
  go_loopw [4] (fun i wr => ∃ (k : Nat) (r : Exs), i = .int .i64 k ∧ k + r.len = X.len ∧ Hid (∀ b o, pq = some ⟨b, o, none⟩ → X.At w2 w2.heap.size b o → r.At w2 w2.heap.size b (o + k * 4)) ∧ Hid (X.may = r.may) ∧ Hid (Below w2.heap.size w2 wr)) (fun i _ => X.len - (intOf i).toNat)
  case atStart => exact ⟨0, X, rfl, by omega, Lib.hid fun b o _ h => by rw [Nat.zero_mul]; exact h, Lib.hid rfl, Lib.hid (Below.refl _ _)⟩
  case round =>
    obtain ⟨k, r, rfl, hk, hat, hE, hB⟩ := hrel
    cases r with
    | cons y r =>
      simp only [Exs.len] at hk
      have hlt : k < X.len := by omega
      rcases HIn.out.2 with h30 | ⟨b, o, rfl, hb, ha⟩
      · omega
      obtain ⟨hx, hr⟩ := hat.out b o rfl ha
      obtain ⟨pe, ce, d0, d1, d2, d3, oky⟩ := (Ex.At.later hB.out (Nat.le_refl _) y b _ hb hx).open
      have HR' := Lib.hid hr
      have HM := Lib.hid (rmayExpr_any y pe ce w2.heap.size wr oky hB.out.size)
      unfold Ex.val at HM
      have HE := Lib.hid (show X.may = (y.may && r.may) by rw [hE.out]; rfl)
      generalize y.may = zy at *
      clear hx hr ha hE oky
      go_wp2_with fail
      refine HM.out.mono ?_
      rintro z w3 ⟨rfl, hB3⟩
      have HB3 := Lib.hid (hB.out.trans (hB3.mono hB.out.size))
      clear hB3 d0 d1 d2 d3
      cases zy
      · go_wp2_with fail
        go_ret
        exact ⟨ret_bool (by rw [← HR.out, HE.out]; simp), HB.out.trans ((HBw.out.trans (HB3.out.mono HBw.out.size)).mono HB.out.size)⟩
      · go_wp2_with fail
        go_roundw
        case rel => exact ⟨k + 1, r, by go_num, by omega, Lib.hid fun b' o' e _ => by cases e; rw [show o + (k + 1) * 4 = o + k * 4 + 4 by omega]; exact HR'.out, Lib.hid (by rw [HE.out]; rfl), HB3⟩
        case measure => simp [intOf]; omega
    | nil =>
      simp only [Exs.len] at hk
      have hge : ¬ k < X.len := by omega
      have hXm : X.may = true := by rw [hE.out]; rfl
      rw [hXm, Bool.true_and] at HR
      replace HBw := Lib.hid (HBw.out.trans (hB.out.mono HBw.out.size))
      obtain ⟨c0, c1, c2, c14, c15⟩ := HX.out _ HBw.out
      clear hE hat hXm
      go_upto_region 7 with fail

      cases hn : nm.isEmpty
      · rw [hn] at es HR
        have e0 : ¬ (str nm).toList = [] := by intro h; rw [h] at es; cases es
        go_wp2_with fail
        refine (HNm.out _).mono ?_
        rintro z w3 ⟨rfl, hB3⟩
        replace HBw := Lib.hid (HBw.out.trans (hB3.mono HBw.out.size))
        clear hB3 c0 c1 c2 c14 c15
        obtain ⟨c0, c1, c2, c14, c15⟩ := HX.out _ HBw.out
        cases zn
        · skip
          go_wp2_with fail
          go_ret
          exact ⟨ret_bool (by rw [← HR.out]; simp [*]), HB.out.trans (HBw.out.mono HB.out.size)⟩
        cases zs
        · go_wp2_with fail
          refine (HNs.out _ HBw.out).mono ?_
          rintro z w4 ⟨rfl, hB3⟩
          replace HBw := Lib.hid (HBw.out.trans (hB3.mono HBw.out.size))
          clear hB3 c0 c1 c2 c14 c15
          obtain ⟨c0, c1, c2, c14, c15⟩ := HX.out _ HBw.out
          go_wp2_with fail
          go_ret
          exact ⟨ret_bool (by rw [← HR.out]; simp [*]), HB.out.trans (HBw.out.mono HB.out.size)⟩
        cases zb
        · go_wp2_with fail
          refine (HNs.out _ HBw.out).mono ?_
          rintro z w4 ⟨rfl, hB3⟩
          replace HBw := Lib.hid (HBw.out.trans (hB3.mono HBw.out.size))
          clear hB3 c0 c1 c2 c14 c15
          obtain ⟨c0, c1, c2, c14, c15⟩ := HX.out _ HBw.out
          go_wp2_with fail
          refine (HBd.out _ HBw.out).mono ?_
          rintro z w5 ⟨rfl, hB3⟩
          replace HBw := Lib.hid (HBw.out.trans (hB3.mono HBw.out.size))
          clear hB3 c0 c1 c2 c14 c15
          obtain ⟨c0, c1, c2, c14, c15⟩ := HX.out _ HBw.out
          go_wp2_with fail
          go_ret
          exact ⟨ret_bool (by rw [← HR.out]; simp [*]), HB.out.trans (HBw.out.mono HB.out.size)⟩
        go_wp2_with fail
        refine (HNs.out _ HBw.out).mono ?_
        rintro z w4 ⟨rfl, hB3⟩
        replace HBw := Lib.hid (HBw.out.trans (hB3.mono HBw.out.size))
        clear hB3 c0 c1 c2 c14 c15
        obtain ⟨c0, c1, c2, c14, c15⟩ := HX.out _ HBw.out
        go_wp2_with fail
        refine (HBd.out _ HBw.out).mono ?_
        rintro z w5 ⟨rfl, hB3⟩
        replace HBw := Lib.hid (HBw.out.trans (hB3.mono HBw.out.size))
        clear hB3 c0 c1 c2 c14 c15
        obtain ⟨c0, c1, c2, c14, c15⟩ := HX.out _ HBw.out
        go_wp2_with fail
        refine (HEl.out _ HBw.out).mono ?_
        rintro z w6 ⟨rfl, hB3⟩
        replace HBw := Lib.hid (HBw.out.trans (hB3.mono HBw.out.size))
        clear hB3 c0 c1 c2 c14 c15
        obtain ⟨c0, c1, c2, c14, c15⟩ := HX.out _ HBw.out
        cases zl
        · skip
          go_wp2_with fail
          go_ret
          exact ⟨ret_bool (by rw [← HR.out]; simp [*]), HB.out.trans (HBw.out.mono HB.out.size)⟩
        by_cases h1 : kd = 1
        · subst h1
          go_wp2_with (refine wpl_load rfl 54 _ rfl w.heap.size 0 rfl A1 _ (HF.out _ HBw.out) Tryz.underlying54 rfl HI1.out ?_)
          refine (HR1.out _ HBw.out).mono ?_
          rintro z w7 ⟨rfl, hB3⟩
          replace HBw := Lib.hid (HBw.out.trans (hB3.mono HBw.out.size))
          clear hB3 c0 c1 c2 c14 c15
          obtain ⟨c0, c1, c2, c14, c15⟩ := HX.out _ HBw.out
          go_wp2_with fail
          go_ret
          exact ⟨ret_bool (by rw [← HR.out]; simp), HB.out.trans (HBw.out.mono HB.out.size)⟩
        have f1 : (kd == 1) = false := by simp; exact h1
        by_cases h2 : kd = 2
        · subst h2
          go_wp2_with (refine wpl_load rfl 54 _ rfl w.heap.size 0 rfl A1 _ (HF.out _ HBw.out) Tryz.underlying54 rfl HI1.out ?_)
          refine (HR2.out _ HBw.out).mono ?_
          rintro z w7 ⟨rfl, hB3⟩
          replace HBw := Lib.hid (HBw.out.trans (hB3.mono HBw.out.size))
          clear hB3 c0 c1 c2 c14 c15
          obtain ⟨c0, c1, c2, c14, c15⟩ := HX.out _ HBw.out
          go_wp2_with fail
          go_ret
          exact ⟨ret_bool (by rw [← HR.out]; simp), HB.out.trans (HBw.out.mono HB.out.size)⟩
        have f2 : (kd == 2) = false := by simp; exact h2
        by_cases h3 : kd = 3
        · subst h3
          go_wp2_with (refine wpl_load rfl 54 _ rfl w.heap.size 0 rfl A1 _ (HF.out _ HBw.out) Tryz.underlying54 rfl HI1.out ?_)
          refine (HR3.out _ HBw.out).mono ?_
          rintro z w7 ⟨rfl, hB3⟩
          replace HBw := Lib.hid (HBw.out.trans (hB3.mono HBw.out.size))
          clear hB3 c0 c1 c2 c14 c15
          obtain ⟨c0, c1, c2, c14, c15⟩ := HX.out _ HBw.out
          go_wp2_with fail
          go_ret
          exact ⟨ret_bool (by rw [← HR.out]; simp), HB.out.trans (HBw.out.mono HB.out.size)⟩
        have f3 : (kd == 3) = false := by simp; exact h3
        by_cases h4 : kd = 4
        · subst h4
          go_wp2_with (refine wpl_load rfl 54 _ rfl w.heap.size 0 rfl A1 _ (HF.out _ HBw.out) Tryz.underlying54 rfl HI1.out ?_)
          refine (HR4.out _ HBw.out).mono ?_
          rintro z w7 ⟨rfl, hB3⟩
          replace HBw := Lib.hid (HBw.out.trans (hB3.mono HBw.out.size))
          clear hB3 c0 c1 c2 c14 c15
          obtain ⟨c0, c1, c2, c14, c15⟩ := HX.out _ HBw.out
          go_wp2_with fail
          go_ret
          exact ⟨ret_bool (by rw [← HR.out]; simp), HB.out.trans (HBw.out.mono HB.out.size)⟩
        have f4 : (kd == 4) = false := by simp; exact h4
        by_cases h5 : kd = 5
        · subst h5
          go_wp2_with (refine wpl_load rfl 54 _ rfl w.heap.size 0 rfl A1 _ (HF.out _ HBw.out) Tryz.underlying54 rfl HI1.out ?_)
          refine (HR5.out _ HBw.out).mono ?_
          rintro z w7 ⟨rfl, hB3⟩
          replace HBw := Lib.hid (HBw.out.trans (hB3.mono HBw.out.size))
          clear hB3 c0 c1 c2 c14 c15
          obtain ⟨c0, c1, c2, c14, c15⟩ := HX.out _ HBw.out
          go_wp2_with fail
          go_ret
          exact ⟨ret_bool (by rw [← HR.out]; simp), HB.out.trans (HBw.out.mono HB.out.size)⟩
        have f5 : (kd == 5) = false := by simp; exact h5
        by_cases h6 : kd = 6
        · subst h6
          go_wp2_with (refine wpl_load rfl 54 _ rfl w.heap.size 0 rfl A1 _ (HF.out _ HBw.out) Tryz.underlying54 rfl HI1.out ?_)
          refine (HR6.out _ HBw.out).mono ?_
          rintro z w7 ⟨rfl, hB3⟩
          replace HBw := Lib.hid (HBw.out.trans (hB3.mono HBw.out.size))
          clear hB3 c0 c1 c2 c14 c15
          obtain ⟨c0, c1, c2, c14, c15⟩ := HX.out _ HBw.out
          go_wp2_with fail
          go_ret
          exact ⟨ret_bool (by rw [← HR.out]; simp), HB.out.trans (HBw.out.mono HB.out.size)⟩
        have f6 : (kd == 6) = false := by simp; exact h6
        go_wp2_with fail
        go_ret
        exact ⟨ret_bool (by rw [← HR.out]; simp [h1, h2, h3, h4, h5, h6]), HB.out.trans (HBw.out.mono HB.out.size)⟩
      · rw [hn] at es HR
        have e0 : (str nm).toList = [] := by simpa using es
        cases zs
        · go_wp2_with fail
          refine (HNs.out _ HBw.out).mono ?_
          rintro z w4 ⟨rfl, hB3⟩
          replace HBw := Lib.hid (HBw.out.trans (hB3.mono HBw.out.size))
          clear hB3 c0 c1 c2 c14 c15
          obtain ⟨c0, c1, c2, c14, c15⟩ := HX.out _ HBw.out
          go_wp2_with fail
          go_ret
          exact ⟨ret_bool (by rw [← HR.out]; simp [*]), HB.out.trans (HBw.out.mono HB.out.size)⟩
        cases zb
        · go_wp2_with fail
          refine (HNs.out _ HBw.out).mono ?_
          rintro z w4 ⟨rfl, hB3⟩
          replace HBw := Lib.hid (HBw.out.trans (hB3.mono HBw.out.size))
          clear hB3 c0 c1 c2 c14 c15
          obtain ⟨c0, c1, c2, c14, c15⟩ := HX.out _ HBw.out
          go_wp2_with fail
          refine (HBd.out _ HBw.out).mono ?_
          rintro z w5 ⟨rfl, hB3⟩
          replace HBw := Lib.hid (HBw.out.trans (hB3.mono HBw.out.size))
          clear hB3 c0 c1 c2 c14 c15
          obtain ⟨c0, c1, c2, c14, c15⟩ := HX.out _ HBw.out
          go_wp2_with fail
          go_ret
          exact ⟨ret_bool (by rw [← HR.out]; simp [*]), HB.out.trans (HBw.out.mono HB.out.size)⟩
        go_wp2_with fail
        refine (HNs.out _ HBw.out).mono ?_
        rintro z w4 ⟨rfl, hB3⟩
        replace HBw := Lib.hid (HBw.out.trans (hB3.mono HBw.out.size))
        clear hB3 c0 c1 c2 c14 c15
        obtain ⟨c0, c1, c2, c14, c15⟩ := HX.out _ HBw.out
        go_wp2_with fail
        refine (HBd.out _ HBw.out).mono ?_
        rintro z w5 ⟨rfl, hB3⟩
        replace HBw := Lib.hid (HBw.out.trans (hB3.mono HBw.out.size))
        clear hB3 c0 c1 c2 c14 c15
        obtain ⟨c0, c1, c2, c14, c15⟩ := HX.out _ HBw.out
        go_wp2_with fail
        refine (HEl.out _ HBw.out).mono ?_
        rintro z w6 ⟨rfl, hB3⟩
        replace HBw := Lib.hid (HBw.out.trans (hB3.mono HBw.out.size))
        clear hB3 c0 c1 c2 c14 c15
        obtain ⟨c0, c1, c2, c14, c15⟩ := HX.out _ HBw.out
        cases zl
        · skip
          go_wp2_with fail
          go_ret
          exact ⟨ret_bool (by rw [← HR.out]; simp [*]), HB.out.trans (HBw.out.mono HB.out.size)⟩
        by_cases h1 : kd = 1
        · subst h1
          go_wp2_with (refine wpl_load rfl 54 _ rfl w.heap.size 0 rfl A1 _ (HF.out _ HBw.out) Tryz.underlying54 rfl HI1.out ?_)
          refine (HR1.out _ HBw.out).mono ?_
          rintro z w7 ⟨rfl, hB3⟩
          replace HBw := Lib.hid (HBw.out.trans (hB3.mono HBw.out.size))
          clear hB3 c0 c1 c2 c14 c15
          obtain ⟨c0, c1, c2, c14, c15⟩ := HX.out _ HBw.out
          go_wp2_with fail
          go_ret
          exact ⟨ret_bool (by rw [← HR.out]; simp), HB.out.trans (HBw.out.mono HB.out.size)⟩
        have f1 : (kd == 1) = false := by simp; exact h1
        by_cases h2 : kd = 2
        · subst h2
          go_wp2_with (refine wpl_load rfl 54 _ rfl w.heap.size 0 rfl A1 _ (HF.out _ HBw.out) Tryz.underlying54 rfl HI1.out ?_)
          refine (HR2.out _ HBw.out).mono ?_
          rintro z w7 ⟨rfl, hB3⟩
          replace HBw := Lib.hid (HBw.out.trans (hB3.mono HBw.out.size))
          clear hB3 c0 c1 c2 c14 c15
          obtain ⟨c0, c1, c2, c14, c15⟩ := HX.out _ HBw.out
          go_wp2_with fail
          go_ret
          exact ⟨ret_bool (by rw [← HR.out]; simp), HB.out.trans (HBw.out.mono HB.out.size)⟩
        have f2 : (kd == 2) = false := by simp; exact h2
        by_cases h3 : kd = 3
        · subst h3
          go_wp2_with (refine wpl_load rfl 54 _ rfl w.heap.size 0 rfl A1 _ (HF.out _ HBw.out) Tryz.underlying54 rfl HI1.out ?_)
          refine (HR3.out _ HBw.out).mono ?_
          rintro z w7 ⟨rfl, hB3⟩
          replace HBw := Lib.hid (HBw.out.trans (hB3.mono HBw.out.size))
          clear hB3 c0 c1 c2 c14 c15
          obtain ⟨c0, c1, c2, c14, c15⟩ := HX.out _ HBw.out
          go_wp2_with fail
          go_ret
          exact ⟨ret_bool (by rw [← HR.out]; simp), HB.out.trans (HBw.out.mono HB.out.size)⟩
        have f3 : (kd == 3) = false := by simp; exact h3
        by_cases h4 : kd = 4
        · subst h4
          go_wp2_with (refine wpl_load rfl 54 _ rfl w.heap.size 0 rfl A1 _ (HF.out _ HBw.out) Tryz.underlying54 rfl HI1.out ?_)
          refine (HR4.out _ HBw.out).mono ?_
          rintro z w7 ⟨rfl, hB3⟩
          replace HBw := Lib.hid (HBw.out.trans (hB3.mono HBw.out.size))
          clear hB3 c0 c1 c2 c14 c15
          obtain ⟨c0, c1, c2, c14, c15⟩ := HX.out _ HBw.out
          go_wp2_with fail
          go_ret
          exact ⟨ret_bool (by rw [← HR.out]; simp), HB.out.trans (HBw.out.mono HB.out.size)⟩
        have f4 : (kd == 4) = false := by simp; exact h4
        by_cases h5 : kd = 5
        · subst h5
          go_wp2_with (refine wpl_load rfl 54 _ rfl w.heap.size 0 rfl A1 _ (HF.out _ HBw.out) Tryz.underlying54 rfl HI1.out ?_)
          refine (HR5.out _ HBw.out).mono ?_
          rintro z w7 ⟨rfl, hB3⟩
          replace HBw := Lib.hid (HBw.out.trans (hB3.mono HBw.out.size))
          clear hB3 c0 c1 c2 c14 c15
          obtain ⟨c0, c1, c2, c14, c15⟩ := HX.out _ HBw.out
          go_wp2_with fail
          go_ret
          exact ⟨ret_bool (by rw [← HR.out]; simp), HB.out.trans (HBw.out.mono HB.out.size)⟩
        have f5 : (kd == 5) = false := by simp; exact h5
        by_cases h6 : kd = 6
        · subst h6
          go_wp2_with (refine wpl_load rfl 54 _ rfl w.heap.size 0 rfl A1 _ (HF.out _ HBw.out) Tryz.underlying54 rfl HI1.out ?_)
          refine (HR6.out _ HBw.out).mono ?_
          rintro z w7 ⟨rfl, hB3⟩
          replace HBw := Lib.hid (HBw.out.trans (hB3.mono HBw.out.size))
          clear hB3 c0 c1 c2 c14 c15
          obtain ⟨c0, c1, c2, c14, c15⟩ := HX.out _ HBw.out
          go_wp2_with fail
          go_ret
          exact ⟨ret_bool (by rw [← HR.out]; simp), HB.out.trans (HBw.out.mono HB.out.size)⟩
        have f6 : (kd == 6) = false := by simp; exact h6
        go_wp2_with fail
        go_ret
        exact ⟨ret_bool (by rw [← HR.out]; simp [h1, h2, h3, h4, h5, h6]), HB.out.trans (HBw.out.mono HB.out.size)⟩
end Go.Proofs.YtlhbledakddbbaaGreatDoor
/- The document's mayStmts, MayStmts. -/
namespace Go.Proofs.YtlhbledakddbbaaGreatDoor
open Go.RowKit

set_option maxHeartbeats 3200000 in
theorem rms_of (n : Nat) (ih : ∀ x : St, x.size ≤ n → ∀ (s : StP) (N : Nat) (w : World), N ≤ w.heap.size → x.Ok w N s →
    Calls Tryz.prog 149 #[x.val s] w fun z w' => z = .returned (.bool x.may) ∧ Below w.heap.size w w') : RMS n := by
  intro l hsz p cl N w hN h1
  have S1 := Lib.hid h1
  have IH := Lib.hid ih
  have hm1 := h1.1
  have HNN := Lib.hid hN
  clear h1 ih hN
  go_enter Tryz.func135, Tryz.ntmps135
  go_wp2_with fail
  go_loopw [3] (fun i wr => ∃ (k : Nat) (r : Sts), i = .int .i64 k ∧ k + r.len = l.len ∧ r.size ≤ n ∧ Hid (∀ b o, p = some ⟨b, o, none⟩ → l.At w N b o → r.At w N b (o + k * 16)) ∧ Hid (l.may = r.may) ∧ Hid (Below w.heap.size w wr)) (fun i _ => l.len - (intOf i).toNat)
  case atStart => exact ⟨0, l, rfl, by omega, hsz, Lib.hid fun b o _ h => by rw [Nat.zero_mul]; exact h, Lib.hid rfl, Lib.hid (Below.refl _ _)⟩
  case round =>
    obtain ⟨k, r, rfl, hk, hrs, hat, hE, hB⟩ := hrel
    cases r with
    | nil =>
      simp only [Sts.len] at hk
      have hge : ¬ k < l.len := by omega
      go_wp2_with fail
      go_ret
      exact ⟨ret_bool (by rw [hE.out]; rfl), hB.out⟩
    | cons x r =>
      simp only [Sts.len] at hk
      simp only [Sts.size] at hrs
      have hlt : k < l.len := by omega
      rcases S1.out.2 with h30 | ⟨b, o, rfl, hb, ha⟩
      · omega
      obtain ⟨hx, hr⟩ := hat.out b o rfl ha
      have HR := Lib.hid hr
      obtain ⟨s, c1, ok1⟩ := St.At.openP (St.At.later (hB.out.mono HNN.out) (Nat.le_trans HNN.out hB.out.size) x b _ hb hx)
      obtain ⟨A1, hA1⟩ : ∃ A1, x.cells s = A1 := ⟨_, rfl⟩
      have HZ1 := Lib.hid (show A1.size = 16 by rw [← hA1]; rfl)
      have F1 := Lib.hid (show wr.rangeAt b (o + k * 16) A1.toList from fun j z hz => c1 j z (by rw [hA1, ← Array.getElem?_toList]; exact hz))
      have HI1 := Lib.hid (infoSt.trans (by rw [HZ1.out]) : (Tryz.prog.info? 54).map (·.size) = some A1.size)
      have HM := Lib.hid (IH.out x (by omega) s wr.heap.size wr (Nat.le_refl _) ok1)
      unfold St.val at HM
      rw [hA1] at HM
      have HE := Lib.hid (show l.may = (x.may && r.may) by rw [hE.out]; rfl)
      generalize x.may = zx at *
      clear hx hr ha hE c1 ok1 hA1
      go_wp2_with (refine wpl_load rfl 54 _ rfl b (o + k * 16) rfl A1 _ F1.out Tryz.underlying54 rfl HI1.out ?_)
      refine HM.out.mono ?_
      rintro z w3 ⟨rfl, hB3⟩
      have HB3 := Lib.hid (hB.out.trans (hB3.mono hB.out.size))
      clear hB3
      cases zx
      · go_wp2_with fail
        go_ret
        exact ⟨ret_bool (by rw [HE.out]; simp), HB3.out⟩
      · go_wp2_with fail
        go_roundw
        case rel => exact ⟨k + 1, r, by go_num, by omega, by omega, Lib.hid fun b' o' e _ => by cases e; rw [show o + (k + 1) * 16 = o + k * 16 + 16 by omega]; exact HR.out, Lib.hid (by rw [HE.out]; rfl), HB3⟩
        case measure => simp [intOf]; omega
theorem rms_to : ∀ n, RMS n
  | 0 => rms_of 0 fun x hx => by cases x; simp [St.size] at hx
  | n + 1 => rms_of (n + 1) fun x hx s N w hN hx' => rmayStmt_step n (rms_to n) x hx s N w hN hx'
theorem rmayStmts_any (l : Sts) (p : Option Addr) (c N : Nat) (w : World) (hN : N ≤ w.heap.size) (h : l.In w N p) :
    Calls Tryz.prog 135 #[.slice p l.len c] w fun z w' => z = .returned (.bool l.may) ∧ Below w.heap.size w w' :=
  rms_to _ l (Nat.le_refl _) p c N w hN h
theorem rMayStmts_any (l : Sts) (h6 : l.wt ≤ 1000000) (p : Option Addr) (c N : Nat) (w : World) (hN : N ≤ w.heap.size) (h : l.In w N p) :
    Calls Tryz.prog 100 #[.slice p l.len c] w fun z w' => z = .returned (.bool l.can) ∧ Below w.heap.size w w' := by
  have HD := Lib.hid (rDeep_any l h6 p c N w h hN)
  have HM := Lib.hid (fun (w1 : World) (hB : Below w.heap.size w w1) => rmayStmts_any l p c N w1 (Nat.le_trans hN hB.size) (h.later (hB.mono hN) (Nat.le_refl N)))
  have hd := Sts.deep_le l
  unfold Sts.can
  generalize l.may = zm at *
  clear h
  go_enter Tryz.func100, Tryz.ntmps100
  go_wp2_with fail
  refine HD.out.mono ?_
  rintro z w2 ⟨rfl, hB2⟩
  have HB2 := Lib.hid hB2
  clear hB2
  by_cases hd64 : l.deep ≤ 64
  · go_wp2_with fail
    refine (HM.out _ HB2.out).mono ?_
    rintro z w3 ⟨rfl, hB3⟩
    have HB3 := Lib.hid (HB2.out.trans (hB3.mono HB2.out.size))
    clear hB3
    go_wp2_with fail
    go_ret
    exact ⟨ret_bool (by simp [hd64]), HB3.out⟩
  · go_wp2_with fail
    go_ret
    exact ⟨ret_bool (by simp), HB2.out⟩
end Go.Proofs.YtlhbledakddbbaaGreatDoor
/- The document's mayFunc. -/
namespace Go.Proofs.YtlhbledakddbbaaGreatDoor
open Go.RowKit

set_option maxRecDepth 100000 in
set_option maxHeartbeats 6400000 in
theorem rmayFunc_any (f : Fnc) (hf6 : f.body.wt ≤ 1000000) (s : FncP) (N : Nat) (w : World) (hN : N ≤ w.heap.size) (h : f.Ok w N s) :
    Calls Tryz.prog 55 #[f.val s] w fun e w' => e = .returned (.bool f.may) ∧ Below w.heap.size w w' := by
  obtain ⟨nm, ps, vs, rs, bd⟩ := f
  obtain ⟨pp, pv, pr, pb, cp, cv, cr, cb⟩ := s
  have HNm := Lib.hid (fun w => rnm_any (str nm) w)
  rw [str_data] at HNm
  obtain ⟨W1, hW1⟩ : ∃ W1, w.alloc (.cells #[.string (str nm), .slice pp ps.length cp, .slice pv vs.length cv, .slice pr rs.length cr, .slice pb bd.len cb] 49 (0, 0)) = W1 := ⟨_, rfl⟩
  have hB1 : Below w.heap.size w W1 := by rw [← hW1]; exact (Below.refl w.heap.size w).alloc (Nat.le_refl _) _
  have hk1 : W1.heap[w.heap.size]? = some (.cells #[.string (str nm), .slice pp ps.length cp, .slice pv vs.length cv, .slice pr rs.length cr, .slice pb bd.len cb] 49 (0, 0)) := by rw [← hW1]; exact heap_alloc_new w _
  have HB := Lib.hid hB1
  have HX := Lib.hid (fun (w' : World) (h : Below W1.heap.size W1 w') => show w'.cell? ⟨w.heap.size, 0, none⟩ = some (.string (str nm)) ∧ w'.cell? ⟨w.heap.size, 1, none⟩ = some (.slice pp ps.length cp) ∧ w'.cell? ⟨w.heap.size, 2, none⟩ = some (.slice pv vs.length cv) ∧ w'.cell? ⟨w.heap.size, 3, none⟩ = some (.slice pr rs.length cr) ∧ w'.cell? ⟨w.heap.size, 4, none⟩ = some (.slice pb bd.len cb) from
    have hk := (h.block _ (lt_of_block hk1)).trans hk1
    ⟨cell_block hk rfl, cell_block hk rfl, cell_block hk rfl, cell_block hk rfl, cell_block hk rfl⟩)
  have HPs := Lib.hid (show ∀ w', Below W1.heap.size W1 w' → RowIn N (Vr.At w') 4 ps pp from fun w' hw => h.1.imp (Nat.le_refl N) (Vr.At.later ((hB1.trans (hw.mono hB1.size)).mono hN)))
  have HVs := Lib.hid (show ∀ w', Below W1.heap.size W1 w' → RowIn N (Vr.At w') 4 vs pv from fun w' hw => h.2.1.imp (Nat.le_refl N) (Vr.At.later ((hB1.trans (hw.mono hB1.size)).mono hN)))
  have HRs := Lib.hid (fun (w' : World) (hw : Below W1.heap.size W1 w') => rNms_any rs pr cr N w' (Nat.le_trans (Nat.le_trans hN hB1.size) hw.size) (h.2.2.1.2.imp (Nat.le_refl N) (StrAt.later ((hB1.trans (hw.mono hB1.size)).mono hN))))
  have HBd := Lib.hid (fun (w' : World) (hw : Below W1.heap.size W1 w') => rMayStmts_any bd hf6 pb cb N w' (Nat.le_trans (Nat.le_trans hN hB1.size) hw.size) (h.2.2.2.later ((hB1.trans (hw.mono hB1.size)).mono hN) (Nat.le_refl N)))
  have hmP := h.1.1
  have hmV := h.2.1.1
  have HNN := Lib.hid (show N ≤ W1.heap.size from Nat.le_trans hN hB1.size)
  obtain ⟨R, hR⟩ : ∃ R, (Fnc.mk nm ps vs rs bd).may = R := ⟨_, rfl⟩
  rw [hR]
  simp only [Fnc.may] at hR
  have HR := Lib.hid hR
  unfold Fnc.val Fnc.cells
  simp only []
  obtain ⟨c0, c1, c2, c3, c4⟩ := HX.out W1 (Below.refl _ _)
  clear hB1 h hk1 hR hN
  generalize nameB nm = z1 at *
  generalize namesB rs = z4 at *
  generalize bd.can = z5 at *
  go_enter Tryz.func55, Tryz.ntmps55
  go_wp2_with fail
  go_loopw [3] (fun i wr => ∃ (k : Nat) (r : List Vr), i = .int .i64 k ∧ k + r.length = ps.length ∧ Hid (∀ b o, pp = some ⟨b, o, none⟩ → ∀ w', Row (Vr.At w') 4 ps b o → Row (Vr.At w') 4 r b (o + k * 4)) ∧ Hid (ps.all Vr.mayP = r.all Vr.mayP) ∧ Hid (Below W1.heap.size W1 wr)) (fun i _ => ps.length - (intOf i).toNat)
  case atStart => exact ⟨0, ps, rfl, by omega, Lib.hid fun b o _ w' h => by rw [Nat.zero_mul]; exact h, Lib.hid rfl, Lib.hid (Below.refl _ _)⟩
  case round =>
    obtain ⟨k, r, rfl, hk, hat, hE, hBw⟩ := hrel
    clear c0 c1 c2 c3 c4
    obtain ⟨c0, c1, c2, c3, c4⟩ := HX.out _ hBw.out
    cases r with
    | cons v r =>
      simp only [List.length_cons] at hk
      have hlt : k < ps.length := by omega
      rcases (HPs.out _ hBw.out).2 with h30 | ⟨b, o, rfl, hb, ha⟩
      · omega
      obtain ⟨hx, hr⟩ := hat.out b o rfl _ ha
      have HAT := Lib.hid (fun (b' o' : Nat) (e : (some ⟨b, o, none⟩ : Option Addr) = some ⟨b', o', none⟩) (w' : World) (h : Row (Vr.At w') 4 ps b' o') => (hat.out b' o' e w' h).2)
      obtain ⟨x0, x1, x2, x3⟩ := hx
      have HM := Lib.hid (fun w => rmayVar_any v true w)
      unfold Vr.val at HM
      rw [show v.mayR true = v.mayP from rfl] at HM
      have HE := Lib.hid (show ps.all Vr.mayP = (v.mayP && r.all Vr.mayP) by rw [hE.out]; rfl)
      generalize v.mayP = zv at *
      clear hr ha hE hat
      go_wp2_with fail
      refine (HM.out _).mono ?_
      rintro z w3 ⟨rfl, hB3⟩
      have HB3 := Lib.hid (hBw.out.trans (hB3.mono hBw.out.size))
      clear hB3 x0 x1 x2 x3
      cases zv
      · go_wp2_with fail
        go_ret
        exact ⟨ret_bool (by rw [← HR.out, HE.out]; simp), HB.out.trans (HB3.out.mono HB.out.size)⟩
      · go_wp2_with fail
        go_roundw
        case rel => exact ⟨k + 1, r, by go_num, by omega, Lib.hid fun b' o' e w' h => by rw [show o' + (k + 1) * 4 = o' + k * 4 + 4 by omega]; exact HAT.out b' o' e w' h, Lib.hid (by rw [HE.out]; rfl), HB3⟩
        case measure => simp [intOf]; omega
    | nil =>
      simp only [List.length_nil] at hk
      obtain rfl : k = ps.length := by omega
      rw [hE.out] at HR
      simp only [List.all_nil, Bool.true_and] at HR
      clear hE hat hk
      go_wp2_with fail
      go_loopw [4] (fun i wr => ∃ (k : Nat) (r : List Vr), i = .int .i64 k ∧ k + r.length = vs.length ∧ Hid (∀ b o, pv = some ⟨b, o, none⟩ → ∀ w', Row (Vr.At w') 4 vs b o → Row (Vr.At w') 4 r b (o + k * 4)) ∧ Hid (vs.all Vr.may = r.all Vr.may) ∧ Hid (Below W1.heap.size W1 wr)) (fun i _ => vs.length - (intOf i).toNat)
      case atStart => exact ⟨0, vs, rfl, by omega, Lib.hid fun b o _ w' h => by rw [Nat.zero_mul]; exact h, Lib.hid rfl, hBw⟩
      case round =>
        obtain ⟨k, r, rfl, hk, hat, hE, hBw⟩ := hrel
        clear c0 c1 c2 c3 c4
        obtain ⟨c0, c1, c2, c3, c4⟩ := HX.out _ hBw.out
        cases r with
        | cons v r =>
          simp only [List.length_cons] at hk
          have hlt : k < vs.length := by omega
          rcases (HVs.out _ hBw.out).2 with h30 | ⟨b, o, rfl, hb, ha⟩
          · omega
          obtain ⟨hx, hr⟩ := hat.out b o rfl _ ha
          have HAT := Lib.hid (fun (b' o' : Nat) (e : (some ⟨b, o, none⟩ : Option Addr) = some ⟨b', o', none⟩) (w' : World) (h : Row (Vr.At w') 4 vs b' o') => (hat.out b' o' e w' h).2)
          obtain ⟨x0, x1, x2, x3⟩ := hx
          have HM := Lib.hid (fun w => rmayVar_any v false w)
          unfold Vr.val at HM
          rw [show v.mayR false = v.may from rfl] at HM
          have HE := Lib.hid (show vs.all Vr.may = (v.may && r.all Vr.may) by rw [hE.out]; rfl)
          generalize v.may = zv at *
          clear hr ha hE hat
          go_wp2_with fail
          refine (HM.out _).mono ?_
          rintro z w3 ⟨rfl, hB3⟩
          have HB3 := Lib.hid (hBw.out.trans (hB3.mono hBw.out.size))
          clear hB3 x0 x1 x2 x3
          cases zv
          · go_wp2_with fail
            go_ret
            exact ⟨ret_bool (by rw [← HR.out, HE.out]; simp), HB.out.trans (HB3.out.mono HB.out.size)⟩
          · go_wp2_with fail
            go_roundw
            case rel => exact ⟨k + 1, r, by go_num, by omega, Lib.hid fun b' o' e w' h => by rw [show o' + (k + 1) * 4 = o' + k * 4 + 4 by omega]; exact HAT.out b' o' e w' h, Lib.hid (by rw [HE.out]; rfl), HB3⟩
            case measure => simp [intOf]; omega
        | nil =>
          simp only [List.length_nil] at hk
          obtain rfl : k = vs.length := by omega
          rw [hE.out] at HR
          simp only [List.all_nil, Bool.true_and] at HR
          clear hE hat hk
          go_wp2_with fail
          refine (HNm.out _).mono ?_
          rintro z w3 ⟨rfl, hB3⟩
          have HB3 := Lib.hid (hBw.out.trans (hB3.mono hBw.out.size))
          clear hB3 c0 c1 c2 c3 c4
          obtain ⟨c0, c1, c2, c3, c4⟩ := HX.out _ HB3.out
          cases z1
          · go_wp2_with fail
            go_ret
            exact ⟨ret_bool (by rw [← HR.out]; simp), HB.out.trans (HB3.out.mono HB.out.size)⟩
          go_wp2_with fail
          refine (HRs.out _ HB3.out).mono ?_
          rintro z w4 ⟨rfl, hB4⟩
          have HB4 := Lib.hid (HB3.out.trans (hB4.mono HB3.out.size))
          clear hB4 c0 c1 c2 c3 c4
          obtain ⟨c0, c1, c2, c3, c4⟩ := HX.out _ HB4.out
          cases z4
          · go_wp2_with fail
            go_ret
            exact ⟨ret_bool (by rw [← HR.out]; simp), HB.out.trans (HB4.out.mono HB.out.size)⟩
          go_wp2_with fail
          refine (HBd.out _ HB4.out).mono ?_
          rintro z w5 ⟨rfl, hB5⟩
          have HB5 := Lib.hid (HB4.out.trans (hB5.mono HB4.out.size))
          clear hB5
          go_wp2_with fail
          go_ret
          exact ⟨ret_bool (by rw [← HR.out]; simp), HB.out.trans (HB5.out.mono HB.out.size)⟩
end Go.Proofs.YtlhbledakddbbaaGreatDoor
/- The document's May. -/
namespace Go.Proofs.YtlhbledakddbbaaGreatDoor
open Go.RowKit

set_option maxRecDepth 100000 in
set_option maxHeartbeats 6400000 in
theorem rmay_any (x : Prg) (h6 : ∀ f ∈ x.fns, f.body.wt ≤ 1000000) (p q : Option Addr) (c d N : Nat) (w : World) (hN : N ≤ w.heap.size) (h : x.Ok w N p q) :
    Calls Tryz.prog 19 #[x.val p q c d] w fun e w' => e = .returned (.bool x.may) ∧ Below w.heap.size w w' := by
  obtain ⟨rs, fs⟩ := x
  simp only [] at h6
  obtain ⟨W1, hW1⟩ : ∃ W1, w.alloc (.cells #[.slice p rs.length c, .slice q fs.length d] 39 (0, 0)) = W1 := ⟨_, rfl⟩
  have hB1 : Below w.heap.size w W1 := by rw [← hW1]; exact (Below.refl w.heap.size w).alloc (Nat.le_refl _) _
  have hk1 : W1.heap[w.heap.size]? = some (.cells #[.slice p rs.length c, .slice q fs.length d] 39 (0, 0)) := by rw [← hW1]; exact heap_alloc_new w _
  have HB := Lib.hid hB1
  have HX := Lib.hid (fun (w' : World) (h : Below W1.heap.size W1 w') => show w'.cell? ⟨w.heap.size, 0, none⟩ = some (.slice p rs.length c) ∧ w'.cell? ⟨w.heap.size, 1, none⟩ = some (.slice q fs.length d) from
    have hk := (h.block _ (lt_of_block hk1)).trans hk1
    ⟨cell_block hk rfl, cell_block hk rfl⟩)
  have HRs := Lib.hid (show ∀ w', Below W1.heap.size W1 w' → RowIn N (Rgn.At w') 4 rs p from fun w' hw => h.1.imp (Nat.le_refl N) (Rgn.At.later ((hB1.trans (hw.mono hB1.size)).mono hN)))
  have HFs := Lib.hid (show ∀ w', Below W1.heap.size W1 w' → RowIn N (Fnc.At w' N) 5 fs q from fun w' hw => h.2.imp (Nat.le_refl N) (Fnc.At.later ((hB1.trans (hw.mono hB1.size)).mono hN) (Nat.le_refl N)))
  have hmR := h.1.1
  have hmF := h.2.1
  have HNN := Lib.hid (show N ≤ W1.heap.size from Nat.le_trans hN hB1.size)
  have HNm := Lib.hid (fun (s : List UInt8) w => rnm_any (str s) w)
  simp only [str_data] at HNm
  have H6 := Lib.hid h6
  obtain ⟨R, hR⟩ : ∃ R, (Prg.mk rs fs).may = R := ⟨_, rfl⟩
  rw [hR]
  simp only [Prg.may] at hR
  have HR := Lib.hid hR
  unfold Prg.val
  simp only []
  obtain ⟨c0, c1⟩ := HX.out W1 (Below.refl _ _)
  clear hB1 h hk1 hR hN h6
  go_enter Tryz.func19, Tryz.ntmps19
  go_wp2_with fail
  go_loopw [3] (fun i wr => ∃ (k : Nat) (r : List Rgn), i = .int .i64 k ∧ k + r.length = rs.length ∧ Hid (∀ b o, p = some ⟨b, o, none⟩ → ∀ w', Row (Rgn.At w') 4 rs b o → Row (Rgn.At w') 4 r b (o + k * 4)) ∧ Hid (rs.all Rgn.may = r.all Rgn.may) ∧ Hid (Below W1.heap.size W1 wr)) (fun i _ => rs.length - (intOf i).toNat)
  case atStart => exact ⟨0, rs, rfl, by omega, Lib.hid fun b o _ w' h => by rw [Nat.zero_mul]; exact h, Lib.hid rfl, Lib.hid (Below.refl _ _)⟩
  case round =>
    obtain ⟨k, r, rfl, hk, hat, hE, hBw⟩ := hrel
    clear c0 c1
    obtain ⟨c0, c1⟩ := HX.out _ hBw.out
    cases r with
    | cons v r =>
      simp only [List.length_cons] at hk
      have hlt : k < rs.length := by omega
      rcases (HRs.out _ hBw.out).2 with h30 | ⟨b, o, rfl, hb, ha⟩
      · omega
      obtain ⟨hx, hr⟩ := hat.out b o rfl _ ha
      have HAT := Lib.hid (fun (b' o' : Nat) (e : (some ⟨b, o, none⟩ : Option Addr) = some ⟨b', o', none⟩) (w' : World) (h : Row (Rgn.At w') 4 rs b' o') => (hat.out b' o' e w' h).2)
      obtain ⟨x0, x1, x2, x3⟩ := hx
      obtain ⟨nm, ad, sz, sc⟩ := v
      simp only [] at x0 x1 x2 x3
      have HE := Lib.hid (show rs.all Rgn.may = ((nameB nm && (decide (0 ≤ ad) && decide (0 ≤ sz))) && r.all Rgn.may) by rw [hE.out]; rfl)
      replace HNm := Lib.hid (HNm.out nm)
      generalize nameB nm = zv at *
      have HK := Lib.hid (heap_alloc_new wr (.cells #[.string (str nm), .int .i64 ad, .int .i64 sz, .bool sc] 77 (0, 0)))
      have HBa := Lib.hid (hBw.out.alloc hBw.out.size (.cells #[.string (str nm), .int .i64 ad, .int .i64 sz, .bool sc] 77 (0, 0)))
      clear hr ha hE hat
      go_wp2_with fail
      refine (HNm.out _).mono ?_
      rintro z w3 ⟨rfl, hB3⟩
      have hk3 := (hB3.block _ (lt_of_block HK.out)).trans HK.out
      have HB3 := Lib.hid (HBa.out.trans (hB3.mono HBa.out.size))
      have y1 := cell_block hk3 (j := 1) (v := .int .i64 ad) rfl
      have y2 := cell_block hk3 (j := 2) (v := .int .i64 sz) rfl
      clear hB3 x0 x1 x2 x3 hk3 HK HBa
      cases zv
      · go_wp2_with fail
        go_ret
        exact ⟨ret_bool (by rw [← HR.out, HE.out]; simp), HB.out.trans (HB3.out.mono HB.out.size)⟩
      · by_cases h1 : ad < 0
        · go_wp2_with fail
          go_ret
          exact ⟨ret_bool (by rw [← HR.out, HE.out, decide_eq_false (show ¬ 0 ≤ ad by omega)]; simp), HB.out.trans (HB3.out.mono HB.out.size)⟩
        · by_cases h2 : sz < 0
          · go_wp2_with fail
            go_ret
            exact ⟨ret_bool (by rw [← HR.out, HE.out, decide_eq_false (show ¬ 0 ≤ sz by omega)]; simp), HB.out.trans (HB3.out.mono HB.out.size)⟩
          · go_wp2_with fail
            go_roundw
            case rel => exact ⟨k + 1, r, by go_num, by omega, Lib.hid fun b' o' e w' h => by rw [show o' + (k + 1) * 4 = o' + k * 4 + 4 by omega]; exact HAT.out b' o' e w' h, Lib.hid (by rw [HE.out, decide_eq_true (show 0 ≤ sz by omega), decide_eq_true (show 0 ≤ ad by omega)]; rfl), HB3⟩
            case measure => simp [intOf]; omega
    | nil =>
      simp only [List.length_nil] at hk
      obtain rfl : k = rs.length := by omega
      rw [hE.out] at HR
      simp only [List.all_nil, Bool.true_and] at HR
      clear hE hat hk
      go_wp2_with fail
      go_loopw [5] (fun i wr => ∃ (k : Nat) (r : List Fnc), i = .int .i64 k ∧ k + r.length = fs.length ∧ Hid (∀ f ∈ r, f ∈ fs) ∧ Hid (∀ b o, q = some ⟨b, o, none⟩ → ∀ w', Row (Fnc.At w' N) 5 fs b o → Row (Fnc.At w' N) 5 r b (o + k * 5)) ∧ Hid (fs.all Fnc.may = r.all Fnc.may) ∧ Hid (Below W1.heap.size W1 wr)) (fun i _ => fs.length - (intOf i).toNat)
      case atStart => exact ⟨0, fs, rfl, by omega, Lib.hid fun _ h => h, Lib.hid fun b o _ w' h => by rw [Nat.zero_mul]; exact h, Lib.hid rfl, hBw⟩
      case round =>
        obtain ⟨k, r, rfl, hk, hmem, hat, hE, hBw⟩ := hrel
        clear c0 c1
        obtain ⟨c0, c1⟩ := HX.out _ hBw.out
        cases r with
        | cons v r =>
          simp only [List.length_cons] at hk
          have hlt : k < fs.length := by omega
          rcases (HFs.out _ hBw.out).2 with h30 | ⟨b, o, rfl, hb, ha⟩
          · omega
          obtain ⟨hx, hr⟩ := hat.out b o rfl _ ha
          have HAT := Lib.hid (fun (b' o' : Nat) (e : (some ⟨b, o, none⟩ : Option Addr) = some ⟨b', o', none⟩) (w' : World) (h : Row (Fnc.At w' N) 5 fs b' o') => (hat.out b' o' e w' h).2)
          have HMM := Lib.hid (fun (f : Fnc) (hf : f ∈ r) => hmem.out f (List.mem_cons_of_mem _ hf))
          obtain ⟨s, hc, hok⟩ := Fnc.At.open hx
          have x0 := hc 0 _ rfl
          have x1 := hc 1 _ rfl
          have x2 := hc 2 _ rfl
          have x3 := hc 3 _ rfl
          have x4 := hc 4 _ rfl
          rw [Nat.add_zero] at x0
          have HM := Lib.hid (rmayFunc_any v (H6.out v (hmem.out v (List.mem_cons_self ..))) s N _ (Nat.le_trans HNN.out hBw.out.size) hok)
          unfold Fnc.val Fnc.cells at HM
          have HE := Lib.hid (show fs.all Fnc.may = (v.may && r.all Fnc.may) by rw [hE.out]; rfl)
          generalize v.may = zv at *
          clear hr ha hE hat hx hc hok hmem
          go_wp2_with fail
          refine HM.out.mono ?_
          rintro z w3 ⟨rfl, hB3⟩
          have HB3 := Lib.hid (hBw.out.trans (hB3.mono hBw.out.size))
          clear hB3 x0 x1 x2 x3 x4
          cases zv
          · go_wp2_with fail
            go_ret
            exact ⟨ret_bool (by rw [← HR.out, HE.out]; simp), HB.out.trans (HB3.out.mono HB.out.size)⟩
          · go_wp2_with fail
            go_roundw
            case rel => exact ⟨k + 1, r, by go_num, by omega, HMM, Lib.hid fun b' o' e w' h => by rw [show o' + (k + 1) * 5 = o' + k * 5 + 5 by omega]; exact HAT.out b' o' e w' h, Lib.hid (by rw [HE.out]; rfl), HB3⟩
            case measure => simp [intOf]; omega
        | nil =>
          simp only [List.length_nil] at hk
          obtain rfl : k = fs.length := by omega
          rw [hE.out] at HR
          clear hE hat hk
          go_wp2_with fail
          go_ret
          exact ⟨ret_bool (by rw [← HR.out]; simp), HB.out.trans (hBw.out.mono HB.out.size)⟩
end Go.Proofs.YtlhbledakddbbaaGreatDoor
/- Rows that are cloned: an append of what came in onto nothing. -/
namespace Go.Proofs.YtlhbledakddbbaaGreatDoor
open Go.RowKit

theorem add_of (b o j : Nat) : (⟨b, o, none⟩ : Addr).add j = ⟨b, o + j, none⟩ := by simp [Addr.add]
/-- a slice's cells, as append reads them -/
def Src (w : World) (size : Nat) (p : Option Addr) (m c : Nat) (news : List Value) : Prop :=
  news.length = m * size ∧ ((p = none ∧ m = 0 ∧ c = 0) ∨ ∃ ad, p = some ad ∧ ∀ j u, news[j]? = some u → w.cell? (ad.add j) = some u)

theorem own_cap {w : World} {base : Nat} {e : TypeId} {size n : Nat} {v : Value} {xs : List Value} (h : w.ownsRow base e size v n xs) : ∃ p c, v = .slice p n c ∧ n ≤ c ∧ c ≤ maxLen ∧ (p = none → n = 0 ∧ c = 0) ∧ (∀ ad, p = some ad → ∃ g, ad = ⟨g, 0, none⟩ ∧ base ≤ g ∧ g < w.heap.size ∧ (∀ o, w.frozen? ⟨g, o, none⟩ = false) ∧ ∀ j u, xs[j]? = some u → w.cell? ⟨g, j, none⟩ = some u) := by
  rcases h.2 with ⟨rfl, rfl⟩ | ⟨g, cap, cur, rfl, hb, hg, hnc, hcm, _⟩
  · exact ⟨none, 0, rfl, Nat.le_refl _, Nat.zero_le _, fun _ => ⟨rfl, rfl⟩, fun _ h => by cases h⟩
  · refine ⟨_, cap, rfl, hnc, hcm, (fun h => (by cases h)), fun ad had => ?_⟩
    cases had
    refine ⟨g, rfl, hb, (h.lt g rfl).2, fun o => by simp [World.frozen?, hg], fun j u hu => ?_⟩
    have := h.cells (g := g) rfl j u hu
    rw [add_of, Nat.zero_add] at this; exact this

theorem info_str1 : (Tryz.prog.info? 9).map (fun i => (i.zero, i.size, i.bytes)) = some (some (.string ByteArray.empty), 1, 16) := by kernel_rfl
end Go.Proofs.YtlhbledakddbbaaGreatDoor
