/- Two expressions are the same: the document's. -/
import Derived.Test.YtnghehcjklkoeaaPI
import Derived.Test.YtnghehcjklkoeaaF1
import Derived.Deep.RegionHeld
import Derived.Deep.RegionHeld3
import Derived.WalkMore
import Derived.Deep.CutBlock
import Derived.Deep.CutRange
namespace Go.Proofs.Ytnghehcjklkoeaa
open Go.RowKit

def RSE (n : Nat) : Prop := ∀ x y : Ex, x.size < n → ∀ (p q : Option Addr) (c d N : Nat) (w : World), x.Ok w N p → y.Ok w N q → N ≤ w.heap.size →
    Calls Try.prog 44 #[x.val p c, y.val q d] w fun e w' => e = .returned (.bool (eqB x y)) ∧ Below w.heap.size w w'
set_option maxRecDepth 100000 in
set_option maxHeartbeats 3200000 in
theorem rse_step (n : Nat) (ih : RSE n) : RSE (n + 1) := by
  intro x y hxs p q c d N w hx hy hN
  obtain ⟨op, wd, nm, ar⟩ := x
  obtain ⟨op', wd', nm', ar'⟩ := y
  simp only [Ex.size] at hxs
  obtain ⟨W0, hW0, k0, k1, hB0, hz0⟩ := two_alloc w (.cells #[.int .i64 op, .int .u64 (wd : Int), .string (str nm), .slice p ar.len c] 42) (.cells #[.int .i64 op', .int .u64 (wd' : Int), .string (str nm'), .slice q ar'.len d] 42)
  have HIH := Lib.hid (fun (y1 y2 : Ex) (g : y1 ∈ ar.toL) (s1 s2 : Option Addr × Nat) (w1 : World) (o1 : Ex.OkP w1 w1.heap.size y1 s1) (o2 : Ex.OkP w1 w1.heap.size y2 s2) => ih y1 y2 (by have := Exs.toL_size g; omega) s1.1 s2.1 s1.2 s2.2 w1.heap.size w1 o1 o2 (Nat.le_refl _))
  have S1 := Lib.hid (show RowIn N (Ex.At w N) 4 ar.toL p from Exs.rowIn hx.1)
  have S2 := Lib.hid (show RowIn N (Ex.At w N) 4 ar'.toL q from Exs.rowIn hy.1)
  have hm1 : ar.len ≤ 140737488355328 := hx.1.1
  have hm2 : ar'.len ≤ 140737488355328 := hy.1.1
  have HU := Lib.hid (fun (W : World) (hB : Below W0.heap.size W0 W) => show Below w.heap.size w W from hB0.trans (hB.mono (by omega)))
  have HB := Lib.hid hB0
  have HX := Lib.hid (fun (W : World) (hB : Below W0.heap.size W0 W) => show W.cell? ⟨w.heap.size, 3, none⟩ = some (.slice p ar.len c) ∧ W.cell? ⟨w.heap.size + 1, 3, none⟩ = some (.slice q ar'.len d) from
    ⟨cell_blk ((hB.block _ (lt_blk k0)).trans k0) rfl, cell_blk ((hB.block _ (lt_blk k1)).trans k1) rfl⟩)
  have z0 : W0.cell? ⟨w.heap.size, 0, none⟩ = some (.int .i64 op) := cell_blk k0 rfl
  have z1 : W0.cell? ⟨w.heap.size, 1, none⟩ = some (.int .u64 (wd : Int)) := cell_blk k0 rfl
  have z2 : W0.cell? ⟨w.heap.size, 2, none⟩ = some (.string (str nm)) := cell_blk k0 rfl
  have z3 : W0.cell? ⟨w.heap.size, 3, none⟩ = some (.slice p ar.len c) := cell_blk k0 rfl
  have u0 : W0.cell? ⟨w.heap.size + 1, 0, none⟩ = some (.int .i64 op') := cell_blk k1 rfl
  have u1 : W0.cell? ⟨w.heap.size + 1, 1, none⟩ = some (.int .u64 (wd' : Int)) := cell_blk k1 rfl
  have u2 : W0.cell? ⟨w.heap.size + 1, 2, none⟩ = some (.string (str nm')) := cell_blk k1 rfl
  have u3 : W0.cell? ⟨w.heap.size + 1, 3, none⟩ = some (.slice q ar'.len d) := cell_blk k1 rfl
  have HNN := Lib.hid hN
  show Calls _ _ #[.agg #[.int .i64 op, .int .u64 (wd : Int), .string (str nm), .slice p ar.len c], .agg #[.int .i64 op', .int .u64 (wd' : Int), .string (str nm'), .slice q ar'.len d]] w _
  clear hx hy ih k0 k1 hB0 hz0 hN hxs
  by_cases h1 : op = op'
  · by_cases h2 : wd = wd'
    · by_cases h3 : nm = nm'
      · by_cases hl : ar.len = ar'.len
        · have HL := Lib.hid hl
          subst h1; subst h2; subst h3
          have HV := Lib.hid (show eqB ar ar' = eqB (Ex.mk op wd nm ar) (Ex.mk op wd nm ar') from eqB_iff ⟨fun h => by rw [h], fun h => by injection h⟩)
          have e1 := str_beq_eq nm
          have hl' : ((ar.len : Int) != (ar'.len : Int)) = false := by simp [hl]
          obtain ⟨v, hv⟩ : ∃ v, v = eqB ar ar' := ⟨_, rfl⟩
          rw [← hv] at HV
          have Hv := Lib.hid hv
          rw [← HV.out]
          clear hl hv HV
          go_enter Try.func44, Try.ntmps44
          go_wp2_with fail
          clear z0 z1 z2 z3 u0 u1 u2 u3 e1 hl'
          have HL1 := Lib.hid (Exs.toL_len ar)
          have HL2 := Lib.hid (Exs.toL_len ar')
          go_loopw [5] (fun i wr => ∃ (ds rs rs' : List Ex), i = .int .i64 ds.length ∧ Hid (ar.toL = ds ++ rs) ∧ Hid (ar'.toL = ds ++ rs') ∧ ds.length + rs.length = ar.len ∧ rs'.length = rs.length ∧ Hid (Below W0.heap.size W0 wr)) (fun i _ => ar.len - (intOf i).toNat)
          case atStart => exact ⟨[], ar.toL, ar'.toL, rfl, Lib.hid rfl, Lib.hid rfl, by have := HL1.out; simp; omega, by have := HL1.out; have := HL2.out; have := HL.out; omega, Lib.hid (Below.refl _ _)⟩
          case round =>
            obtain ⟨ds, rs, rs', rfl, E1, E2, hd1, hd2, hB⟩ := hrel
            obtain ⟨x3, y3⟩ := HX.out _ hB.out
            cases rs with
            | nil =>
              cases rs' with
              | cons _ _ => simp at hd2
              | nil =>
                simp only [List.length_nil] at hd1
                have hge : ¬ ds.length < ar.len := by omega
                have EQ := Lib.hid (show v = true from by rw [Hv.out]; exact (eqB_true (Exs.toL_inj (by rw [E1.out, E2.out]))).symm)
                have HE := Lib.hid (HU.out _ hB.out)
                go_wp2_with fail
                go_ret
                exact ⟨by rw [EQ.out]; rfl, HE.out⟩
            | cons y1 rs =>
              cases rs' with
              | nil => simp at hd2
              | cons y2 rs' =>
                simp only [List.length_cons] at hd1 hd2
                have hlt1 : ds.length < ar.len := by omega
                have hlt2 : ds.length < ar'.len := by have := HL.out; omega
                have HUB := Lib.hid (HU.out _ hB.out)
                rcases S1.out.2 with h30 | ⟨b1, o1, rfl, hb1, ha1⟩
                · have := HL1.out; omega
                rcases S2.out.2 with h30 | ⟨b2, o2, rfl, hb2, ha2⟩
                · have := HL2.out; omega
                rw [E1.out] at ha1
                rw [E2.out] at ha2
                obtain ⟨s1, c1, ok1⟩ := Ex.At.openP (Ex.At.later (HUB.out.mono HNN.out) (Nat.le_trans HNN.out HUB.out.size) y1 b1 _ hb1 (Row.drop _ _ _ ha1).1)
                obtain ⟨s2, c2, ok2⟩ := Ex.At.openP (Ex.At.later (HUB.out.mono HNN.out) (Nat.le_trans HNN.out HUB.out.size) y2 b2 _ hb2 (Row.drop _ _ _ ha2).1)
                have HC := Lib.hid (fun (w1 : World) (hb : Below wr.heap.size wr w1) => HIH.out y1 y2 (by rw [E1.out]; simp) s1 s2 w1 (Ex.OkP.later ok1 hb hb.size) (Ex.OkP.later ok2 hb hb.size))
                have EQ := Lib.hid (show (eqB y1 y2 = true → y1 = y2) ∧ (eqB y1 y2 = false → v = false) from ⟨eqB_of_true, fun h => by
                    rw [Hv.out]
                    refine (eqB_false fun e => ?_).symm
                    have e := congrArg Exs.toL e
                    rw [E1.out, E2.out] at e
                    have := List.append_cancel_left e
                    injection this with e6 _
                    exact eqB_of_false h e6⟩)
                have g0 : wr.cell? ⟨b1, o1 + ds.length * 4, none⟩ = some (.int .i64 y1.op) := c1 0 _ rfl
                have m0 : wr.cell? ⟨b2, o2 + ds.length * 4, none⟩ = some (.int .i64 y2.op) := c2 0 _ rfl
                have g1 : wr.cell? ⟨b1, o1 + ds.length * 4 + 1, none⟩ = some (.int .u64 (y1.word : Int)) := c1 1 _ rfl
                have m1 : wr.cell? ⟨b2, o2 + ds.length * 4 + 1, none⟩ = some (.int .u64 (y2.word : Int)) := c2 1 _ rfl
                have g2 : wr.cell? ⟨b1, o1 + ds.length * 4 + 2, none⟩ = some (.string (str y1.name)) := c1 2 _ rfl
                have m2 : wr.cell? ⟨b2, o2 + ds.length * 4 + 2, none⟩ = some (.string (str y2.name)) := c2 2 _ rfl
                have g3 : wr.cell? ⟨b1, o1 + ds.length * 4 + 3, none⟩ = some (.slice s1.1 y1.args.len s1.2) := c1 3 _ rfl
                have m3 : wr.cell? ⟨b2, o2 + ds.length * 4 + 3, none⟩ = some (.slice s2.1 y2.args.len s2.2) := c2 3 _ rfl
                clear c1 c2 ok1 ok2 ha1 ha2
                unfold Ex.val at HC
                generalize eqB y1 y2 = v' at HC EQ
                have HD := Lib.hid (Below.refl wr.heap.size wr).drew
                cases v' with
                | true =>
                  have hy := Lib.hid (EQ.out.1 rfl)
                  clear EQ
                  go_wp2_with fail
                  go_still_tail 10, (by kernel_rfl)
                  change wpList _ _ _ _ _ (World.drew _)
                  go_wp2_with (go_at_call 44; refine (HC.out _ HD.out).mono ?_; rintro e w' ⟨rfl, hB1⟩)
                  go_roundw
                  case rel => exact ⟨ds ++ [y1], rs, rs', by rw [List.length_append]; go_num, Lib.hid (by rw [E1.out]; simp), Lib.hid (by rw [E2.out, hy.out]; simp), by simp; omega, by omega, Lib.hid (hB.out.trans ((HD.out.trans hB1).mono hB.out.size))⟩
                  case measure => simp [intOf]; omega
                | false =>
                  have hy := Lib.hid (EQ.out.2 rfl)
                  clear EQ
                  go_wp2_with fail
                  go_still_tail 10, (by kernel_rfl)
                  change wpList _ _ _ _ _ (World.drew _)
                  go_wp2_with (go_at_call 44; refine (HC.out _ HD.out).mono ?_; rintro e w' ⟨rfl, hB1⟩)
                  go_ret
                  exact ⟨by rw [hy.out]; rfl, HU.out _ (hB.out.trans ((HD.out.trans hB1).mono hB.out.size))⟩
        · have HV := Lib.hid (eqB_false (show ¬ Ex.mk op wd nm ar = Ex.mk op' wd' nm' ar' from fun h => hl (by injection h with _ _ _ h; rw [h])))
          have e1 := str_beq_eq nm
          have hl' : ((ar.len : Int) != (ar'.len : Int)) = true := by simp [bne]; omega
          subst h1; subst h2; subst h3
          go_enter Try.func44, Try.ntmps44
          go_wp2_with fail
          go_ret
          exact ⟨ret_bool HV.out, HB.out⟩
      · have HV := Lib.hid (eqB_false (show ¬ Ex.mk op wd nm ar = Ex.mk op' wd' nm' ar' from fun h => h3 (by injection h)))
        have e1 := str_beq_ne h3
        subst h1; subst h2
        go_enter Try.func44, Try.ntmps44
        go_wp2_with fail
        go_ret
        exact ⟨ret_bool HV.out, HB.out⟩
    · have HV := Lib.hid (eqB_false (show ¬ Ex.mk op wd nm ar = Ex.mk op' wd' nm' ar' from fun h => h2 (by injection h)))
      subst h1
      go_enter Try.func44, Try.ntmps44
      go_wp2_with fail
      go_ret
      exact ⟨ret_bool HV.out, HB.out⟩
  · have HV := Lib.hid (eqB_false (show ¬ Ex.mk op wd nm ar = Ex.mk op' wd' nm' ar' from fun h => h1 (by injection h)))
    go_enter Try.func44, Try.ntmps44
    go_wp2_with fail
    go_ret
    exact ⟨ret_bool HV.out, HB.out⟩
theorem rse_to : ∀ n, RSE n
  | 0 => fun _ _ h => absurd h (Nat.not_lt_zero _)
  | n + 1 => rse_step n (rse_to n)
theorem rse_any (x y : Ex) (p q : Option Addr) (c d N : Nat) (w : World) (hx : x.Ok w N p) (hy : y.Ok w N q) (hN : N ≤ w.heap.size) :
    Calls Try.prog 44 #[x.val p c, y.val q d] w fun e w' => e = .returned (.bool (eqB x y)) ∧ Below w.heap.size w w' :=
  rse_to _ x y (Nat.lt_succ_self _) p q c d N w hx hy hN
end Go.Proofs.Ytnghehcjklkoeaa
