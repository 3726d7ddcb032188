/- Two statements are the same: the program. -/
import Derived.Test.YtnghehcjklkoeaaPI
namespace Go.Proofs.Ytnghehcjklkoeaa
open Go.RowKit

set_option maxRecDepth 100000 in
set_option maxHeartbeats 6400000 in
theorem pss_step (n : Nat) (ih : PSS n) : PSS (n + 1) := by
  intro x y hxs s t N w hx hy hN
  obtain ⟨kd, nm, ns, e, a, g, lo, hi, bd, el⟩ := x
  obtain ⟨kd', nm', ns', e', a', g', lo', hi', bd', el'⟩ := y
  simp only [St.size] at hxs
  obtain ⟨w0, hw0⟩ : ∃ w0, ((w.alloc (Obj.cells #[.int .i64 kd, .string (str nm), .slice s.pn ns.length s.cn, .int .i64 e.op, .int .u64 (e.word : Int), .string (str e.name), .slice s.pe e.args.len s.ce, .int .i64 a.op, .int .u64 (a.word : Int), .string (str a.name), .slice s.pa a.args.len s.ca, .slice s.pg g.len s.cg, .int .u64 (lo : Int), .int .u64 (hi : Int), .slice s.pb bd.len s.cb, .slice s.pl el.len s.cl] 49)).alloc (Obj.cells #[.int .i64 kd', .string (str nm'), .slice t.pn ns'.length t.cn, .int .i64 e'.op, .int .u64 (e'.word : Int), .string (str e'.name), .slice t.pe e'.args.len t.ce, .int .i64 a'.op, .int .u64 (a'.word : Int), .string (str a'.name), .slice t.pa a'.args.len t.ca, .slice t.pg g'.len t.cg, .int .u64 (lo' : Int), .int .u64 (hi' : Int), .slice t.pb bd'.len t.cb, .slice t.pl el'.len t.cl] 49)) = w0 := ⟨_, rfl⟩
  have HB0' := (((Below.refl _ w).alloc (Nat.le_refl _) (Obj.cells #[.int .i64 kd, .string (str nm), .slice s.pn ns.length s.cn, .int .i64 e.op, .int .u64 (e.word : Int), .string (str e.name), .slice s.pe e.args.len s.ce, .int .i64 a.op, .int .u64 (a.word : Int), .string (str a.name), .slice s.pa a.args.len s.ca, .slice s.pg g.len s.cg, .int .u64 (lo : Int), .int .u64 (hi : Int), .slice s.pb bd.len s.cb, .slice s.pl el.len s.cl] 49)).alloc (by simp) (Obj.cells #[.int .i64 kd', .string (str nm'), .slice t.pn ns'.length t.cn, .int .i64 e'.op, .int .u64 (e'.word : Int), .string (str e'.name), .slice t.pe e'.args.len t.ce, .int .i64 a'.op, .int .u64 (a'.word : Int), .string (str a'.name), .slice t.pa a'.args.len t.ca, .slice t.pg g'.len t.cg, .int .u64 (lo' : Int), .int .u64 (hi' : Int), .slice t.pb bd'.len t.cb, .slice t.pl el'.len t.cl] 49))
  have HX := Lib.hid (fun w1 hb => cells_later (w0 := w0) (w1 := w1) (b := w.heap.size) (A := #[.int .i64 kd, .string (str nm), .slice s.pn ns.length s.cn, .int .i64 e.op, .int .u64 (e.word : Int), .string (str e.name), .slice s.pe e.args.len s.ce, .int .i64 a.op, .int .u64 (a.word : Int), .string (str a.name), .slice s.pa a.args.len s.ca, .slice s.pg g.len s.cg, .int .u64 (lo : Int), .int .u64 (hi : Int), .slice s.pb bd.len s.cb, .slice s.pl el.len s.cl]) (t := 49) (by rw [← hw0, heap_alloc_old _ _ (by simp)]; exact heap_alloc_new w _) hb)
  have HY := Lib.hid (fun w1 hb => cells_later (w0 := w0) (w1 := w1) (b := w.heap.size + 1) (A := #[.int .i64 kd', .string (str nm'), .slice t.pn ns'.length t.cn, .int .i64 e'.op, .int .u64 (e'.word : Int), .string (str e'.name), .slice t.pe e'.args.len t.ce, .int .i64 a'.op, .int .u64 (a'.word : Int), .string (str a'.name), .slice t.pa a'.args.len t.ca, .slice t.pg g'.len t.cg, .int .u64 (lo' : Int), .int .u64 (hi' : Int), .slice t.pb bd'.len t.cb, .slice t.pl el'.len t.cl]) (t := 49) (by rw [← hw0]; have := heap_alloc_new (w.alloc (Obj.cells #[.int .i64 kd, .string (str nm), .slice s.pn ns.length s.cn, .int .i64 e.op, .int .u64 (e.word : Int), .string (str e.name), .slice s.pe e.args.len s.ce, .int .i64 a.op, .int .u64 (a.word : Int), .string (str a.name), .slice s.pa a.args.len s.ca, .slice s.pg g.len s.cg, .int .u64 (lo : Int), .int .u64 (hi : Int), .slice s.pb bd.len s.cb, .slice s.pl el.len s.cl] 49)) (Obj.cells #[.int .i64 kd', .string (str nm'), .slice t.pn ns'.length t.cn, .int .i64 e'.op, .int .u64 (e'.word : Int), .string (str e'.name), .slice t.pe e'.args.len t.ce, .int .i64 a'.op, .int .u64 (a'.word : Int), .string (str a'.name), .slice t.pa a'.args.len t.ca, .slice t.pg g'.len t.cg, .int .u64 (lo' : Int), .int .u64 (hi' : Int), .slice t.pb bd'.len t.cb, .slice t.pl el'.len t.cl] 49); simpa using this) hb)
  have Hns := Lib.hid (fun (w1 : World) (hb : Below w.heap.size w w1) => eqStr_any ns ns' s.pn t.pn s.cn t.cn N w1 (hx.1.2.imp (Nat.le_refl _) (StrAt.later (hb.mono hN))) (hy.1.2.imp (Nat.le_refl _) (StrAt.later (hb.mono hN))) (Nat.le_trans hN hb.size))
  have He := Lib.hid (fun (w1 : World) (hb : Below w.heap.size w w1) => pse_any e e' s.pe t.pe s.ce t.ce N w1 (hx.2.1.later (hb.mono hN) (Nat.le_refl _)) (hy.2.1.later (hb.mono hN) (Nat.le_refl _)) (Nat.le_trans hN hb.size))
  have Ha := Lib.hid (fun (w1 : World) (hb : Below w.heap.size w w1) => pse_any a a' s.pa t.pa s.ca t.ca N w1 (hx.2.2.1.later (hb.mono hN) (Nat.le_refl _)) (hy.2.2.1.later (hb.mono hN) (Nat.le_refl _)) (Nat.le_trans hN hb.size))
  have Hg := Lib.hid (fun (w1 : World) (hb : Below w.heap.size w w1) => pse_list g g' s.pg t.pg s.cg t.cg N w1 (Exs.In.later hx.2.2.2.1 (hb.mono hN) (Nat.le_refl _)) (Exs.In.later hy.2.2.2.1 (hb.mono hN) (Nat.le_refl _)) (Nat.le_trans hN hb.size))
  have Hbd := Lib.hid (fun (w1 : World) (hb : Below w.heap.size w w1) => pss_args n ih bd bd' (by omega) s.pb t.pb s.cb t.cb N w1 (Sts.In.later hx.2.2.2.2.1 (hb.mono hN) (Nat.le_refl _)) (Sts.In.later hy.2.2.2.2.1 (hb.mono hN) (Nat.le_refl _)) (Nat.le_trans hN hb.size))
  have Hel := Lib.hid (fun (w1 : World) (hb : Below w.heap.size w w1) => pss_args n ih el el' (by omega) s.pl t.pl s.cl t.cl N w1 (Sts.In.later hx.2.2.2.2.2.1 (hb.mono hN) (Nat.le_refl _)) (Sts.In.later hy.2.2.2.2.2.1 (hb.mono hN) (Nat.le_refl _)) (Nat.le_trans hN hb.size))
  rw [hw0] at HB0'
  have HB0 := Lib.hid HB0'
  clear HB0' hx hy ih
  unfold Ex.val at He Ha
  show Calls _ _ #[.agg #[.int .i64 kd, .string (str nm), .slice s.pn ns.length s.cn, .int .i64 e.op, .int .u64 (e.word : Int), .string (str e.name), .slice s.pe e.args.len s.ce, .int .i64 a.op, .int .u64 (a.word : Int), .string (str a.name), .slice s.pa a.args.len s.ca, .slice s.pg g.len s.cg, .int .u64 (lo : Int), .int .u64 (hi : Int), .slice s.pb bd.len s.cb, .slice s.pl el.len s.cl], .agg #[.int .i64 kd', .string (str nm'), .slice t.pn ns'.length t.cn, .int .i64 e'.op, .int .u64 (e'.word : Int), .string (str e'.name), .slice t.pe e'.args.len t.ce, .int .i64 a'.op, .int .u64 (a'.word : Int), .string (str a'.name), .slice t.pa a'.args.len t.ca, .slice t.pg g'.len t.cg, .int .u64 (lo' : Int), .int .u64 (hi' : Int), .slice t.pb bd'.len t.cb, .slice t.pl el'.len t.cl]] w _
  rw [← hw0] at HB0
  subst hw0
  by_cases hvkd : kd = kd'
  · have Ekd := Lib.hid hvkd
    skip
    subst hvkd
    by_cases hvnm : nm = nm'
    · have Enm := Lib.hid hvnm
      have Tnm := str_beq_eq nm
      subst hvnm
      cases hvns : eqB ns ns' with
      | false =>
        have Fns := Lib.hid (eqB_of_false hvns)
        have HV := Lib.hid (eqB_false (show ¬ St.mk kd nm ns e a g lo hi bd el = St.mk kd nm ns' e' a' g' lo' hi' bd' el' from fun h => Fns.out (by injection h)))
        rw [hvns] at Hns
        clear hvns
        go_enter Try.func43, Try.ntmps43
        go_wp2_with fail
        refine (Hns.out _ HB0.out).mono ?_
        rintro z w1 ⟨rfl, hB⟩
        have HB1 := Lib.hid (HB0.out.trans (hB.mono HB0.out.size))
        have HD1 := Lib.hid hB
        clear hB
        go_wp2_with fail
        go_ret
        exact ⟨ret_bool HV.out, HB1.out⟩
      | true =>
        have Ens := Lib.hid (eqB_of_true hvns)
        rw [hvns] at Hns
        clear hvns
        cases hve : eqB e e' with
        | false =>
          have Fe := Lib.hid (eqB_of_false hve)
          have HV := Lib.hid (eqB_false (show ¬ St.mk kd nm ns e a g lo hi bd el = St.mk kd nm ns' e' a' g' lo' hi' bd' el' from fun h => Fe.out (by injection h)))
          rw [hve] at He
          clear hve
          go_enter Try.func43, Try.ntmps43
          go_wp2_with fail
          refine (Hns.out _ HB0.out).mono ?_
          rintro z w1 ⟨rfl, hB⟩
          have HB1 := Lib.hid (HB0.out.trans (hB.mono HB0.out.size))
          have HD1 := Lib.hid hB
          clear hB
          have gx1_3 : w1.cell? ⟨w.heap.size, 3, none⟩ = some (.int .i64 e.op) := HX.out _ HD1.out 3 _ rfl
          have gy1_3 : w1.cell? ⟨w.heap.size + 1, 3, none⟩ = some (.int .i64 e'.op) := HY.out _ HD1.out 3 _ rfl
          have gx1_4 : w1.cell? ⟨w.heap.size, 4, none⟩ = some (.int .u64 (e.word : Int)) := HX.out _ HD1.out 4 _ rfl
          have gy1_4 : w1.cell? ⟨w.heap.size + 1, 4, none⟩ = some (.int .u64 (e'.word : Int)) := HY.out _ HD1.out 4 _ rfl
          have gx1_5 : w1.cell? ⟨w.heap.size, 5, none⟩ = some (.string (str e.name)) := HX.out _ HD1.out 5 _ rfl
          have gy1_5 : w1.cell? ⟨w.heap.size + 1, 5, none⟩ = some (.string (str e'.name)) := HY.out _ HD1.out 5 _ rfl
          have gx1_6 : w1.cell? ⟨w.heap.size, 6, none⟩ = some (.slice s.pe e.args.len s.ce) := HX.out _ HD1.out 6 _ rfl
          have gy1_6 : w1.cell? ⟨w.heap.size + 1, 6, none⟩ = some (.slice t.pe e'.args.len t.ce) := HY.out _ HD1.out 6 _ rfl
          have gx1_7 : w1.cell? ⟨w.heap.size, 7, none⟩ = some (.int .i64 a.op) := HX.out _ HD1.out 7 _ rfl
          have gy1_7 : w1.cell? ⟨w.heap.size + 1, 7, none⟩ = some (.int .i64 a'.op) := HY.out _ HD1.out 7 _ rfl
          have gx1_8 : w1.cell? ⟨w.heap.size, 8, none⟩ = some (.int .u64 (a.word : Int)) := HX.out _ HD1.out 8 _ rfl
          have gy1_8 : w1.cell? ⟨w.heap.size + 1, 8, none⟩ = some (.int .u64 (a'.word : Int)) := HY.out _ HD1.out 8 _ rfl
          have gx1_9 : w1.cell? ⟨w.heap.size, 9, none⟩ = some (.string (str a.name)) := HX.out _ HD1.out 9 _ rfl
          have gy1_9 : w1.cell? ⟨w.heap.size + 1, 9, none⟩ = some (.string (str a'.name)) := HY.out _ HD1.out 9 _ rfl
          have gx1_10 : w1.cell? ⟨w.heap.size, 10, none⟩ = some (.slice s.pa a.args.len s.ca) := HX.out _ HD1.out 10 _ rfl
          have gy1_10 : w1.cell? ⟨w.heap.size + 1, 10, none⟩ = some (.slice t.pa a'.args.len t.ca) := HY.out _ HD1.out 10 _ rfl
          have gx1_11 : w1.cell? ⟨w.heap.size, 11, none⟩ = some (.slice s.pg g.len s.cg) := HX.out _ HD1.out 11 _ rfl
          have gy1_11 : w1.cell? ⟨w.heap.size + 1, 11, none⟩ = some (.slice t.pg g'.len t.cg) := HY.out _ HD1.out 11 _ rfl
          have gx1_12 : w1.cell? ⟨w.heap.size, 12, none⟩ = some (.int .u64 (lo : Int)) := HX.out _ HD1.out 12 _ rfl
          have gy1_12 : w1.cell? ⟨w.heap.size + 1, 12, none⟩ = some (.int .u64 (lo' : Int)) := HY.out _ HD1.out 12 _ rfl
          have gx1_13 : w1.cell? ⟨w.heap.size, 13, none⟩ = some (.int .u64 (hi : Int)) := HX.out _ HD1.out 13 _ rfl
          have gy1_13 : w1.cell? ⟨w.heap.size + 1, 13, none⟩ = some (.int .u64 (hi' : Int)) := HY.out _ HD1.out 13 _ rfl
          have gx1_14 : w1.cell? ⟨w.heap.size, 14, none⟩ = some (.slice s.pb bd.len s.cb) := HX.out _ HD1.out 14 _ rfl
          have gy1_14 : w1.cell? ⟨w.heap.size + 1, 14, none⟩ = some (.slice t.pb bd'.len t.cb) := HY.out _ HD1.out 14 _ rfl
          have gx1_15 : w1.cell? ⟨w.heap.size, 15, none⟩ = some (.slice s.pl el.len s.cl) := HX.out _ HD1.out 15 _ rfl
          have gy1_15 : w1.cell? ⟨w.heap.size + 1, 15, none⟩ = some (.slice t.pl el'.len t.cl) := HY.out _ HD1.out 15 _ rfl
          go_wp2_with fail
          refine (He.out _ HB1.out).mono ?_
          rintro z w2 ⟨rfl, hB⟩
          have HB2 := Lib.hid (HB1.out.trans (hB.mono HB1.out.size))
          have HD2 := Lib.hid (HD1.out.trans (hB.mono HD1.out.size))
          clear hB
          go_wp2_with fail
          go_ret
          exact ⟨ret_bool HV.out, HB2.out⟩
        | true =>
          have Ee := Lib.hid (eqB_of_true hve)
          rw [hve] at He
          clear hve
          cases hva : eqB a a' with
          | false =>
            have Fa := Lib.hid (eqB_of_false hva)
            have HV := Lib.hid (eqB_false (show ¬ St.mk kd nm ns e a g lo hi bd el = St.mk kd nm ns' e' a' g' lo' hi' bd' el' from fun h => Fa.out (by injection h)))
            rw [hva] at Ha
            clear hva
            go_enter Try.func43, Try.ntmps43
            go_wp2_with fail
            refine (Hns.out _ HB0.out).mono ?_
            rintro z w1 ⟨rfl, hB⟩
            have HB1 := Lib.hid (HB0.out.trans (hB.mono HB0.out.size))
            have HD1 := Lib.hid hB
            clear hB
            have gx1_3 : w1.cell? ⟨w.heap.size, 3, none⟩ = some (.int .i64 e.op) := HX.out _ HD1.out 3 _ rfl
            have gy1_3 : w1.cell? ⟨w.heap.size + 1, 3, none⟩ = some (.int .i64 e'.op) := HY.out _ HD1.out 3 _ rfl
            have gx1_4 : w1.cell? ⟨w.heap.size, 4, none⟩ = some (.int .u64 (e.word : Int)) := HX.out _ HD1.out 4 _ rfl
            have gy1_4 : w1.cell? ⟨w.heap.size + 1, 4, none⟩ = some (.int .u64 (e'.word : Int)) := HY.out _ HD1.out 4 _ rfl
            have gx1_5 : w1.cell? ⟨w.heap.size, 5, none⟩ = some (.string (str e.name)) := HX.out _ HD1.out 5 _ rfl
            have gy1_5 : w1.cell? ⟨w.heap.size + 1, 5, none⟩ = some (.string (str e'.name)) := HY.out _ HD1.out 5 _ rfl
            have gx1_6 : w1.cell? ⟨w.heap.size, 6, none⟩ = some (.slice s.pe e.args.len s.ce) := HX.out _ HD1.out 6 _ rfl
            have gy1_6 : w1.cell? ⟨w.heap.size + 1, 6, none⟩ = some (.slice t.pe e'.args.len t.ce) := HY.out _ HD1.out 6 _ rfl
            have gx1_7 : w1.cell? ⟨w.heap.size, 7, none⟩ = some (.int .i64 a.op) := HX.out _ HD1.out 7 _ rfl
            have gy1_7 : w1.cell? ⟨w.heap.size + 1, 7, none⟩ = some (.int .i64 a'.op) := HY.out _ HD1.out 7 _ rfl
            have gx1_8 : w1.cell? ⟨w.heap.size, 8, none⟩ = some (.int .u64 (a.word : Int)) := HX.out _ HD1.out 8 _ rfl
            have gy1_8 : w1.cell? ⟨w.heap.size + 1, 8, none⟩ = some (.int .u64 (a'.word : Int)) := HY.out _ HD1.out 8 _ rfl
            have gx1_9 : w1.cell? ⟨w.heap.size, 9, none⟩ = some (.string (str a.name)) := HX.out _ HD1.out 9 _ rfl
            have gy1_9 : w1.cell? ⟨w.heap.size + 1, 9, none⟩ = some (.string (str a'.name)) := HY.out _ HD1.out 9 _ rfl
            have gx1_10 : w1.cell? ⟨w.heap.size, 10, none⟩ = some (.slice s.pa a.args.len s.ca) := HX.out _ HD1.out 10 _ rfl
            have gy1_10 : w1.cell? ⟨w.heap.size + 1, 10, none⟩ = some (.slice t.pa a'.args.len t.ca) := HY.out _ HD1.out 10 _ rfl
            have gx1_11 : w1.cell? ⟨w.heap.size, 11, none⟩ = some (.slice s.pg g.len s.cg) := HX.out _ HD1.out 11 _ rfl
            have gy1_11 : w1.cell? ⟨w.heap.size + 1, 11, none⟩ = some (.slice t.pg g'.len t.cg) := HY.out _ HD1.out 11 _ rfl
            have gx1_12 : w1.cell? ⟨w.heap.size, 12, none⟩ = some (.int .u64 (lo : Int)) := HX.out _ HD1.out 12 _ rfl
            have gy1_12 : w1.cell? ⟨w.heap.size + 1, 12, none⟩ = some (.int .u64 (lo' : Int)) := HY.out _ HD1.out 12 _ rfl
            have gx1_13 : w1.cell? ⟨w.heap.size, 13, none⟩ = some (.int .u64 (hi : Int)) := HX.out _ HD1.out 13 _ rfl
            have gy1_13 : w1.cell? ⟨w.heap.size + 1, 13, none⟩ = some (.int .u64 (hi' : Int)) := HY.out _ HD1.out 13 _ rfl
            have gx1_14 : w1.cell? ⟨w.heap.size, 14, none⟩ = some (.slice s.pb bd.len s.cb) := HX.out _ HD1.out 14 _ rfl
            have gy1_14 : w1.cell? ⟨w.heap.size + 1, 14, none⟩ = some (.slice t.pb bd'.len t.cb) := HY.out _ HD1.out 14 _ rfl
            have gx1_15 : w1.cell? ⟨w.heap.size, 15, none⟩ = some (.slice s.pl el.len s.cl) := HX.out _ HD1.out 15 _ rfl
            have gy1_15 : w1.cell? ⟨w.heap.size + 1, 15, none⟩ = some (.slice t.pl el'.len t.cl) := HY.out _ HD1.out 15 _ rfl
            go_wp2_with fail
            refine (He.out _ HB1.out).mono ?_
            rintro z w2 ⟨rfl, hB⟩
            have HB2 := Lib.hid (HB1.out.trans (hB.mono HB1.out.size))
            have HD2 := Lib.hid (HD1.out.trans (hB.mono HD1.out.size))
            clear hB
            have gx2_7 : w2.cell? ⟨w.heap.size, 7, none⟩ = some (.int .i64 a.op) := HX.out _ HD2.out 7 _ rfl
            have gy2_7 : w2.cell? ⟨w.heap.size + 1, 7, none⟩ = some (.int .i64 a'.op) := HY.out _ HD2.out 7 _ rfl
            have gx2_8 : w2.cell? ⟨w.heap.size, 8, none⟩ = some (.int .u64 (a.word : Int)) := HX.out _ HD2.out 8 _ rfl
            have gy2_8 : w2.cell? ⟨w.heap.size + 1, 8, none⟩ = some (.int .u64 (a'.word : Int)) := HY.out _ HD2.out 8 _ rfl
            have gx2_9 : w2.cell? ⟨w.heap.size, 9, none⟩ = some (.string (str a.name)) := HX.out _ HD2.out 9 _ rfl
            have gy2_9 : w2.cell? ⟨w.heap.size + 1, 9, none⟩ = some (.string (str a'.name)) := HY.out _ HD2.out 9 _ rfl
            have gx2_10 : w2.cell? ⟨w.heap.size, 10, none⟩ = some (.slice s.pa a.args.len s.ca) := HX.out _ HD2.out 10 _ rfl
            have gy2_10 : w2.cell? ⟨w.heap.size + 1, 10, none⟩ = some (.slice t.pa a'.args.len t.ca) := HY.out _ HD2.out 10 _ rfl
            have gx2_11 : w2.cell? ⟨w.heap.size, 11, none⟩ = some (.slice s.pg g.len s.cg) := HX.out _ HD2.out 11 _ rfl
            have gy2_11 : w2.cell? ⟨w.heap.size + 1, 11, none⟩ = some (.slice t.pg g'.len t.cg) := HY.out _ HD2.out 11 _ rfl
            have gx2_12 : w2.cell? ⟨w.heap.size, 12, none⟩ = some (.int .u64 (lo : Int)) := HX.out _ HD2.out 12 _ rfl
            have gy2_12 : w2.cell? ⟨w.heap.size + 1, 12, none⟩ = some (.int .u64 (lo' : Int)) := HY.out _ HD2.out 12 _ rfl
            have gx2_13 : w2.cell? ⟨w.heap.size, 13, none⟩ = some (.int .u64 (hi : Int)) := HX.out _ HD2.out 13 _ rfl
            have gy2_13 : w2.cell? ⟨w.heap.size + 1, 13, none⟩ = some (.int .u64 (hi' : Int)) := HY.out _ HD2.out 13 _ rfl
            have gx2_14 : w2.cell? ⟨w.heap.size, 14, none⟩ = some (.slice s.pb bd.len s.cb) := HX.out _ HD2.out 14 _ rfl
            have gy2_14 : w2.cell? ⟨w.heap.size + 1, 14, none⟩ = some (.slice t.pb bd'.len t.cb) := HY.out _ HD2.out 14 _ rfl
            have gx2_15 : w2.cell? ⟨w.heap.size, 15, none⟩ = some (.slice s.pl el.len s.cl) := HX.out _ HD2.out 15 _ rfl
            have gy2_15 : w2.cell? ⟨w.heap.size + 1, 15, none⟩ = some (.slice t.pl el'.len t.cl) := HY.out _ HD2.out 15 _ rfl
            go_wp2_with fail
            refine (Ha.out _ HB2.out).mono ?_
            rintro z w3 ⟨rfl, hB⟩
            have HB3 := Lib.hid (HB2.out.trans (hB.mono HB2.out.size))
            have HD3 := Lib.hid (HD2.out.trans (hB.mono HD2.out.size))
            clear hB
            go_wp2_with fail
            go_ret
            exact ⟨ret_bool HV.out, HB3.out⟩
          | true =>
            have Ea := Lib.hid (eqB_of_true hva)
            rw [hva] at Ha
            clear hva
            cases hvg : eqB g g' with
            | false =>
              have Fg := Lib.hid (eqB_of_false hvg)
              have HV := Lib.hid (eqB_false (show ¬ St.mk kd nm ns e a g lo hi bd el = St.mk kd nm ns' e' a' g' lo' hi' bd' el' from fun h => Fg.out (by injection h)))
              rw [hvg] at Hg
              clear hvg
              go_enter Try.func43, Try.ntmps43
              go_wp2_with fail
              refine (Hns.out _ HB0.out).mono ?_
              rintro z w1 ⟨rfl, hB⟩
              have HB1 := Lib.hid (HB0.out.trans (hB.mono HB0.out.size))
              have HD1 := Lib.hid hB
              clear hB
              have gx1_3 : w1.cell? ⟨w.heap.size, 3, none⟩ = some (.int .i64 e.op) := HX.out _ HD1.out 3 _ rfl
              have gy1_3 : w1.cell? ⟨w.heap.size + 1, 3, none⟩ = some (.int .i64 e'.op) := HY.out _ HD1.out 3 _ rfl
              have gx1_4 : w1.cell? ⟨w.heap.size, 4, none⟩ = some (.int .u64 (e.word : Int)) := HX.out _ HD1.out 4 _ rfl
              have gy1_4 : w1.cell? ⟨w.heap.size + 1, 4, none⟩ = some (.int .u64 (e'.word : Int)) := HY.out _ HD1.out 4 _ rfl
              have gx1_5 : w1.cell? ⟨w.heap.size, 5, none⟩ = some (.string (str e.name)) := HX.out _ HD1.out 5 _ rfl
              have gy1_5 : w1.cell? ⟨w.heap.size + 1, 5, none⟩ = some (.string (str e'.name)) := HY.out _ HD1.out 5 _ rfl
              have gx1_6 : w1.cell? ⟨w.heap.size, 6, none⟩ = some (.slice s.pe e.args.len s.ce) := HX.out _ HD1.out 6 _ rfl
              have gy1_6 : w1.cell? ⟨w.heap.size + 1, 6, none⟩ = some (.slice t.pe e'.args.len t.ce) := HY.out _ HD1.out 6 _ rfl
              have gx1_7 : w1.cell? ⟨w.heap.size, 7, none⟩ = some (.int .i64 a.op) := HX.out _ HD1.out 7 _ rfl
              have gy1_7 : w1.cell? ⟨w.heap.size + 1, 7, none⟩ = some (.int .i64 a'.op) := HY.out _ HD1.out 7 _ rfl
              have gx1_8 : w1.cell? ⟨w.heap.size, 8, none⟩ = some (.int .u64 (a.word : Int)) := HX.out _ HD1.out 8 _ rfl
              have gy1_8 : w1.cell? ⟨w.heap.size + 1, 8, none⟩ = some (.int .u64 (a'.word : Int)) := HY.out _ HD1.out 8 _ rfl
              have gx1_9 : w1.cell? ⟨w.heap.size, 9, none⟩ = some (.string (str a.name)) := HX.out _ HD1.out 9 _ rfl
              have gy1_9 : w1.cell? ⟨w.heap.size + 1, 9, none⟩ = some (.string (str a'.name)) := HY.out _ HD1.out 9 _ rfl
              have gx1_10 : w1.cell? ⟨w.heap.size, 10, none⟩ = some (.slice s.pa a.args.len s.ca) := HX.out _ HD1.out 10 _ rfl
              have gy1_10 : w1.cell? ⟨w.heap.size + 1, 10, none⟩ = some (.slice t.pa a'.args.len t.ca) := HY.out _ HD1.out 10 _ rfl
              have gx1_11 : w1.cell? ⟨w.heap.size, 11, none⟩ = some (.slice s.pg g.len s.cg) := HX.out _ HD1.out 11 _ rfl
              have gy1_11 : w1.cell? ⟨w.heap.size + 1, 11, none⟩ = some (.slice t.pg g'.len t.cg) := HY.out _ HD1.out 11 _ rfl
              have gx1_12 : w1.cell? ⟨w.heap.size, 12, none⟩ = some (.int .u64 (lo : Int)) := HX.out _ HD1.out 12 _ rfl
              have gy1_12 : w1.cell? ⟨w.heap.size + 1, 12, none⟩ = some (.int .u64 (lo' : Int)) := HY.out _ HD1.out 12 _ rfl
              have gx1_13 : w1.cell? ⟨w.heap.size, 13, none⟩ = some (.int .u64 (hi : Int)) := HX.out _ HD1.out 13 _ rfl
              have gy1_13 : w1.cell? ⟨w.heap.size + 1, 13, none⟩ = some (.int .u64 (hi' : Int)) := HY.out _ HD1.out 13 _ rfl
              have gx1_14 : w1.cell? ⟨w.heap.size, 14, none⟩ = some (.slice s.pb bd.len s.cb) := HX.out _ HD1.out 14 _ rfl
              have gy1_14 : w1.cell? ⟨w.heap.size + 1, 14, none⟩ = some (.slice t.pb bd'.len t.cb) := HY.out _ HD1.out 14 _ rfl
              have gx1_15 : w1.cell? ⟨w.heap.size, 15, none⟩ = some (.slice s.pl el.len s.cl) := HX.out _ HD1.out 15 _ rfl
              have gy1_15 : w1.cell? ⟨w.heap.size + 1, 15, none⟩ = some (.slice t.pl el'.len t.cl) := HY.out _ HD1.out 15 _ rfl
              go_wp2_with fail
              refine (He.out _ HB1.out).mono ?_
              rintro z w2 ⟨rfl, hB⟩
              have HB2 := Lib.hid (HB1.out.trans (hB.mono HB1.out.size))
              have HD2 := Lib.hid (HD1.out.trans (hB.mono HD1.out.size))
              clear hB
              have gx2_7 : w2.cell? ⟨w.heap.size, 7, none⟩ = some (.int .i64 a.op) := HX.out _ HD2.out 7 _ rfl
              have gy2_7 : w2.cell? ⟨w.heap.size + 1, 7, none⟩ = some (.int .i64 a'.op) := HY.out _ HD2.out 7 _ rfl
              have gx2_8 : w2.cell? ⟨w.heap.size, 8, none⟩ = some (.int .u64 (a.word : Int)) := HX.out _ HD2.out 8 _ rfl
              have gy2_8 : w2.cell? ⟨w.heap.size + 1, 8, none⟩ = some (.int .u64 (a'.word : Int)) := HY.out _ HD2.out 8 _ rfl
              have gx2_9 : w2.cell? ⟨w.heap.size, 9, none⟩ = some (.string (str a.name)) := HX.out _ HD2.out 9 _ rfl
              have gy2_9 : w2.cell? ⟨w.heap.size + 1, 9, none⟩ = some (.string (str a'.name)) := HY.out _ HD2.out 9 _ rfl
              have gx2_10 : w2.cell? ⟨w.heap.size, 10, none⟩ = some (.slice s.pa a.args.len s.ca) := HX.out _ HD2.out 10 _ rfl
              have gy2_10 : w2.cell? ⟨w.heap.size + 1, 10, none⟩ = some (.slice t.pa a'.args.len t.ca) := HY.out _ HD2.out 10 _ rfl
              have gx2_11 : w2.cell? ⟨w.heap.size, 11, none⟩ = some (.slice s.pg g.len s.cg) := HX.out _ HD2.out 11 _ rfl
              have gy2_11 : w2.cell? ⟨w.heap.size + 1, 11, none⟩ = some (.slice t.pg g'.len t.cg) := HY.out _ HD2.out 11 _ rfl
              have gx2_12 : w2.cell? ⟨w.heap.size, 12, none⟩ = some (.int .u64 (lo : Int)) := HX.out _ HD2.out 12 _ rfl
              have gy2_12 : w2.cell? ⟨w.heap.size + 1, 12, none⟩ = some (.int .u64 (lo' : Int)) := HY.out _ HD2.out 12 _ rfl
              have gx2_13 : w2.cell? ⟨w.heap.size, 13, none⟩ = some (.int .u64 (hi : Int)) := HX.out _ HD2.out 13 _ rfl
              have gy2_13 : w2.cell? ⟨w.heap.size + 1, 13, none⟩ = some (.int .u64 (hi' : Int)) := HY.out _ HD2.out 13 _ rfl
              have gx2_14 : w2.cell? ⟨w.heap.size, 14, none⟩ = some (.slice s.pb bd.len s.cb) := HX.out _ HD2.out 14 _ rfl
              have gy2_14 : w2.cell? ⟨w.heap.size + 1, 14, none⟩ = some (.slice t.pb bd'.len t.cb) := HY.out _ HD2.out 14 _ rfl
              have gx2_15 : w2.cell? ⟨w.heap.size, 15, none⟩ = some (.slice s.pl el.len s.cl) := HX.out _ HD2.out 15 _ rfl
              have gy2_15 : w2.cell? ⟨w.heap.size + 1, 15, none⟩ = some (.slice t.pl el'.len t.cl) := HY.out _ HD2.out 15 _ rfl
              go_wp2_with fail
              refine (Ha.out _ HB2.out).mono ?_
              rintro z w3 ⟨rfl, hB⟩
              have HB3 := Lib.hid (HB2.out.trans (hB.mono HB2.out.size))
              have HD3 := Lib.hid (HD2.out.trans (hB.mono HD2.out.size))
              clear hB
              have gx3_11 : w3.cell? ⟨w.heap.size, 11, none⟩ = some (.slice s.pg g.len s.cg) := HX.out _ HD3.out 11 _ rfl
              have gy3_11 : w3.cell? ⟨w.heap.size + 1, 11, none⟩ = some (.slice t.pg g'.len t.cg) := HY.out _ HD3.out 11 _ rfl
              have gx3_12 : w3.cell? ⟨w.heap.size, 12, none⟩ = some (.int .u64 (lo : Int)) := HX.out _ HD3.out 12 _ rfl
              have gy3_12 : w3.cell? ⟨w.heap.size + 1, 12, none⟩ = some (.int .u64 (lo' : Int)) := HY.out _ HD3.out 12 _ rfl
              have gx3_13 : w3.cell? ⟨w.heap.size, 13, none⟩ = some (.int .u64 (hi : Int)) := HX.out _ HD3.out 13 _ rfl
              have gy3_13 : w3.cell? ⟨w.heap.size + 1, 13, none⟩ = some (.int .u64 (hi' : Int)) := HY.out _ HD3.out 13 _ rfl
              have gx3_14 : w3.cell? ⟨w.heap.size, 14, none⟩ = some (.slice s.pb bd.len s.cb) := HX.out _ HD3.out 14 _ rfl
              have gy3_14 : w3.cell? ⟨w.heap.size + 1, 14, none⟩ = some (.slice t.pb bd'.len t.cb) := HY.out _ HD3.out 14 _ rfl
              have gx3_15 : w3.cell? ⟨w.heap.size, 15, none⟩ = some (.slice s.pl el.len s.cl) := HX.out _ HD3.out 15 _ rfl
              have gy3_15 : w3.cell? ⟨w.heap.size + 1, 15, none⟩ = some (.slice t.pl el'.len t.cl) := HY.out _ HD3.out 15 _ rfl
              go_wp2_with fail
              refine (Hg.out _ HB3.out).mono ?_
              rintro z w4 ⟨rfl, hB⟩
              have HB4 := Lib.hid (HB3.out.trans (hB.mono HB3.out.size))
              have HD4 := Lib.hid (HD3.out.trans (hB.mono HD3.out.size))
              clear hB
              go_wp2_with fail
              go_ret
              exact ⟨ret_bool HV.out, HB4.out⟩
            | true =>
              have Eg := Lib.hid (eqB_of_true hvg)
              rw [hvg] at Hg
              clear hvg
              by_cases hvlo : lo = lo'
              · have Elo := Lib.hid hvlo
                skip
                subst hvlo
                by_cases hvhi : hi = hi'
                · have Ehi := Lib.hid hvhi
                  skip
                  subst hvhi
                  cases hvbd : eqB bd bd' with
                  | false =>
                    have Fbd := Lib.hid (eqB_of_false hvbd)
                    have HV := Lib.hid (eqB_false (show ¬ St.mk kd nm ns e a g lo hi bd el = St.mk kd nm ns' e' a' g' lo hi bd' el' from fun h => Fbd.out (by injection h)))
                    rw [hvbd] at Hbd
                    clear hvbd
                    go_enter Try.func43, Try.ntmps43
                    go_wp2_with fail
                    refine (Hns.out _ HB0.out).mono ?_
                    rintro z w1 ⟨rfl, hB⟩
                    have HB1 := Lib.hid (HB0.out.trans (hB.mono HB0.out.size))
                    have HD1 := Lib.hid hB
                    clear hB
                    have gx1_3 : w1.cell? ⟨w.heap.size, 3, none⟩ = some (.int .i64 e.op) := HX.out _ HD1.out 3 _ rfl
                    have gy1_3 : w1.cell? ⟨w.heap.size + 1, 3, none⟩ = some (.int .i64 e'.op) := HY.out _ HD1.out 3 _ rfl
                    have gx1_4 : w1.cell? ⟨w.heap.size, 4, none⟩ = some (.int .u64 (e.word : Int)) := HX.out _ HD1.out 4 _ rfl
                    have gy1_4 : w1.cell? ⟨w.heap.size + 1, 4, none⟩ = some (.int .u64 (e'.word : Int)) := HY.out _ HD1.out 4 _ rfl
                    have gx1_5 : w1.cell? ⟨w.heap.size, 5, none⟩ = some (.string (str e.name)) := HX.out _ HD1.out 5 _ rfl
                    have gy1_5 : w1.cell? ⟨w.heap.size + 1, 5, none⟩ = some (.string (str e'.name)) := HY.out _ HD1.out 5 _ rfl
                    have gx1_6 : w1.cell? ⟨w.heap.size, 6, none⟩ = some (.slice s.pe e.args.len s.ce) := HX.out _ HD1.out 6 _ rfl
                    have gy1_6 : w1.cell? ⟨w.heap.size + 1, 6, none⟩ = some (.slice t.pe e'.args.len t.ce) := HY.out _ HD1.out 6 _ rfl
                    have gx1_7 : w1.cell? ⟨w.heap.size, 7, none⟩ = some (.int .i64 a.op) := HX.out _ HD1.out 7 _ rfl
                    have gy1_7 : w1.cell? ⟨w.heap.size + 1, 7, none⟩ = some (.int .i64 a'.op) := HY.out _ HD1.out 7 _ rfl
                    have gx1_8 : w1.cell? ⟨w.heap.size, 8, none⟩ = some (.int .u64 (a.word : Int)) := HX.out _ HD1.out 8 _ rfl
                    have gy1_8 : w1.cell? ⟨w.heap.size + 1, 8, none⟩ = some (.int .u64 (a'.word : Int)) := HY.out _ HD1.out 8 _ rfl
                    have gx1_9 : w1.cell? ⟨w.heap.size, 9, none⟩ = some (.string (str a.name)) := HX.out _ HD1.out 9 _ rfl
                    have gy1_9 : w1.cell? ⟨w.heap.size + 1, 9, none⟩ = some (.string (str a'.name)) := HY.out _ HD1.out 9 _ rfl
                    have gx1_10 : w1.cell? ⟨w.heap.size, 10, none⟩ = some (.slice s.pa a.args.len s.ca) := HX.out _ HD1.out 10 _ rfl
                    have gy1_10 : w1.cell? ⟨w.heap.size + 1, 10, none⟩ = some (.slice t.pa a'.args.len t.ca) := HY.out _ HD1.out 10 _ rfl
                    have gx1_11 : w1.cell? ⟨w.heap.size, 11, none⟩ = some (.slice s.pg g.len s.cg) := HX.out _ HD1.out 11 _ rfl
                    have gy1_11 : w1.cell? ⟨w.heap.size + 1, 11, none⟩ = some (.slice t.pg g'.len t.cg) := HY.out _ HD1.out 11 _ rfl
                    have gx1_12 : w1.cell? ⟨w.heap.size, 12, none⟩ = some (.int .u64 (lo : Int)) := HX.out _ HD1.out 12 _ rfl
                    have gy1_12 : w1.cell? ⟨w.heap.size + 1, 12, none⟩ = some (.int .u64 (lo : Int)) := HY.out _ HD1.out 12 _ rfl
                    have gx1_13 : w1.cell? ⟨w.heap.size, 13, none⟩ = some (.int .u64 (hi : Int)) := HX.out _ HD1.out 13 _ rfl
                    have gy1_13 : w1.cell? ⟨w.heap.size + 1, 13, none⟩ = some (.int .u64 (hi : Int)) := HY.out _ HD1.out 13 _ rfl
                    have gx1_14 : w1.cell? ⟨w.heap.size, 14, none⟩ = some (.slice s.pb bd.len s.cb) := HX.out _ HD1.out 14 _ rfl
                    have gy1_14 : w1.cell? ⟨w.heap.size + 1, 14, none⟩ = some (.slice t.pb bd'.len t.cb) := HY.out _ HD1.out 14 _ rfl
                    have gx1_15 : w1.cell? ⟨w.heap.size, 15, none⟩ = some (.slice s.pl el.len s.cl) := HX.out _ HD1.out 15 _ rfl
                    have gy1_15 : w1.cell? ⟨w.heap.size + 1, 15, none⟩ = some (.slice t.pl el'.len t.cl) := HY.out _ HD1.out 15 _ rfl
                    go_wp2_with fail
                    refine (He.out _ HB1.out).mono ?_
                    rintro z w2 ⟨rfl, hB⟩
                    have HB2 := Lib.hid (HB1.out.trans (hB.mono HB1.out.size))
                    have HD2 := Lib.hid (HD1.out.trans (hB.mono HD1.out.size))
                    clear hB
                    have gx2_7 : w2.cell? ⟨w.heap.size, 7, none⟩ = some (.int .i64 a.op) := HX.out _ HD2.out 7 _ rfl
                    have gy2_7 : w2.cell? ⟨w.heap.size + 1, 7, none⟩ = some (.int .i64 a'.op) := HY.out _ HD2.out 7 _ rfl
                    have gx2_8 : w2.cell? ⟨w.heap.size, 8, none⟩ = some (.int .u64 (a.word : Int)) := HX.out _ HD2.out 8 _ rfl
                    have gy2_8 : w2.cell? ⟨w.heap.size + 1, 8, none⟩ = some (.int .u64 (a'.word : Int)) := HY.out _ HD2.out 8 _ rfl
                    have gx2_9 : w2.cell? ⟨w.heap.size, 9, none⟩ = some (.string (str a.name)) := HX.out _ HD2.out 9 _ rfl
                    have gy2_9 : w2.cell? ⟨w.heap.size + 1, 9, none⟩ = some (.string (str a'.name)) := HY.out _ HD2.out 9 _ rfl
                    have gx2_10 : w2.cell? ⟨w.heap.size, 10, none⟩ = some (.slice s.pa a.args.len s.ca) := HX.out _ HD2.out 10 _ rfl
                    have gy2_10 : w2.cell? ⟨w.heap.size + 1, 10, none⟩ = some (.slice t.pa a'.args.len t.ca) := HY.out _ HD2.out 10 _ rfl
                    have gx2_11 : w2.cell? ⟨w.heap.size, 11, none⟩ = some (.slice s.pg g.len s.cg) := HX.out _ HD2.out 11 _ rfl
                    have gy2_11 : w2.cell? ⟨w.heap.size + 1, 11, none⟩ = some (.slice t.pg g'.len t.cg) := HY.out _ HD2.out 11 _ rfl
                    have gx2_12 : w2.cell? ⟨w.heap.size, 12, none⟩ = some (.int .u64 (lo : Int)) := HX.out _ HD2.out 12 _ rfl
                    have gy2_12 : w2.cell? ⟨w.heap.size + 1, 12, none⟩ = some (.int .u64 (lo : Int)) := HY.out _ HD2.out 12 _ rfl
                    have gx2_13 : w2.cell? ⟨w.heap.size, 13, none⟩ = some (.int .u64 (hi : Int)) := HX.out _ HD2.out 13 _ rfl
                    have gy2_13 : w2.cell? ⟨w.heap.size + 1, 13, none⟩ = some (.int .u64 (hi : Int)) := HY.out _ HD2.out 13 _ rfl
                    have gx2_14 : w2.cell? ⟨w.heap.size, 14, none⟩ = some (.slice s.pb bd.len s.cb) := HX.out _ HD2.out 14 _ rfl
                    have gy2_14 : w2.cell? ⟨w.heap.size + 1, 14, none⟩ = some (.slice t.pb bd'.len t.cb) := HY.out _ HD2.out 14 _ rfl
                    have gx2_15 : w2.cell? ⟨w.heap.size, 15, none⟩ = some (.slice s.pl el.len s.cl) := HX.out _ HD2.out 15 _ rfl
                    have gy2_15 : w2.cell? ⟨w.heap.size + 1, 15, none⟩ = some (.slice t.pl el'.len t.cl) := HY.out _ HD2.out 15 _ rfl
                    go_wp2_with fail
                    refine (Ha.out _ HB2.out).mono ?_
                    rintro z w3 ⟨rfl, hB⟩
                    have HB3 := Lib.hid (HB2.out.trans (hB.mono HB2.out.size))
                    have HD3 := Lib.hid (HD2.out.trans (hB.mono HD2.out.size))
                    clear hB
                    have gx3_11 : w3.cell? ⟨w.heap.size, 11, none⟩ = some (.slice s.pg g.len s.cg) := HX.out _ HD3.out 11 _ rfl
                    have gy3_11 : w3.cell? ⟨w.heap.size + 1, 11, none⟩ = some (.slice t.pg g'.len t.cg) := HY.out _ HD3.out 11 _ rfl
                    have gx3_12 : w3.cell? ⟨w.heap.size, 12, none⟩ = some (.int .u64 (lo : Int)) := HX.out _ HD3.out 12 _ rfl
                    have gy3_12 : w3.cell? ⟨w.heap.size + 1, 12, none⟩ = some (.int .u64 (lo : Int)) := HY.out _ HD3.out 12 _ rfl
                    have gx3_13 : w3.cell? ⟨w.heap.size, 13, none⟩ = some (.int .u64 (hi : Int)) := HX.out _ HD3.out 13 _ rfl
                    have gy3_13 : w3.cell? ⟨w.heap.size + 1, 13, none⟩ = some (.int .u64 (hi : Int)) := HY.out _ HD3.out 13 _ rfl
                    have gx3_14 : w3.cell? ⟨w.heap.size, 14, none⟩ = some (.slice s.pb bd.len s.cb) := HX.out _ HD3.out 14 _ rfl
                    have gy3_14 : w3.cell? ⟨w.heap.size + 1, 14, none⟩ = some (.slice t.pb bd'.len t.cb) := HY.out _ HD3.out 14 _ rfl
                    have gx3_15 : w3.cell? ⟨w.heap.size, 15, none⟩ = some (.slice s.pl el.len s.cl) := HX.out _ HD3.out 15 _ rfl
                    have gy3_15 : w3.cell? ⟨w.heap.size + 1, 15, none⟩ = some (.slice t.pl el'.len t.cl) := HY.out _ HD3.out 15 _ rfl
                    go_wp2_with fail
                    refine (Hg.out _ HB3.out).mono ?_
                    rintro z w4 ⟨rfl, hB⟩
                    have HB4 := Lib.hid (HB3.out.trans (hB.mono HB3.out.size))
                    have HD4 := Lib.hid (HD3.out.trans (hB.mono HD3.out.size))
                    clear hB
                    have gx4_12 : w4.cell? ⟨w.heap.size, 12, none⟩ = some (.int .u64 (lo : Int)) := HX.out _ HD4.out 12 _ rfl
                    have gy4_12 : w4.cell? ⟨w.heap.size + 1, 12, none⟩ = some (.int .u64 (lo : Int)) := HY.out _ HD4.out 12 _ rfl
                    have gx4_13 : w4.cell? ⟨w.heap.size, 13, none⟩ = some (.int .u64 (hi : Int)) := HX.out _ HD4.out 13 _ rfl
                    have gy4_13 : w4.cell? ⟨w.heap.size + 1, 13, none⟩ = some (.int .u64 (hi : Int)) := HY.out _ HD4.out 13 _ rfl
                    have gx4_14 : w4.cell? ⟨w.heap.size, 14, none⟩ = some (.slice s.pb bd.len s.cb) := HX.out _ HD4.out 14 _ rfl
                    have gy4_14 : w4.cell? ⟨w.heap.size + 1, 14, none⟩ = some (.slice t.pb bd'.len t.cb) := HY.out _ HD4.out 14 _ rfl
                    have gx4_15 : w4.cell? ⟨w.heap.size, 15, none⟩ = some (.slice s.pl el.len s.cl) := HX.out _ HD4.out 15 _ rfl
                    have gy4_15 : w4.cell? ⟨w.heap.size + 1, 15, none⟩ = some (.slice t.pl el'.len t.cl) := HY.out _ HD4.out 15 _ rfl
                    go_wp2_with fail
                    refine (Hbd.out _ HB4.out).mono ?_
                    rintro z w5 ⟨rfl, hB⟩
                    have HB5 := Lib.hid (HB4.out.trans (hB.mono HB4.out.size))
                    have HD5 := Lib.hid (HD4.out.trans (hB.mono HD4.out.size))
                    clear hB
                    go_wp2_with fail
                    go_ret
                    exact ⟨ret_bool HV.out, HB5.out⟩
                  | true =>
                    have Ebd := Lib.hid (eqB_of_true hvbd)
                    rw [hvbd] at Hbd
                    clear hvbd
                    cases hvel : eqB el el' with
                    | false =>
                      have Fel := Lib.hid (eqB_of_false hvel)
                      have HV := Lib.hid (eqB_false (show ¬ St.mk kd nm ns e a g lo hi bd el = St.mk kd nm ns' e' a' g' lo hi bd' el' from fun h => Fel.out (by injection h)))
                      rw [hvel] at Hel
                      clear hvel
                      go_enter Try.func43, Try.ntmps43
                      go_wp2_with fail
                      refine (Hns.out _ HB0.out).mono ?_
                      rintro z w1 ⟨rfl, hB⟩
                      have HB1 := Lib.hid (HB0.out.trans (hB.mono HB0.out.size))
                      have HD1 := Lib.hid hB
                      clear hB
                      have gx1_3 : w1.cell? ⟨w.heap.size, 3, none⟩ = some (.int .i64 e.op) := HX.out _ HD1.out 3 _ rfl
                      have gy1_3 : w1.cell? ⟨w.heap.size + 1, 3, none⟩ = some (.int .i64 e'.op) := HY.out _ HD1.out 3 _ rfl
                      have gx1_4 : w1.cell? ⟨w.heap.size, 4, none⟩ = some (.int .u64 (e.word : Int)) := HX.out _ HD1.out 4 _ rfl
                      have gy1_4 : w1.cell? ⟨w.heap.size + 1, 4, none⟩ = some (.int .u64 (e'.word : Int)) := HY.out _ HD1.out 4 _ rfl
                      have gx1_5 : w1.cell? ⟨w.heap.size, 5, none⟩ = some (.string (str e.name)) := HX.out _ HD1.out 5 _ rfl
                      have gy1_5 : w1.cell? ⟨w.heap.size + 1, 5, none⟩ = some (.string (str e'.name)) := HY.out _ HD1.out 5 _ rfl
                      have gx1_6 : w1.cell? ⟨w.heap.size, 6, none⟩ = some (.slice s.pe e.args.len s.ce) := HX.out _ HD1.out 6 _ rfl
                      have gy1_6 : w1.cell? ⟨w.heap.size + 1, 6, none⟩ = some (.slice t.pe e'.args.len t.ce) := HY.out _ HD1.out 6 _ rfl
                      have gx1_7 : w1.cell? ⟨w.heap.size, 7, none⟩ = some (.int .i64 a.op) := HX.out _ HD1.out 7 _ rfl
                      have gy1_7 : w1.cell? ⟨w.heap.size + 1, 7, none⟩ = some (.int .i64 a'.op) := HY.out _ HD1.out 7 _ rfl
                      have gx1_8 : w1.cell? ⟨w.heap.size, 8, none⟩ = some (.int .u64 (a.word : Int)) := HX.out _ HD1.out 8 _ rfl
                      have gy1_8 : w1.cell? ⟨w.heap.size + 1, 8, none⟩ = some (.int .u64 (a'.word : Int)) := HY.out _ HD1.out 8 _ rfl
                      have gx1_9 : w1.cell? ⟨w.heap.size, 9, none⟩ = some (.string (str a.name)) := HX.out _ HD1.out 9 _ rfl
                      have gy1_9 : w1.cell? ⟨w.heap.size + 1, 9, none⟩ = some (.string (str a'.name)) := HY.out _ HD1.out 9 _ rfl
                      have gx1_10 : w1.cell? ⟨w.heap.size, 10, none⟩ = some (.slice s.pa a.args.len s.ca) := HX.out _ HD1.out 10 _ rfl
                      have gy1_10 : w1.cell? ⟨w.heap.size + 1, 10, none⟩ = some (.slice t.pa a'.args.len t.ca) := HY.out _ HD1.out 10 _ rfl
                      have gx1_11 : w1.cell? ⟨w.heap.size, 11, none⟩ = some (.slice s.pg g.len s.cg) := HX.out _ HD1.out 11 _ rfl
                      have gy1_11 : w1.cell? ⟨w.heap.size + 1, 11, none⟩ = some (.slice t.pg g'.len t.cg) := HY.out _ HD1.out 11 _ rfl
                      have gx1_12 : w1.cell? ⟨w.heap.size, 12, none⟩ = some (.int .u64 (lo : Int)) := HX.out _ HD1.out 12 _ rfl
                      have gy1_12 : w1.cell? ⟨w.heap.size + 1, 12, none⟩ = some (.int .u64 (lo : Int)) := HY.out _ HD1.out 12 _ rfl
                      have gx1_13 : w1.cell? ⟨w.heap.size, 13, none⟩ = some (.int .u64 (hi : Int)) := HX.out _ HD1.out 13 _ rfl
                      have gy1_13 : w1.cell? ⟨w.heap.size + 1, 13, none⟩ = some (.int .u64 (hi : Int)) := HY.out _ HD1.out 13 _ rfl
                      have gx1_14 : w1.cell? ⟨w.heap.size, 14, none⟩ = some (.slice s.pb bd.len s.cb) := HX.out _ HD1.out 14 _ rfl
                      have gy1_14 : w1.cell? ⟨w.heap.size + 1, 14, none⟩ = some (.slice t.pb bd'.len t.cb) := HY.out _ HD1.out 14 _ rfl
                      have gx1_15 : w1.cell? ⟨w.heap.size, 15, none⟩ = some (.slice s.pl el.len s.cl) := HX.out _ HD1.out 15 _ rfl
                      have gy1_15 : w1.cell? ⟨w.heap.size + 1, 15, none⟩ = some (.slice t.pl el'.len t.cl) := HY.out _ HD1.out 15 _ rfl
                      go_wp2_with fail
                      refine (He.out _ HB1.out).mono ?_
                      rintro z w2 ⟨rfl, hB⟩
                      have HB2 := Lib.hid (HB1.out.trans (hB.mono HB1.out.size))
                      have HD2 := Lib.hid (HD1.out.trans (hB.mono HD1.out.size))
                      clear hB
                      have gx2_7 : w2.cell? ⟨w.heap.size, 7, none⟩ = some (.int .i64 a.op) := HX.out _ HD2.out 7 _ rfl
                      have gy2_7 : w2.cell? ⟨w.heap.size + 1, 7, none⟩ = some (.int .i64 a'.op) := HY.out _ HD2.out 7 _ rfl
                      have gx2_8 : w2.cell? ⟨w.heap.size, 8, none⟩ = some (.int .u64 (a.word : Int)) := HX.out _ HD2.out 8 _ rfl
                      have gy2_8 : w2.cell? ⟨w.heap.size + 1, 8, none⟩ = some (.int .u64 (a'.word : Int)) := HY.out _ HD2.out 8 _ rfl
                      have gx2_9 : w2.cell? ⟨w.heap.size, 9, none⟩ = some (.string (str a.name)) := HX.out _ HD2.out 9 _ rfl
                      have gy2_9 : w2.cell? ⟨w.heap.size + 1, 9, none⟩ = some (.string (str a'.name)) := HY.out _ HD2.out 9 _ rfl
                      have gx2_10 : w2.cell? ⟨w.heap.size, 10, none⟩ = some (.slice s.pa a.args.len s.ca) := HX.out _ HD2.out 10 _ rfl
                      have gy2_10 : w2.cell? ⟨w.heap.size + 1, 10, none⟩ = some (.slice t.pa a'.args.len t.ca) := HY.out _ HD2.out 10 _ rfl
                      have gx2_11 : w2.cell? ⟨w.heap.size, 11, none⟩ = some (.slice s.pg g.len s.cg) := HX.out _ HD2.out 11 _ rfl
                      have gy2_11 : w2.cell? ⟨w.heap.size + 1, 11, none⟩ = some (.slice t.pg g'.len t.cg) := HY.out _ HD2.out 11 _ rfl
                      have gx2_12 : w2.cell? ⟨w.heap.size, 12, none⟩ = some (.int .u64 (lo : Int)) := HX.out _ HD2.out 12 _ rfl
                      have gy2_12 : w2.cell? ⟨w.heap.size + 1, 12, none⟩ = some (.int .u64 (lo : Int)) := HY.out _ HD2.out 12 _ rfl
                      have gx2_13 : w2.cell? ⟨w.heap.size, 13, none⟩ = some (.int .u64 (hi : Int)) := HX.out _ HD2.out 13 _ rfl
                      have gy2_13 : w2.cell? ⟨w.heap.size + 1, 13, none⟩ = some (.int .u64 (hi : Int)) := HY.out _ HD2.out 13 _ rfl
                      have gx2_14 : w2.cell? ⟨w.heap.size, 14, none⟩ = some (.slice s.pb bd.len s.cb) := HX.out _ HD2.out 14 _ rfl
                      have gy2_14 : w2.cell? ⟨w.heap.size + 1, 14, none⟩ = some (.slice t.pb bd'.len t.cb) := HY.out _ HD2.out 14 _ rfl
                      have gx2_15 : w2.cell? ⟨w.heap.size, 15, none⟩ = some (.slice s.pl el.len s.cl) := HX.out _ HD2.out 15 _ rfl
                      have gy2_15 : w2.cell? ⟨w.heap.size + 1, 15, none⟩ = some (.slice t.pl el'.len t.cl) := HY.out _ HD2.out 15 _ rfl
                      go_wp2_with fail
                      refine (Ha.out _ HB2.out).mono ?_
                      rintro z w3 ⟨rfl, hB⟩
                      have HB3 := Lib.hid (HB2.out.trans (hB.mono HB2.out.size))
                      have HD3 := Lib.hid (HD2.out.trans (hB.mono HD2.out.size))
                      clear hB
                      have gx3_11 : w3.cell? ⟨w.heap.size, 11, none⟩ = some (.slice s.pg g.len s.cg) := HX.out _ HD3.out 11 _ rfl
                      have gy3_11 : w3.cell? ⟨w.heap.size + 1, 11, none⟩ = some (.slice t.pg g'.len t.cg) := HY.out _ HD3.out 11 _ rfl
                      have gx3_12 : w3.cell? ⟨w.heap.size, 12, none⟩ = some (.int .u64 (lo : Int)) := HX.out _ HD3.out 12 _ rfl
                      have gy3_12 : w3.cell? ⟨w.heap.size + 1, 12, none⟩ = some (.int .u64 (lo : Int)) := HY.out _ HD3.out 12 _ rfl
                      have gx3_13 : w3.cell? ⟨w.heap.size, 13, none⟩ = some (.int .u64 (hi : Int)) := HX.out _ HD3.out 13 _ rfl
                      have gy3_13 : w3.cell? ⟨w.heap.size + 1, 13, none⟩ = some (.int .u64 (hi : Int)) := HY.out _ HD3.out 13 _ rfl
                      have gx3_14 : w3.cell? ⟨w.heap.size, 14, none⟩ = some (.slice s.pb bd.len s.cb) := HX.out _ HD3.out 14 _ rfl
                      have gy3_14 : w3.cell? ⟨w.heap.size + 1, 14, none⟩ = some (.slice t.pb bd'.len t.cb) := HY.out _ HD3.out 14 _ rfl
                      have gx3_15 : w3.cell? ⟨w.heap.size, 15, none⟩ = some (.slice s.pl el.len s.cl) := HX.out _ HD3.out 15 _ rfl
                      have gy3_15 : w3.cell? ⟨w.heap.size + 1, 15, none⟩ = some (.slice t.pl el'.len t.cl) := HY.out _ HD3.out 15 _ rfl
                      go_wp2_with fail
                      refine (Hg.out _ HB3.out).mono ?_
                      rintro z w4 ⟨rfl, hB⟩
                      have HB4 := Lib.hid (HB3.out.trans (hB.mono HB3.out.size))
                      have HD4 := Lib.hid (HD3.out.trans (hB.mono HD3.out.size))
                      clear hB
                      have gx4_12 : w4.cell? ⟨w.heap.size, 12, none⟩ = some (.int .u64 (lo : Int)) := HX.out _ HD4.out 12 _ rfl
                      have gy4_12 : w4.cell? ⟨w.heap.size + 1, 12, none⟩ = some (.int .u64 (lo : Int)) := HY.out _ HD4.out 12 _ rfl
                      have gx4_13 : w4.cell? ⟨w.heap.size, 13, none⟩ = some (.int .u64 (hi : Int)) := HX.out _ HD4.out 13 _ rfl
                      have gy4_13 : w4.cell? ⟨w.heap.size + 1, 13, none⟩ = some (.int .u64 (hi : Int)) := HY.out _ HD4.out 13 _ rfl
                      have gx4_14 : w4.cell? ⟨w.heap.size, 14, none⟩ = some (.slice s.pb bd.len s.cb) := HX.out _ HD4.out 14 _ rfl
                      have gy4_14 : w4.cell? ⟨w.heap.size + 1, 14, none⟩ = some (.slice t.pb bd'.len t.cb) := HY.out _ HD4.out 14 _ rfl
                      have gx4_15 : w4.cell? ⟨w.heap.size, 15, none⟩ = some (.slice s.pl el.len s.cl) := HX.out _ HD4.out 15 _ rfl
                      have gy4_15 : w4.cell? ⟨w.heap.size + 1, 15, none⟩ = some (.slice t.pl el'.len t.cl) := HY.out _ HD4.out 15 _ rfl
                      go_wp2_with fail
                      refine (Hbd.out _ HB4.out).mono ?_
                      rintro z w5 ⟨rfl, hB⟩
                      have HB5 := Lib.hid (HB4.out.trans (hB.mono HB4.out.size))
                      have HD5 := Lib.hid (HD4.out.trans (hB.mono HD4.out.size))
                      clear hB
                      have gx5_15 : w5.cell? ⟨w.heap.size, 15, none⟩ = some (.slice s.pl el.len s.cl) := HX.out _ HD5.out 15 _ rfl
                      have gy5_15 : w5.cell? ⟨w.heap.size + 1, 15, none⟩ = some (.slice t.pl el'.len t.cl) := HY.out _ HD5.out 15 _ rfl
                      go_wp2_with fail
                      refine (Hel.out _ HB5.out).mono ?_
                      rintro z w6 ⟨rfl, hB⟩
                      have HB6 := Lib.hid (HB5.out.trans (hB.mono HB5.out.size))
                      have HD6 := Lib.hid (HD5.out.trans (hB.mono HD5.out.size))
                      clear hB
                      go_wp2_with fail
                      go_ret
                      exact ⟨ret_bool HV.out, HB6.out⟩
                    | true =>
                      have Eel := Lib.hid (eqB_of_true hvel)
                      rw [hvel] at Hel
                      clear hvel
                      have HV := Lib.hid (eqB_true (show St.mk kd nm ns e a g lo hi bd el = St.mk kd nm ns' e' a' g' lo hi bd' el' by rw [Ens.out, Ee.out, Ea.out, Eg.out, Ebd.out, Eel.out]))
                      go_enter Try.func43, Try.ntmps43
                      go_wp2_with fail
                      refine (Hns.out _ HB0.out).mono ?_
                      rintro z w1 ⟨rfl, hB⟩
                      have HB1 := Lib.hid (HB0.out.trans (hB.mono HB0.out.size))
                      have HD1 := Lib.hid hB
                      clear hB
                      have gx1_3 : w1.cell? ⟨w.heap.size, 3, none⟩ = some (.int .i64 e.op) := HX.out _ HD1.out 3 _ rfl
                      have gy1_3 : w1.cell? ⟨w.heap.size + 1, 3, none⟩ = some (.int .i64 e'.op) := HY.out _ HD1.out 3 _ rfl
                      have gx1_4 : w1.cell? ⟨w.heap.size, 4, none⟩ = some (.int .u64 (e.word : Int)) := HX.out _ HD1.out 4 _ rfl
                      have gy1_4 : w1.cell? ⟨w.heap.size + 1, 4, none⟩ = some (.int .u64 (e'.word : Int)) := HY.out _ HD1.out 4 _ rfl
                      have gx1_5 : w1.cell? ⟨w.heap.size, 5, none⟩ = some (.string (str e.name)) := HX.out _ HD1.out 5 _ rfl
                      have gy1_5 : w1.cell? ⟨w.heap.size + 1, 5, none⟩ = some (.string (str e'.name)) := HY.out _ HD1.out 5 _ rfl
                      have gx1_6 : w1.cell? ⟨w.heap.size, 6, none⟩ = some (.slice s.pe e.args.len s.ce) := HX.out _ HD1.out 6 _ rfl
                      have gy1_6 : w1.cell? ⟨w.heap.size + 1, 6, none⟩ = some (.slice t.pe e'.args.len t.ce) := HY.out _ HD1.out 6 _ rfl
                      have gx1_7 : w1.cell? ⟨w.heap.size, 7, none⟩ = some (.int .i64 a.op) := HX.out _ HD1.out 7 _ rfl
                      have gy1_7 : w1.cell? ⟨w.heap.size + 1, 7, none⟩ = some (.int .i64 a'.op) := HY.out _ HD1.out 7 _ rfl
                      have gx1_8 : w1.cell? ⟨w.heap.size, 8, none⟩ = some (.int .u64 (a.word : Int)) := HX.out _ HD1.out 8 _ rfl
                      have gy1_8 : w1.cell? ⟨w.heap.size + 1, 8, none⟩ = some (.int .u64 (a'.word : Int)) := HY.out _ HD1.out 8 _ rfl
                      have gx1_9 : w1.cell? ⟨w.heap.size, 9, none⟩ = some (.string (str a.name)) := HX.out _ HD1.out 9 _ rfl
                      have gy1_9 : w1.cell? ⟨w.heap.size + 1, 9, none⟩ = some (.string (str a'.name)) := HY.out _ HD1.out 9 _ rfl
                      have gx1_10 : w1.cell? ⟨w.heap.size, 10, none⟩ = some (.slice s.pa a.args.len s.ca) := HX.out _ HD1.out 10 _ rfl
                      have gy1_10 : w1.cell? ⟨w.heap.size + 1, 10, none⟩ = some (.slice t.pa a'.args.len t.ca) := HY.out _ HD1.out 10 _ rfl
                      have gx1_11 : w1.cell? ⟨w.heap.size, 11, none⟩ = some (.slice s.pg g.len s.cg) := HX.out _ HD1.out 11 _ rfl
                      have gy1_11 : w1.cell? ⟨w.heap.size + 1, 11, none⟩ = some (.slice t.pg g'.len t.cg) := HY.out _ HD1.out 11 _ rfl
                      have gx1_12 : w1.cell? ⟨w.heap.size, 12, none⟩ = some (.int .u64 (lo : Int)) := HX.out _ HD1.out 12 _ rfl
                      have gy1_12 : w1.cell? ⟨w.heap.size + 1, 12, none⟩ = some (.int .u64 (lo : Int)) := HY.out _ HD1.out 12 _ rfl
                      have gx1_13 : w1.cell? ⟨w.heap.size, 13, none⟩ = some (.int .u64 (hi : Int)) := HX.out _ HD1.out 13 _ rfl
                      have gy1_13 : w1.cell? ⟨w.heap.size + 1, 13, none⟩ = some (.int .u64 (hi : Int)) := HY.out _ HD1.out 13 _ rfl
                      have gx1_14 : w1.cell? ⟨w.heap.size, 14, none⟩ = some (.slice s.pb bd.len s.cb) := HX.out _ HD1.out 14 _ rfl
                      have gy1_14 : w1.cell? ⟨w.heap.size + 1, 14, none⟩ = some (.slice t.pb bd'.len t.cb) := HY.out _ HD1.out 14 _ rfl
                      have gx1_15 : w1.cell? ⟨w.heap.size, 15, none⟩ = some (.slice s.pl el.len s.cl) := HX.out _ HD1.out 15 _ rfl
                      have gy1_15 : w1.cell? ⟨w.heap.size + 1, 15, none⟩ = some (.slice t.pl el'.len t.cl) := HY.out _ HD1.out 15 _ rfl
                      go_wp2_with fail
                      refine (He.out _ HB1.out).mono ?_
                      rintro z w2 ⟨rfl, hB⟩
                      have HB2 := Lib.hid (HB1.out.trans (hB.mono HB1.out.size))
                      have HD2 := Lib.hid (HD1.out.trans (hB.mono HD1.out.size))
                      clear hB
                      have gx2_7 : w2.cell? ⟨w.heap.size, 7, none⟩ = some (.int .i64 a.op) := HX.out _ HD2.out 7 _ rfl
                      have gy2_7 : w2.cell? ⟨w.heap.size + 1, 7, none⟩ = some (.int .i64 a'.op) := HY.out _ HD2.out 7 _ rfl
                      have gx2_8 : w2.cell? ⟨w.heap.size, 8, none⟩ = some (.int .u64 (a.word : Int)) := HX.out _ HD2.out 8 _ rfl
                      have gy2_8 : w2.cell? ⟨w.heap.size + 1, 8, none⟩ = some (.int .u64 (a'.word : Int)) := HY.out _ HD2.out 8 _ rfl
                      have gx2_9 : w2.cell? ⟨w.heap.size, 9, none⟩ = some (.string (str a.name)) := HX.out _ HD2.out 9 _ rfl
                      have gy2_9 : w2.cell? ⟨w.heap.size + 1, 9, none⟩ = some (.string (str a'.name)) := HY.out _ HD2.out 9 _ rfl
                      have gx2_10 : w2.cell? ⟨w.heap.size, 10, none⟩ = some (.slice s.pa a.args.len s.ca) := HX.out _ HD2.out 10 _ rfl
                      have gy2_10 : w2.cell? ⟨w.heap.size + 1, 10, none⟩ = some (.slice t.pa a'.args.len t.ca) := HY.out _ HD2.out 10 _ rfl
                      have gx2_11 : w2.cell? ⟨w.heap.size, 11, none⟩ = some (.slice s.pg g.len s.cg) := HX.out _ HD2.out 11 _ rfl
                      have gy2_11 : w2.cell? ⟨w.heap.size + 1, 11, none⟩ = some (.slice t.pg g'.len t.cg) := HY.out _ HD2.out 11 _ rfl
                      have gx2_12 : w2.cell? ⟨w.heap.size, 12, none⟩ = some (.int .u64 (lo : Int)) := HX.out _ HD2.out 12 _ rfl
                      have gy2_12 : w2.cell? ⟨w.heap.size + 1, 12, none⟩ = some (.int .u64 (lo : Int)) := HY.out _ HD2.out 12 _ rfl
                      have gx2_13 : w2.cell? ⟨w.heap.size, 13, none⟩ = some (.int .u64 (hi : Int)) := HX.out _ HD2.out 13 _ rfl
                      have gy2_13 : w2.cell? ⟨w.heap.size + 1, 13, none⟩ = some (.int .u64 (hi : Int)) := HY.out _ HD2.out 13 _ rfl
                      have gx2_14 : w2.cell? ⟨w.heap.size, 14, none⟩ = some (.slice s.pb bd.len s.cb) := HX.out _ HD2.out 14 _ rfl
                      have gy2_14 : w2.cell? ⟨w.heap.size + 1, 14, none⟩ = some (.slice t.pb bd'.len t.cb) := HY.out _ HD2.out 14 _ rfl
                      have gx2_15 : w2.cell? ⟨w.heap.size, 15, none⟩ = some (.slice s.pl el.len s.cl) := HX.out _ HD2.out 15 _ rfl
                      have gy2_15 : w2.cell? ⟨w.heap.size + 1, 15, none⟩ = some (.slice t.pl el'.len t.cl) := HY.out _ HD2.out 15 _ rfl
                      go_wp2_with fail
                      refine (Ha.out _ HB2.out).mono ?_
                      rintro z w3 ⟨rfl, hB⟩
                      have HB3 := Lib.hid (HB2.out.trans (hB.mono HB2.out.size))
                      have HD3 := Lib.hid (HD2.out.trans (hB.mono HD2.out.size))
                      clear hB
                      have gx3_11 : w3.cell? ⟨w.heap.size, 11, none⟩ = some (.slice s.pg g.len s.cg) := HX.out _ HD3.out 11 _ rfl
                      have gy3_11 : w3.cell? ⟨w.heap.size + 1, 11, none⟩ = some (.slice t.pg g'.len t.cg) := HY.out _ HD3.out 11 _ rfl
                      have gx3_12 : w3.cell? ⟨w.heap.size, 12, none⟩ = some (.int .u64 (lo : Int)) := HX.out _ HD3.out 12 _ rfl
                      have gy3_12 : w3.cell? ⟨w.heap.size + 1, 12, none⟩ = some (.int .u64 (lo : Int)) := HY.out _ HD3.out 12 _ rfl
                      have gx3_13 : w3.cell? ⟨w.heap.size, 13, none⟩ = some (.int .u64 (hi : Int)) := HX.out _ HD3.out 13 _ rfl
                      have gy3_13 : w3.cell? ⟨w.heap.size + 1, 13, none⟩ = some (.int .u64 (hi : Int)) := HY.out _ HD3.out 13 _ rfl
                      have gx3_14 : w3.cell? ⟨w.heap.size, 14, none⟩ = some (.slice s.pb bd.len s.cb) := HX.out _ HD3.out 14 _ rfl
                      have gy3_14 : w3.cell? ⟨w.heap.size + 1, 14, none⟩ = some (.slice t.pb bd'.len t.cb) := HY.out _ HD3.out 14 _ rfl
                      have gx3_15 : w3.cell? ⟨w.heap.size, 15, none⟩ = some (.slice s.pl el.len s.cl) := HX.out _ HD3.out 15 _ rfl
                      have gy3_15 : w3.cell? ⟨w.heap.size + 1, 15, none⟩ = some (.slice t.pl el'.len t.cl) := HY.out _ HD3.out 15 _ rfl
                      go_wp2_with fail
                      refine (Hg.out _ HB3.out).mono ?_
                      rintro z w4 ⟨rfl, hB⟩
                      have HB4 := Lib.hid (HB3.out.trans (hB.mono HB3.out.size))
                      have HD4 := Lib.hid (HD3.out.trans (hB.mono HD3.out.size))
                      clear hB
                      have gx4_12 : w4.cell? ⟨w.heap.size, 12, none⟩ = some (.int .u64 (lo : Int)) := HX.out _ HD4.out 12 _ rfl
                      have gy4_12 : w4.cell? ⟨w.heap.size + 1, 12, none⟩ = some (.int .u64 (lo : Int)) := HY.out _ HD4.out 12 _ rfl
                      have gx4_13 : w4.cell? ⟨w.heap.size, 13, none⟩ = some (.int .u64 (hi : Int)) := HX.out _ HD4.out 13 _ rfl
                      have gy4_13 : w4.cell? ⟨w.heap.size + 1, 13, none⟩ = some (.int .u64 (hi : Int)) := HY.out _ HD4.out 13 _ rfl
                      have gx4_14 : w4.cell? ⟨w.heap.size, 14, none⟩ = some (.slice s.pb bd.len s.cb) := HX.out _ HD4.out 14 _ rfl
                      have gy4_14 : w4.cell? ⟨w.heap.size + 1, 14, none⟩ = some (.slice t.pb bd'.len t.cb) := HY.out _ HD4.out 14 _ rfl
                      have gx4_15 : w4.cell? ⟨w.heap.size, 15, none⟩ = some (.slice s.pl el.len s.cl) := HX.out _ HD4.out 15 _ rfl
                      have gy4_15 : w4.cell? ⟨w.heap.size + 1, 15, none⟩ = some (.slice t.pl el'.len t.cl) := HY.out _ HD4.out 15 _ rfl
                      go_wp2_with fail
                      refine (Hbd.out _ HB4.out).mono ?_
                      rintro z w5 ⟨rfl, hB⟩
                      have HB5 := Lib.hid (HB4.out.trans (hB.mono HB4.out.size))
                      have HD5 := Lib.hid (HD4.out.trans (hB.mono HD4.out.size))
                      clear hB
                      have gx5_15 : w5.cell? ⟨w.heap.size, 15, none⟩ = some (.slice s.pl el.len s.cl) := HX.out _ HD5.out 15 _ rfl
                      have gy5_15 : w5.cell? ⟨w.heap.size + 1, 15, none⟩ = some (.slice t.pl el'.len t.cl) := HY.out _ HD5.out 15 _ rfl
                      go_wp2_with fail
                      refine (Hel.out _ HB5.out).mono ?_
                      rintro z w6 ⟨rfl, hB⟩
                      have HB6 := Lib.hid (HB5.out.trans (hB.mono HB5.out.size))
                      have HD6 := Lib.hid (HD5.out.trans (hB.mono HD5.out.size))
                      clear hB
                      go_wp2_with fail
                      go_ret
                      exact ⟨ret_bool HV.out, HB6.out⟩
                · have Fhi := Lib.hid hvhi
                  have HV := Lib.hid (eqB_false (show ¬ St.mk kd nm ns e a g lo hi bd el = St.mk kd nm ns' e' a' g' lo hi' bd' el' from fun h => Fhi.out (by injection h)))
                  skip
                  skip
                  go_enter Try.func43, Try.ntmps43
                  go_wp2_with fail
                  refine (Hns.out _ HB0.out).mono ?_
                  rintro z w1 ⟨rfl, hB⟩
                  have HB1 := Lib.hid (HB0.out.trans (hB.mono HB0.out.size))
                  have HD1 := Lib.hid hB
                  clear hB
                  have gx1_3 : w1.cell? ⟨w.heap.size, 3, none⟩ = some (.int .i64 e.op) := HX.out _ HD1.out 3 _ rfl
                  have gy1_3 : w1.cell? ⟨w.heap.size + 1, 3, none⟩ = some (.int .i64 e'.op) := HY.out _ HD1.out 3 _ rfl
                  have gx1_4 : w1.cell? ⟨w.heap.size, 4, none⟩ = some (.int .u64 (e.word : Int)) := HX.out _ HD1.out 4 _ rfl
                  have gy1_4 : w1.cell? ⟨w.heap.size + 1, 4, none⟩ = some (.int .u64 (e'.word : Int)) := HY.out _ HD1.out 4 _ rfl
                  have gx1_5 : w1.cell? ⟨w.heap.size, 5, none⟩ = some (.string (str e.name)) := HX.out _ HD1.out 5 _ rfl
                  have gy1_5 : w1.cell? ⟨w.heap.size + 1, 5, none⟩ = some (.string (str e'.name)) := HY.out _ HD1.out 5 _ rfl
                  have gx1_6 : w1.cell? ⟨w.heap.size, 6, none⟩ = some (.slice s.pe e.args.len s.ce) := HX.out _ HD1.out 6 _ rfl
                  have gy1_6 : w1.cell? ⟨w.heap.size + 1, 6, none⟩ = some (.slice t.pe e'.args.len t.ce) := HY.out _ HD1.out 6 _ rfl
                  have gx1_7 : w1.cell? ⟨w.heap.size, 7, none⟩ = some (.int .i64 a.op) := HX.out _ HD1.out 7 _ rfl
                  have gy1_7 : w1.cell? ⟨w.heap.size + 1, 7, none⟩ = some (.int .i64 a'.op) := HY.out _ HD1.out 7 _ rfl
                  have gx1_8 : w1.cell? ⟨w.heap.size, 8, none⟩ = some (.int .u64 (a.word : Int)) := HX.out _ HD1.out 8 _ rfl
                  have gy1_8 : w1.cell? ⟨w.heap.size + 1, 8, none⟩ = some (.int .u64 (a'.word : Int)) := HY.out _ HD1.out 8 _ rfl
                  have gx1_9 : w1.cell? ⟨w.heap.size, 9, none⟩ = some (.string (str a.name)) := HX.out _ HD1.out 9 _ rfl
                  have gy1_9 : w1.cell? ⟨w.heap.size + 1, 9, none⟩ = some (.string (str a'.name)) := HY.out _ HD1.out 9 _ rfl
                  have gx1_10 : w1.cell? ⟨w.heap.size, 10, none⟩ = some (.slice s.pa a.args.len s.ca) := HX.out _ HD1.out 10 _ rfl
                  have gy1_10 : w1.cell? ⟨w.heap.size + 1, 10, none⟩ = some (.slice t.pa a'.args.len t.ca) := HY.out _ HD1.out 10 _ rfl
                  have gx1_11 : w1.cell? ⟨w.heap.size, 11, none⟩ = some (.slice s.pg g.len s.cg) := HX.out _ HD1.out 11 _ rfl
                  have gy1_11 : w1.cell? ⟨w.heap.size + 1, 11, none⟩ = some (.slice t.pg g'.len t.cg) := HY.out _ HD1.out 11 _ rfl
                  have gx1_12 : w1.cell? ⟨w.heap.size, 12, none⟩ = some (.int .u64 (lo : Int)) := HX.out _ HD1.out 12 _ rfl
                  have gy1_12 : w1.cell? ⟨w.heap.size + 1, 12, none⟩ = some (.int .u64 (lo : Int)) := HY.out _ HD1.out 12 _ rfl
                  have gx1_13 : w1.cell? ⟨w.heap.size, 13, none⟩ = some (.int .u64 (hi : Int)) := HX.out _ HD1.out 13 _ rfl
                  have gy1_13 : w1.cell? ⟨w.heap.size + 1, 13, none⟩ = some (.int .u64 (hi' : Int)) := HY.out _ HD1.out 13 _ rfl
                  have gx1_14 : w1.cell? ⟨w.heap.size, 14, none⟩ = some (.slice s.pb bd.len s.cb) := HX.out _ HD1.out 14 _ rfl
                  have gy1_14 : w1.cell? ⟨w.heap.size + 1, 14, none⟩ = some (.slice t.pb bd'.len t.cb) := HY.out _ HD1.out 14 _ rfl
                  have gx1_15 : w1.cell? ⟨w.heap.size, 15, none⟩ = some (.slice s.pl el.len s.cl) := HX.out _ HD1.out 15 _ rfl
                  have gy1_15 : w1.cell? ⟨w.heap.size + 1, 15, none⟩ = some (.slice t.pl el'.len t.cl) := HY.out _ HD1.out 15 _ rfl
                  go_wp2_with fail
                  refine (He.out _ HB1.out).mono ?_
                  rintro z w2 ⟨rfl, hB⟩
                  have HB2 := Lib.hid (HB1.out.trans (hB.mono HB1.out.size))
                  have HD2 := Lib.hid (HD1.out.trans (hB.mono HD1.out.size))
                  clear hB
                  have gx2_7 : w2.cell? ⟨w.heap.size, 7, none⟩ = some (.int .i64 a.op) := HX.out _ HD2.out 7 _ rfl
                  have gy2_7 : w2.cell? ⟨w.heap.size + 1, 7, none⟩ = some (.int .i64 a'.op) := HY.out _ HD2.out 7 _ rfl
                  have gx2_8 : w2.cell? ⟨w.heap.size, 8, none⟩ = some (.int .u64 (a.word : Int)) := HX.out _ HD2.out 8 _ rfl
                  have gy2_8 : w2.cell? ⟨w.heap.size + 1, 8, none⟩ = some (.int .u64 (a'.word : Int)) := HY.out _ HD2.out 8 _ rfl
                  have gx2_9 : w2.cell? ⟨w.heap.size, 9, none⟩ = some (.string (str a.name)) := HX.out _ HD2.out 9 _ rfl
                  have gy2_9 : w2.cell? ⟨w.heap.size + 1, 9, none⟩ = some (.string (str a'.name)) := HY.out _ HD2.out 9 _ rfl
                  have gx2_10 : w2.cell? ⟨w.heap.size, 10, none⟩ = some (.slice s.pa a.args.len s.ca) := HX.out _ HD2.out 10 _ rfl
                  have gy2_10 : w2.cell? ⟨w.heap.size + 1, 10, none⟩ = some (.slice t.pa a'.args.len t.ca) := HY.out _ HD2.out 10 _ rfl
                  have gx2_11 : w2.cell? ⟨w.heap.size, 11, none⟩ = some (.slice s.pg g.len s.cg) := HX.out _ HD2.out 11 _ rfl
                  have gy2_11 : w2.cell? ⟨w.heap.size + 1, 11, none⟩ = some (.slice t.pg g'.len t.cg) := HY.out _ HD2.out 11 _ rfl
                  have gx2_12 : w2.cell? ⟨w.heap.size, 12, none⟩ = some (.int .u64 (lo : Int)) := HX.out _ HD2.out 12 _ rfl
                  have gy2_12 : w2.cell? ⟨w.heap.size + 1, 12, none⟩ = some (.int .u64 (lo : Int)) := HY.out _ HD2.out 12 _ rfl
                  have gx2_13 : w2.cell? ⟨w.heap.size, 13, none⟩ = some (.int .u64 (hi : Int)) := HX.out _ HD2.out 13 _ rfl
                  have gy2_13 : w2.cell? ⟨w.heap.size + 1, 13, none⟩ = some (.int .u64 (hi' : Int)) := HY.out _ HD2.out 13 _ rfl
                  have gx2_14 : w2.cell? ⟨w.heap.size, 14, none⟩ = some (.slice s.pb bd.len s.cb) := HX.out _ HD2.out 14 _ rfl
                  have gy2_14 : w2.cell? ⟨w.heap.size + 1, 14, none⟩ = some (.slice t.pb bd'.len t.cb) := HY.out _ HD2.out 14 _ rfl
                  have gx2_15 : w2.cell? ⟨w.heap.size, 15, none⟩ = some (.slice s.pl el.len s.cl) := HX.out _ HD2.out 15 _ rfl
                  have gy2_15 : w2.cell? ⟨w.heap.size + 1, 15, none⟩ = some (.slice t.pl el'.len t.cl) := HY.out _ HD2.out 15 _ rfl
                  go_wp2_with fail
                  refine (Ha.out _ HB2.out).mono ?_
                  rintro z w3 ⟨rfl, hB⟩
                  have HB3 := Lib.hid (HB2.out.trans (hB.mono HB2.out.size))
                  have HD3 := Lib.hid (HD2.out.trans (hB.mono HD2.out.size))
                  clear hB
                  have gx3_11 : w3.cell? ⟨w.heap.size, 11, none⟩ = some (.slice s.pg g.len s.cg) := HX.out _ HD3.out 11 _ rfl
                  have gy3_11 : w3.cell? ⟨w.heap.size + 1, 11, none⟩ = some (.slice t.pg g'.len t.cg) := HY.out _ HD3.out 11 _ rfl
                  have gx3_12 : w3.cell? ⟨w.heap.size, 12, none⟩ = some (.int .u64 (lo : Int)) := HX.out _ HD3.out 12 _ rfl
                  have gy3_12 : w3.cell? ⟨w.heap.size + 1, 12, none⟩ = some (.int .u64 (lo : Int)) := HY.out _ HD3.out 12 _ rfl
                  have gx3_13 : w3.cell? ⟨w.heap.size, 13, none⟩ = some (.int .u64 (hi : Int)) := HX.out _ HD3.out 13 _ rfl
                  have gy3_13 : w3.cell? ⟨w.heap.size + 1, 13, none⟩ = some (.int .u64 (hi' : Int)) := HY.out _ HD3.out 13 _ rfl
                  have gx3_14 : w3.cell? ⟨w.heap.size, 14, none⟩ = some (.slice s.pb bd.len s.cb) := HX.out _ HD3.out 14 _ rfl
                  have gy3_14 : w3.cell? ⟨w.heap.size + 1, 14, none⟩ = some (.slice t.pb bd'.len t.cb) := HY.out _ HD3.out 14 _ rfl
                  have gx3_15 : w3.cell? ⟨w.heap.size, 15, none⟩ = some (.slice s.pl el.len s.cl) := HX.out _ HD3.out 15 _ rfl
                  have gy3_15 : w3.cell? ⟨w.heap.size + 1, 15, none⟩ = some (.slice t.pl el'.len t.cl) := HY.out _ HD3.out 15 _ rfl
                  go_wp2_with fail
                  refine (Hg.out _ HB3.out).mono ?_
                  rintro z w4 ⟨rfl, hB⟩
                  have HB4 := Lib.hid (HB3.out.trans (hB.mono HB3.out.size))
                  have HD4 := Lib.hid (HD3.out.trans (hB.mono HD3.out.size))
                  clear hB
                  have gx4_12 : w4.cell? ⟨w.heap.size, 12, none⟩ = some (.int .u64 (lo : Int)) := HX.out _ HD4.out 12 _ rfl
                  have gy4_12 : w4.cell? ⟨w.heap.size + 1, 12, none⟩ = some (.int .u64 (lo : Int)) := HY.out _ HD4.out 12 _ rfl
                  have gx4_13 : w4.cell? ⟨w.heap.size, 13, none⟩ = some (.int .u64 (hi : Int)) := HX.out _ HD4.out 13 _ rfl
                  have gy4_13 : w4.cell? ⟨w.heap.size + 1, 13, none⟩ = some (.int .u64 (hi' : Int)) := HY.out _ HD4.out 13 _ rfl
                  have gx4_14 : w4.cell? ⟨w.heap.size, 14, none⟩ = some (.slice s.pb bd.len s.cb) := HX.out _ HD4.out 14 _ rfl
                  have gy4_14 : w4.cell? ⟨w.heap.size + 1, 14, none⟩ = some (.slice t.pb bd'.len t.cb) := HY.out _ HD4.out 14 _ rfl
                  have gx4_15 : w4.cell? ⟨w.heap.size, 15, none⟩ = some (.slice s.pl el.len s.cl) := HX.out _ HD4.out 15 _ rfl
                  have gy4_15 : w4.cell? ⟨w.heap.size + 1, 15, none⟩ = some (.slice t.pl el'.len t.cl) := HY.out _ HD4.out 15 _ rfl
                  go_wp2_with fail
                  go_ret
                  exact ⟨ret_bool HV.out, HB4.out⟩
              · have Flo := Lib.hid hvlo
                have HV := Lib.hid (eqB_false (show ¬ St.mk kd nm ns e a g lo hi bd el = St.mk kd nm ns' e' a' g' lo' hi' bd' el' from fun h => Flo.out (by injection h)))
                skip
                skip
                go_enter Try.func43, Try.ntmps43
                go_wp2_with fail
                refine (Hns.out _ HB0.out).mono ?_
                rintro z w1 ⟨rfl, hB⟩
                have HB1 := Lib.hid (HB0.out.trans (hB.mono HB0.out.size))
                have HD1 := Lib.hid hB
                clear hB
                have gx1_3 : w1.cell? ⟨w.heap.size, 3, none⟩ = some (.int .i64 e.op) := HX.out _ HD1.out 3 _ rfl
                have gy1_3 : w1.cell? ⟨w.heap.size + 1, 3, none⟩ = some (.int .i64 e'.op) := HY.out _ HD1.out 3 _ rfl
                have gx1_4 : w1.cell? ⟨w.heap.size, 4, none⟩ = some (.int .u64 (e.word : Int)) := HX.out _ HD1.out 4 _ rfl
                have gy1_4 : w1.cell? ⟨w.heap.size + 1, 4, none⟩ = some (.int .u64 (e'.word : Int)) := HY.out _ HD1.out 4 _ rfl
                have gx1_5 : w1.cell? ⟨w.heap.size, 5, none⟩ = some (.string (str e.name)) := HX.out _ HD1.out 5 _ rfl
                have gy1_5 : w1.cell? ⟨w.heap.size + 1, 5, none⟩ = some (.string (str e'.name)) := HY.out _ HD1.out 5 _ rfl
                have gx1_6 : w1.cell? ⟨w.heap.size, 6, none⟩ = some (.slice s.pe e.args.len s.ce) := HX.out _ HD1.out 6 _ rfl
                have gy1_6 : w1.cell? ⟨w.heap.size + 1, 6, none⟩ = some (.slice t.pe e'.args.len t.ce) := HY.out _ HD1.out 6 _ rfl
                have gx1_7 : w1.cell? ⟨w.heap.size, 7, none⟩ = some (.int .i64 a.op) := HX.out _ HD1.out 7 _ rfl
                have gy1_7 : w1.cell? ⟨w.heap.size + 1, 7, none⟩ = some (.int .i64 a'.op) := HY.out _ HD1.out 7 _ rfl
                have gx1_8 : w1.cell? ⟨w.heap.size, 8, none⟩ = some (.int .u64 (a.word : Int)) := HX.out _ HD1.out 8 _ rfl
                have gy1_8 : w1.cell? ⟨w.heap.size + 1, 8, none⟩ = some (.int .u64 (a'.word : Int)) := HY.out _ HD1.out 8 _ rfl
                have gx1_9 : w1.cell? ⟨w.heap.size, 9, none⟩ = some (.string (str a.name)) := HX.out _ HD1.out 9 _ rfl
                have gy1_9 : w1.cell? ⟨w.heap.size + 1, 9, none⟩ = some (.string (str a'.name)) := HY.out _ HD1.out 9 _ rfl
                have gx1_10 : w1.cell? ⟨w.heap.size, 10, none⟩ = some (.slice s.pa a.args.len s.ca) := HX.out _ HD1.out 10 _ rfl
                have gy1_10 : w1.cell? ⟨w.heap.size + 1, 10, none⟩ = some (.slice t.pa a'.args.len t.ca) := HY.out _ HD1.out 10 _ rfl
                have gx1_11 : w1.cell? ⟨w.heap.size, 11, none⟩ = some (.slice s.pg g.len s.cg) := HX.out _ HD1.out 11 _ rfl
                have gy1_11 : w1.cell? ⟨w.heap.size + 1, 11, none⟩ = some (.slice t.pg g'.len t.cg) := HY.out _ HD1.out 11 _ rfl
                have gx1_12 : w1.cell? ⟨w.heap.size, 12, none⟩ = some (.int .u64 (lo : Int)) := HX.out _ HD1.out 12 _ rfl
                have gy1_12 : w1.cell? ⟨w.heap.size + 1, 12, none⟩ = some (.int .u64 (lo' : Int)) := HY.out _ HD1.out 12 _ rfl
                have gx1_13 : w1.cell? ⟨w.heap.size, 13, none⟩ = some (.int .u64 (hi : Int)) := HX.out _ HD1.out 13 _ rfl
                have gy1_13 : w1.cell? ⟨w.heap.size + 1, 13, none⟩ = some (.int .u64 (hi' : Int)) := HY.out _ HD1.out 13 _ rfl
                have gx1_14 : w1.cell? ⟨w.heap.size, 14, none⟩ = some (.slice s.pb bd.len s.cb) := HX.out _ HD1.out 14 _ rfl
                have gy1_14 : w1.cell? ⟨w.heap.size + 1, 14, none⟩ = some (.slice t.pb bd'.len t.cb) := HY.out _ HD1.out 14 _ rfl
                have gx1_15 : w1.cell? ⟨w.heap.size, 15, none⟩ = some (.slice s.pl el.len s.cl) := HX.out _ HD1.out 15 _ rfl
                have gy1_15 : w1.cell? ⟨w.heap.size + 1, 15, none⟩ = some (.slice t.pl el'.len t.cl) := HY.out _ HD1.out 15 _ rfl
                go_wp2_with fail
                refine (He.out _ HB1.out).mono ?_
                rintro z w2 ⟨rfl, hB⟩
                have HB2 := Lib.hid (HB1.out.trans (hB.mono HB1.out.size))
                have HD2 := Lib.hid (HD1.out.trans (hB.mono HD1.out.size))
                clear hB
                have gx2_7 : w2.cell? ⟨w.heap.size, 7, none⟩ = some (.int .i64 a.op) := HX.out _ HD2.out 7 _ rfl
                have gy2_7 : w2.cell? ⟨w.heap.size + 1, 7, none⟩ = some (.int .i64 a'.op) := HY.out _ HD2.out 7 _ rfl
                have gx2_8 : w2.cell? ⟨w.heap.size, 8, none⟩ = some (.int .u64 (a.word : Int)) := HX.out _ HD2.out 8 _ rfl
                have gy2_8 : w2.cell? ⟨w.heap.size + 1, 8, none⟩ = some (.int .u64 (a'.word : Int)) := HY.out _ HD2.out 8 _ rfl
                have gx2_9 : w2.cell? ⟨w.heap.size, 9, none⟩ = some (.string (str a.name)) := HX.out _ HD2.out 9 _ rfl
                have gy2_9 : w2.cell? ⟨w.heap.size + 1, 9, none⟩ = some (.string (str a'.name)) := HY.out _ HD2.out 9 _ rfl
                have gx2_10 : w2.cell? ⟨w.heap.size, 10, none⟩ = some (.slice s.pa a.args.len s.ca) := HX.out _ HD2.out 10 _ rfl
                have gy2_10 : w2.cell? ⟨w.heap.size + 1, 10, none⟩ = some (.slice t.pa a'.args.len t.ca) := HY.out _ HD2.out 10 _ rfl
                have gx2_11 : w2.cell? ⟨w.heap.size, 11, none⟩ = some (.slice s.pg g.len s.cg) := HX.out _ HD2.out 11 _ rfl
                have gy2_11 : w2.cell? ⟨w.heap.size + 1, 11, none⟩ = some (.slice t.pg g'.len t.cg) := HY.out _ HD2.out 11 _ rfl
                have gx2_12 : w2.cell? ⟨w.heap.size, 12, none⟩ = some (.int .u64 (lo : Int)) := HX.out _ HD2.out 12 _ rfl
                have gy2_12 : w2.cell? ⟨w.heap.size + 1, 12, none⟩ = some (.int .u64 (lo' : Int)) := HY.out _ HD2.out 12 _ rfl
                have gx2_13 : w2.cell? ⟨w.heap.size, 13, none⟩ = some (.int .u64 (hi : Int)) := HX.out _ HD2.out 13 _ rfl
                have gy2_13 : w2.cell? ⟨w.heap.size + 1, 13, none⟩ = some (.int .u64 (hi' : Int)) := HY.out _ HD2.out 13 _ rfl
                have gx2_14 : w2.cell? ⟨w.heap.size, 14, none⟩ = some (.slice s.pb bd.len s.cb) := HX.out _ HD2.out 14 _ rfl
                have gy2_14 : w2.cell? ⟨w.heap.size + 1, 14, none⟩ = some (.slice t.pb bd'.len t.cb) := HY.out _ HD2.out 14 _ rfl
                have gx2_15 : w2.cell? ⟨w.heap.size, 15, none⟩ = some (.slice s.pl el.len s.cl) := HX.out _ HD2.out 15 _ rfl
                have gy2_15 : w2.cell? ⟨w.heap.size + 1, 15, none⟩ = some (.slice t.pl el'.len t.cl) := HY.out _ HD2.out 15 _ rfl
                go_wp2_with fail
                refine (Ha.out _ HB2.out).mono ?_
                rintro z w3 ⟨rfl, hB⟩
                have HB3 := Lib.hid (HB2.out.trans (hB.mono HB2.out.size))
                have HD3 := Lib.hid (HD2.out.trans (hB.mono HD2.out.size))
                clear hB
                have gx3_11 : w3.cell? ⟨w.heap.size, 11, none⟩ = some (.slice s.pg g.len s.cg) := HX.out _ HD3.out 11 _ rfl
                have gy3_11 : w3.cell? ⟨w.heap.size + 1, 11, none⟩ = some (.slice t.pg g'.len t.cg) := HY.out _ HD3.out 11 _ rfl
                have gx3_12 : w3.cell? ⟨w.heap.size, 12, none⟩ = some (.int .u64 (lo : Int)) := HX.out _ HD3.out 12 _ rfl
                have gy3_12 : w3.cell? ⟨w.heap.size + 1, 12, none⟩ = some (.int .u64 (lo' : Int)) := HY.out _ HD3.out 12 _ rfl
                have gx3_13 : w3.cell? ⟨w.heap.size, 13, none⟩ = some (.int .u64 (hi : Int)) := HX.out _ HD3.out 13 _ rfl
                have gy3_13 : w3.cell? ⟨w.heap.size + 1, 13, none⟩ = some (.int .u64 (hi' : Int)) := HY.out _ HD3.out 13 _ rfl
                have gx3_14 : w3.cell? ⟨w.heap.size, 14, none⟩ = some (.slice s.pb bd.len s.cb) := HX.out _ HD3.out 14 _ rfl
                have gy3_14 : w3.cell? ⟨w.heap.size + 1, 14, none⟩ = some (.slice t.pb bd'.len t.cb) := HY.out _ HD3.out 14 _ rfl
                have gx3_15 : w3.cell? ⟨w.heap.size, 15, none⟩ = some (.slice s.pl el.len s.cl) := HX.out _ HD3.out 15 _ rfl
                have gy3_15 : w3.cell? ⟨w.heap.size + 1, 15, none⟩ = some (.slice t.pl el'.len t.cl) := HY.out _ HD3.out 15 _ rfl
                go_wp2_with fail
                refine (Hg.out _ HB3.out).mono ?_
                rintro z w4 ⟨rfl, hB⟩
                have HB4 := Lib.hid (HB3.out.trans (hB.mono HB3.out.size))
                have HD4 := Lib.hid (HD3.out.trans (hB.mono HD3.out.size))
                clear hB
                have gx4_12 : w4.cell? ⟨w.heap.size, 12, none⟩ = some (.int .u64 (lo : Int)) := HX.out _ HD4.out 12 _ rfl
                have gy4_12 : w4.cell? ⟨w.heap.size + 1, 12, none⟩ = some (.int .u64 (lo' : Int)) := HY.out _ HD4.out 12 _ rfl
                have gx4_13 : w4.cell? ⟨w.heap.size, 13, none⟩ = some (.int .u64 (hi : Int)) := HX.out _ HD4.out 13 _ rfl
                have gy4_13 : w4.cell? ⟨w.heap.size + 1, 13, none⟩ = some (.int .u64 (hi' : Int)) := HY.out _ HD4.out 13 _ rfl
                have gx4_14 : w4.cell? ⟨w.heap.size, 14, none⟩ = some (.slice s.pb bd.len s.cb) := HX.out _ HD4.out 14 _ rfl
                have gy4_14 : w4.cell? ⟨w.heap.size + 1, 14, none⟩ = some (.slice t.pb bd'.len t.cb) := HY.out _ HD4.out 14 _ rfl
                have gx4_15 : w4.cell? ⟨w.heap.size, 15, none⟩ = some (.slice s.pl el.len s.cl) := HX.out _ HD4.out 15 _ rfl
                have gy4_15 : w4.cell? ⟨w.heap.size + 1, 15, none⟩ = some (.slice t.pl el'.len t.cl) := HY.out _ HD4.out 15 _ rfl
                go_wp2_with fail
                go_ret
                exact ⟨ret_bool HV.out, HB4.out⟩
    · have Fnm := Lib.hid hvnm
      have HV := Lib.hid (eqB_false (show ¬ St.mk kd nm ns e a g lo hi bd el = St.mk kd nm' ns' e' a' g' lo' hi' bd' el' from fun h => Fnm.out (by injection h)))
      have Tnm := str_beq_ne hvnm
      clear hvnm
      go_enter Try.func43, Try.ntmps43
      go_wp2_with fail
      go_ret
      exact ⟨ret_bool HV.out, HB0.out⟩
  · have Fkd := Lib.hid hvkd
    have HV := Lib.hid (eqB_false (show ¬ St.mk kd nm ns e a g lo hi bd el = St.mk kd' nm' ns' e' a' g' lo' hi' bd' el' from fun h => Fkd.out (by injection h)))
    skip
    skip
    go_enter Try.func43, Try.ntmps43
    go_wp2_with fail
    go_ret
    exact ⟨ret_bool HV.out, HB0.out⟩
theorem pss_to : ∀ n, PSS n
  | 0 => fun _ _ h => absurd h (Nat.not_lt_zero _)
  | n + 1 => pss_step n (pss_to n)
theorem sameStmts_any (l m : Sts) (p q : Option Addr) (c d N : Nat) (w : World) (h1 : l.In w N p) (h2 : m.In w N q) (hN : N ≤ w.heap.size) :
    Calls Try.prog 42 #[.slice p l.len c, .slice q m.len d, .func (Fn.func 43) #[] #[]] w fun e w' => e = .returned (.bool (eqB l m)) ∧ Below w.heap.size w w' :=
  pss_args l.size (pss_to _) l m (Nat.le_refl _) p q c d N w h1 h2 hN
end Go.Proofs.Ytnghehcjklkoeaa
