/- J3, Q7, J4, I3, V5, V6, V7 as one. -/
import Derived.Test.YtlhbledakddbbaaGreatDoorZcF
/- Which statements can be told: the program's mayStmt. -/
namespace Go.Proofs.YtlhbledakddbbaaGreatDoor
open Go.RowKit

theorem E0_ok {w : World} {N : Nat} : E0.Ok w N none := ⟨Exs.In.nil _ _ _, by decide⟩
theorem nilIn {w : World} {N : Nat} {p : Option Addr} : Sts.nil.In w N p := ⟨Nat.zero_le _, .inl rfl⟩
theorem nilExs {w : World} {N : Nat} {p : Option Addr} : Exs.nil.In w N p := Exs.In.nil _ _ _
theorem nilRow {w : World} {N : Nat} {p : Option Addr} : RowIn N (StrAt w) 1 [] p := ⟨Nat.zero_le _, .inl rfl⟩
/-- an every over statements, of a bound -/
def EvS (n : Nat) : Prop := ∀ (l : Sts), l.size ≤ n → ∀ (p : Option Addr) (c N : Nat) (w : World), N ≤ w.heap.size → l.In w N p →
    Calls Tryz.prog 105 #[.slice p l.len c, .func (.func 106) #[] #[]] w fun e w' => e = .returned (.bool l.may) ∧ Below w.heap.size w w'

set_option maxRecDepth 100000 in
set_option maxHeartbeats 6400000 in
theorem mayStmt_1 (n : Nat) (_hEv : EvS n) (nm : List UInt8) (ns : List (List UInt8)) (e a : Ex) (g : Exs) (lo hi : Nat) (bd el : Sts) (_hb : bd.size ≤ n) (_hl : el.size ≤ n) (s : StP) (N : Nat) (w : World) (hN : N ≤ w.heap.size) (hx : (St.mk 1 nm ns e a g lo hi bd el).Ok w N s) :
    Calls Tryz.prog 106 #[(St.mk 1 nm ns e a g lo hi bd el).val s] w fun z w' => z = .returned (.bool (St.mk 1 nm ns e a g lo hi bd el).may) ∧ Below w.heap.size w w' := by
  obtain ⟨A1, hA1⟩ : ∃ A1, A1 = (#[.int .i64 1, .string (str nm), .slice s.pn ns.length s.cn, .int .i64 e.op, .int .u64 (e.word : Int), .string (str e.name), .slice s.pe e.args.len s.ce, .int .i64 a.op, .int .u64 (a.word : Int), .string (str a.name), .slice s.pa a.args.len s.ca, .slice s.pg g.len s.cg, .int .u64 (lo : Int), .int .u64 (hi : Int), .slice s.pb bd.len s.cb, .slice s.pl el.len s.cl] : Array Value) := ⟨_, rfl⟩
  obtain ⟨W1, hW1⟩ : ∃ W1, w.alloc (Obj.cells A1 54) = W1 := ⟨_, rfl⟩
  obtain ⟨W2, hW2⟩ : ∃ W2, W1.alloc (Obj.cells A1 54) = W2 := ⟨_, rfl⟩
  have hB1 : Below w.heap.size w W1 := by rw [← hW1]; exact (Below.refl _ w).alloc (Nat.le_refl _) _
  have hz1 : W1.heap.size = w.heap.size + 1 := by rw [← hW1]; simp
  have HZ1 := Lib.hid (show A1.size = 16 by rw [hA1]; rfl)
  have HO1 := Lib.hid (show A1.all (·.oneCell') = true by rw [hA1]; simp [Value.oneCell'])
  have HI1 := Lib.hid (infoSt.trans (by rw [HZ1.out]) : (Tryz.prog.info? 54).map (·.size) = some A1.size)
  have F2 := Lib.hid (show W1.rangeAt w.heap.size 0 A1.toList by rw [← hW1]; exact range_new w A1 _)
  have k10 : W2.heap[w.heap.size]? = some (.cells A1 54 (0, 0)) := by rw [← hW2, Below.heap_alloc _ _ _ (by omega), ← hW1]; exact heap_alloc_new w _
  have k20 : W2.heap[W1.heap.size]? = some (.cells A1 54 (0, 0)) := by rw [← hW2]; exact heap_alloc_new W1 _
  have HB2 := Lib.hid (show Below w.heap.size w W2 by rw [← hW2]; exact hB1.alloc (by omega) _)
  have hz2 : W2.heap.size = W1.heap.size + 1 := by rw [← hW2]; simp
  have Hnm := Lib.hid (fun w => name_any (str nm) w)
  rw [str_data] at Hnm
  have He := Lib.hid (fun (w1 : World) (hB : Below w.heap.size w w1) => mayExpr_any e s.pe s.ce N w1 (Nat.le_trans hN hB.size) (hx.2.1.later (hB.mono hN) (Nat.le_refl N)))
  unfold Ex.val at He
  have HZr := Lib.hid (fun (w1 : World) (hB : Below w.heap.size w w1) => isZeroSt_any (St.mk 0 [] ns E0 a g lo hi bd el) rfl ⟨s.pn, none, s.pa, s.pg, s.pb, s.pl, s.cn, 0, s.ca, s.cg, s.cb, s.cl⟩ N w1 (Nat.le_trans hN hB.size) (St.Ok.later (x := St.mk 0 [] ns E0 a g lo hi bd el) (s := ⟨s.pn, none, s.pa, s.pg, s.pb, s.pl, s.cn, 0, s.ca, s.cg, s.cb, s.cl⟩) (show St.Ok w N (St.mk 0 [] ns E0 a g lo hi bd el) ⟨s.pn, none, s.pa, s.pg, s.pb, s.pl, s.cn, 0, s.ca, s.cg, s.cb, s.cl⟩ from ⟨hx.1, E0_ok, hx.2.2.1, hx.2.2.2.1, hx.2.2.2.2.1, hx.2.2.2.2.2.1, hx.2.2.2.2.2.2⟩) (hB.mono hN) (Nat.le_refl N)))
  unfold St.val at HZr
  rw [st_may_1]
  clear hx _hEv
  generalize nameB nm = znm at *
  generalize e.may = ze at *
  generalize (St.mk 0 [] ns E0 a g lo hi bd el).isZero = zz at *
  show Calls _ _ #[.agg #[.int .i64 1, .string (str nm), .slice s.pn ns.length s.cn, .int .i64 e.op, .int .u64 (e.word : Int), .string (str e.name), .slice s.pe e.args.len s.ce, .int .i64 a.op, .int .u64 (a.word : Int), .string (str a.name), .slice s.pa a.args.len s.ca, .slice s.pg g.len s.cg, .int .u64 (lo : Int), .int .u64 (hi : Int), .slice s.pb bd.len s.cb, .slice s.pl el.len s.cl]] w _
  rw [← hA1]
  have HA1 := Lib.hid hA1
  have HZz := Lib.hid hz1
  clear hB1 hA1 hz1 hz2
  go_enter Tryz.func106, Tryz.ntmps106
  go_upto_region 3 with (first | (refine wpl_load rfl 54 _ rfl w.heap.size 0 rfl A1 _ F2.out Tryz.underlying54 rfl HI1.out ?_) | (refine wpl_store_new rfl 54 _ _ rfl _ A1 _ rfl rfl (by rw [HZ1.out]; rfl) HI1.out HO1.out ?_; rw [hW2]))
  rw [HA1.out] at k10 k20
  clear HA1 hW1 hW2 HZ1 HO1 HI1 F2
  have K1 := Lib.hid k10
  have K2 := Lib.hid k20
  clear k10 k20
  go_upto_region 4 with (refine wpl_put rfl _ _ _ rfl rfl W1.heap.size _ _ rfl rfl _ _ K2.out (by exact Nat.le_of_ble_eq_true rfl) (by kernel_rfl) (by rfl) ?_; intro wq hk _hb; replace K1 := Lib.hid ((_hb.block _ (lt_of_block K1.out) (by have := HZz.out; omega)).trans K1.out); replace K2 := Lib.hid hk; replace HB2 := Lib.hid (_hb.below HB2.out (by have := HZz.out; omega) HB2.out.size); clear hk _hb)
  have d0 := cell_block K1.out (j := 0) (v := .int .i64 1) rfl
  have d1 := cell_block K1.out (j := 1) (v := .string (str nm)) rfl
  go_wp2_with fail
  refine (Hnm.out _).mono ?_
  rintro z w5 ⟨rfl, rfl⟩
  clear d1
  cases znm with
  | false =>
    go_wp2_with (refine wpl_put rfl _ _ _ rfl rfl W1.heap.size _ _ rfl rfl _ _ K2.out (by exact Nat.le_of_ble_eq_true rfl) (by kernel_rfl) (by rfl) ?_; intro wq hk _hb; replace K1 := Lib.hid ((_hb.block _ (lt_of_block K1.out) (by have := HZz.out; omega)).trans K1.out); replace K2 := Lib.hid hk; replace HB2 := Lib.hid (_hb.below HB2.out (by have := HZz.out; omega) HB2.out.size); clear hk _hb)
    go_ret
    exact ⟨by simp, HB2.out⟩
  | true =>
    have d3 := cell_block K1.out (j := 3) (v := .int .i64 e.op) rfl
    have d4 := cell_block K1.out (j := 4) (v := .int .u64 (e.word : Int)) rfl
    have d5 := cell_block K1.out (j := 5) (v := .string (str e.name)) rfl
    have d6 := cell_block K1.out (j := 6) (v := .slice s.pe e.args.len s.ce) rfl
    go_wp2_with fail
    refine (He.out _ HB2.out).mono ?_
    rintro z w5 ⟨rfl, hB⟩
    replace K1 := Lib.hid ((hB.block _ (lt_of_block K1.out)).trans K1.out)
    replace K2 := Lib.hid ((hB.block _ (lt_of_block K2.out)).trans K2.out)
    replace HB2 := Lib.hid (HB2.out.trans (hB.mono HB2.out.size))
    clear hB
    clear d3 d4 d5 d6
    cases ze with
    | false =>
      go_wp2_with (refine wpl_put rfl _ _ _ rfl rfl W1.heap.size _ _ rfl rfl _ _ K2.out (by exact Nat.le_of_ble_eq_true rfl) (by kernel_rfl) (by rfl) ?_; intro wq hk _hb; replace K1 := Lib.hid ((_hb.block _ (lt_of_block K1.out) (by have := HZz.out; omega)).trans K1.out); replace K2 := Lib.hid hk; replace HB2 := Lib.hid (_hb.below HB2.out (by have := HZz.out; omega) HB2.out.size); clear hk _hb)
      go_ret
      exact ⟨by simp, HB2.out⟩
    | true =>
      go_wp2_with (first | (refine wpl_load_if (by rfl) 54 _ rfl W1.heap.size 0 rfl ((St.mk 0 [] ns E0 a g lo hi bd el).cells ⟨s.pn, none, s.pa, s.pg, s.pb, s.pl, s.cn, 0, s.ca, s.cg, s.cb, s.cl⟩) _ (range_block K2.out) Tryz.underlying54 rfl (infoSt.trans rfl) ?_) | (refine wpl_put rfl _ _ _ rfl rfl W1.heap.size _ _ rfl rfl _ _ K2.out (by exact Nat.le_of_ble_eq_true rfl) (by kernel_rfl) (by rfl) ?_; intro wq hk _hb; replace K1 := Lib.hid ((_hb.block _ (lt_of_block K1.out) (by have := HZz.out; omega)).trans K1.out); replace K2 := Lib.hid hk; replace HB2 := Lib.hid (_hb.below HB2.out (by have := HZz.out; omega) HB2.out.size); clear hk _hb))
      refine (HZr.out _ HB2.out).mono ?_
      rintro z w5 ⟨rfl, hB⟩
      replace HB2 := Lib.hid (HB2.out.trans (hB.mono HB2.out.size))
      go_wp2_with fail
      go_ret
      exact ⟨by simp, HB2.out⟩
set_option maxRecDepth 100000 in
set_option maxHeartbeats 6400000 in
theorem mayStmt_2 (n : Nat) (_hEv : EvS n) (nm : List UInt8) (ns : List (List UInt8)) (e a : Ex) (g : Exs) (lo hi : Nat) (bd el : Sts) (_hb : bd.size ≤ n) (_hl : el.size ≤ n) (s : StP) (N : Nat) (w : World) (hN : N ≤ w.heap.size) (hx : (St.mk 2 nm ns e a g lo hi bd el).Ok w N s) :
    Calls Tryz.prog 106 #[(St.mk 2 nm ns e a g lo hi bd el).val s] w fun z w' => z = .returned (.bool (St.mk 2 nm ns e a g lo hi bd el).may) ∧ Below w.heap.size w w' := by
  obtain ⟨A1, hA1⟩ : ∃ A1, A1 = (#[.int .i64 2, .string (str nm), .slice s.pn ns.length s.cn, .int .i64 e.op, .int .u64 (e.word : Int), .string (str e.name), .slice s.pe e.args.len s.ce, .int .i64 a.op, .int .u64 (a.word : Int), .string (str a.name), .slice s.pa a.args.len s.ca, .slice s.pg g.len s.cg, .int .u64 (lo : Int), .int .u64 (hi : Int), .slice s.pb bd.len s.cb, .slice s.pl el.len s.cl] : Array Value) := ⟨_, rfl⟩
  obtain ⟨W1, hW1⟩ : ∃ W1, w.alloc (Obj.cells A1 54) = W1 := ⟨_, rfl⟩
  obtain ⟨W2, hW2⟩ : ∃ W2, W1.alloc (Obj.cells A1 54) = W2 := ⟨_, rfl⟩
  have hB1 : Below w.heap.size w W1 := by rw [← hW1]; exact (Below.refl _ w).alloc (Nat.le_refl _) _
  have hz1 : W1.heap.size = w.heap.size + 1 := by rw [← hW1]; simp
  have HZ1 := Lib.hid (show A1.size = 16 by rw [hA1]; rfl)
  have HO1 := Lib.hid (show A1.all (·.oneCell') = true by rw [hA1]; simp [Value.oneCell'])
  have HI1 := Lib.hid (infoSt.trans (by rw [HZ1.out]) : (Tryz.prog.info? 54).map (·.size) = some A1.size)
  have F2 := Lib.hid (show W1.rangeAt w.heap.size 0 A1.toList by rw [← hW1]; exact range_new w A1 _)
  have k10 : W2.heap[w.heap.size]? = some (.cells A1 54 (0, 0)) := by rw [← hW2, Below.heap_alloc _ _ _ (by omega), ← hW1]; exact heap_alloc_new w _
  have k20 : W2.heap[W1.heap.size]? = some (.cells A1 54 (0, 0)) := by rw [← hW2]; exact heap_alloc_new W1 _
  have HB2 := Lib.hid (show Below w.heap.size w W2 by rw [← hW2]; exact hB1.alloc (by omega) _)
  have hz2 : W2.heap.size = W1.heap.size + 1 := by rw [← hW2]; simp
  have Hnm := Lib.hid (fun w => name_any (str nm) w)
  rw [str_data] at Hnm
  have Ha := Lib.hid (fun (w1 : World) (hB : Below w.heap.size w w1) => mayExpr_any a s.pa s.ca N w1 (Nat.le_trans hN hB.size) (hx.2.2.1.later (hB.mono hN) (Nat.le_refl N)))
  have He := Lib.hid (fun (w1 : World) (hB : Below w.heap.size w w1) => mayExpr_any e s.pe s.ce N w1 (Nat.le_trans hN hB.size) (hx.2.1.later (hB.mono hN) (Nat.le_refl N)))
  unfold Ex.val at He
  unfold Ex.val at Ha
  have HZr := Lib.hid (fun (w1 : World) (hB : Below w.heap.size w w1) => isZeroSt_any (St.mk 0 [] ns E0 E0 g lo hi bd el) rfl ⟨s.pn, none, none, s.pg, s.pb, s.pl, s.cn, 0, 0, s.cg, s.cb, s.cl⟩ N w1 (Nat.le_trans hN hB.size) (St.Ok.later (x := St.mk 0 [] ns E0 E0 g lo hi bd el) (s := ⟨s.pn, none, none, s.pg, s.pb, s.pl, s.cn, 0, 0, s.cg, s.cb, s.cl⟩) (show St.Ok w N (St.mk 0 [] ns E0 E0 g lo hi bd el) ⟨s.pn, none, none, s.pg, s.pb, s.pl, s.cn, 0, 0, s.cg, s.cb, s.cl⟩ from ⟨hx.1, E0_ok, E0_ok, hx.2.2.2.1, hx.2.2.2.2.1, hx.2.2.2.2.2.1, hx.2.2.2.2.2.2⟩) (hB.mono hN) (Nat.le_refl N)))
  unfold St.val at HZr
  rw [st_may_2]
  clear hx _hEv
  generalize nameB nm = znm at *
  generalize a.may = za at *
  generalize e.may = ze at *
  generalize (St.mk 0 [] ns E0 E0 g lo hi bd el).isZero = zz at *
  show Calls _ _ #[.agg #[.int .i64 2, .string (str nm), .slice s.pn ns.length s.cn, .int .i64 e.op, .int .u64 (e.word : Int), .string (str e.name), .slice s.pe e.args.len s.ce, .int .i64 a.op, .int .u64 (a.word : Int), .string (str a.name), .slice s.pa a.args.len s.ca, .slice s.pg g.len s.cg, .int .u64 (lo : Int), .int .u64 (hi : Int), .slice s.pb bd.len s.cb, .slice s.pl el.len s.cl]] w _
  rw [← hA1]
  have HA1 := Lib.hid hA1
  have HZz := Lib.hid hz1
  clear hB1 hA1 hz1 hz2
  go_enter Tryz.func106, Tryz.ntmps106
  go_upto_region 3 with (first | (refine wpl_load rfl 54 _ rfl w.heap.size 0 rfl A1 _ F2.out Tryz.underlying54 rfl HI1.out ?_) | (refine wpl_store_new rfl 54 _ _ rfl _ A1 _ rfl rfl (by rw [HZ1.out]; rfl) HI1.out HO1.out ?_; rw [hW2]))
  rw [HA1.out] at k10 k20
  clear HA1 hW1 hW2 HZ1 HO1 HI1 F2
  have K1 := Lib.hid k10
  have K2 := Lib.hid k20
  clear k10 k20
  go_upto_region 4 with (refine wpl_put rfl _ _ _ rfl rfl W1.heap.size _ _ rfl rfl _ _ K2.out (by exact Nat.le_of_ble_eq_true rfl) (by kernel_rfl) (by rfl) ?_; intro wq hk _hb; replace K1 := Lib.hid ((_hb.block _ (lt_of_block K1.out) (by have := HZz.out; omega)).trans K1.out); replace K2 := Lib.hid hk; replace HB2 := Lib.hid (_hb.below HB2.out (by have := HZz.out; omega) HB2.out.size); clear hk _hb)
  have d0 := cell_block K1.out (j := 0) (v := .int .i64 2) rfl
  have d1 := cell_block K1.out (j := 1) (v := .string (str nm)) rfl
  go_wp2_with fail
  refine (Hnm.out _).mono ?_
  rintro z w5 ⟨rfl, rfl⟩
  clear d1
  cases znm with
  | false =>
    go_wp2_with (refine wpl_put rfl _ _ _ rfl rfl W1.heap.size _ _ rfl rfl _ _ K2.out (by exact Nat.le_of_ble_eq_true rfl) (by kernel_rfl) (by rfl) ?_; intro wq hk _hb; replace K1 := Lib.hid ((_hb.block _ (lt_of_block K1.out) (by have := HZz.out; omega)).trans K1.out); replace K2 := Lib.hid hk; replace HB2 := Lib.hid (_hb.below HB2.out (by have := HZz.out; omega) HB2.out.size); clear hk _hb)
    go_ret
    exact ⟨by simp, HB2.out⟩
  | true =>
    have d7 := cell_block K1.out (j := 7) (v := .int .i64 a.op) rfl
    have d8 := cell_block K1.out (j := 8) (v := .int .u64 (a.word : Int)) rfl
    have d9 := cell_block K1.out (j := 9) (v := .string (str a.name)) rfl
    have d10 := cell_block K1.out (j := 10) (v := .slice s.pa a.args.len s.ca) rfl
    go_wp2_with fail
    refine (Ha.out _ HB2.out).mono ?_
    rintro z w5 ⟨rfl, hB⟩
    replace K1 := Lib.hid ((hB.block _ (lt_of_block K1.out)).trans K1.out)
    replace K2 := Lib.hid ((hB.block _ (lt_of_block K2.out)).trans K2.out)
    replace HB2 := Lib.hid (HB2.out.trans (hB.mono HB2.out.size))
    clear hB
    clear d7 d8 d9 d10
    cases za with
    | false =>
      go_wp2_with (refine wpl_put rfl _ _ _ rfl rfl W1.heap.size _ _ rfl rfl _ _ K2.out (by exact Nat.le_of_ble_eq_true rfl) (by kernel_rfl) (by rfl) ?_; intro wq hk _hb; replace K1 := Lib.hid ((_hb.block _ (lt_of_block K1.out) (by have := HZz.out; omega)).trans K1.out); replace K2 := Lib.hid hk; replace HB2 := Lib.hid (_hb.below HB2.out (by have := HZz.out; omega) HB2.out.size); clear hk _hb)
      go_ret
      exact ⟨by simp, HB2.out⟩
    | true =>
      have d3 := cell_block K1.out (j := 3) (v := .int .i64 e.op) rfl
      have d4 := cell_block K1.out (j := 4) (v := .int .u64 (e.word : Int)) rfl
      have d5 := cell_block K1.out (j := 5) (v := .string (str e.name)) rfl
      have d6 := cell_block K1.out (j := 6) (v := .slice s.pe e.args.len s.ce) rfl
      go_wp2_with fail
      refine (He.out _ HB2.out).mono ?_
      rintro z w5 ⟨rfl, hB⟩
      replace K1 := Lib.hid ((hB.block _ (lt_of_block K1.out)).trans K1.out)
      replace K2 := Lib.hid ((hB.block _ (lt_of_block K2.out)).trans K2.out)
      replace HB2 := Lib.hid (HB2.out.trans (hB.mono HB2.out.size))
      clear hB
      clear d3 d4 d5 d6
      cases ze with
      | false =>
        go_wp2_with (refine wpl_put rfl _ _ _ rfl rfl W1.heap.size _ _ rfl rfl _ _ K2.out (by exact Nat.le_of_ble_eq_true rfl) (by kernel_rfl) (by rfl) ?_; intro wq hk _hb; replace K1 := Lib.hid ((_hb.block _ (lt_of_block K1.out) (by have := HZz.out; omega)).trans K1.out); replace K2 := Lib.hid hk; replace HB2 := Lib.hid (_hb.below HB2.out (by have := HZz.out; omega) HB2.out.size); clear hk _hb)
        go_ret
        exact ⟨by simp, HB2.out⟩
      | true =>
        go_wp2_with (first | (refine wpl_load_if (by rfl) 54 _ rfl W1.heap.size 0 rfl ((St.mk 0 [] ns E0 E0 g lo hi bd el).cells ⟨s.pn, none, none, s.pg, s.pb, s.pl, s.cn, 0, 0, s.cg, s.cb, s.cl⟩) _ (range_block K2.out) Tryz.underlying54 rfl (infoSt.trans rfl) ?_) | (refine wpl_put rfl _ _ _ rfl rfl W1.heap.size _ _ rfl rfl _ _ K2.out (by exact Nat.le_of_ble_eq_true rfl) (by kernel_rfl) (by rfl) ?_; intro wq hk _hb; replace K1 := Lib.hid ((_hb.block _ (lt_of_block K1.out) (by have := HZz.out; omega)).trans K1.out); replace K2 := Lib.hid hk; replace HB2 := Lib.hid (_hb.below HB2.out (by have := HZz.out; omega) HB2.out.size); clear hk _hb))
        refine (HZr.out _ HB2.out).mono ?_
        rintro z w5 ⟨rfl, hB⟩
        replace HB2 := Lib.hid (HB2.out.trans (hB.mono HB2.out.size))
        go_wp2_with fail
        go_ret
        exact ⟨by simp, HB2.out⟩
set_option maxRecDepth 100000 in
set_option maxHeartbeats 6400000 in
theorem mayStmt_3 (n : Nat) (hEv : EvS n) (nm : List UInt8) (ns : List (List UInt8)) (e a : Ex) (g : Exs) (lo hi : Nat) (bd el : Sts) (hb : bd.size ≤ n) (hl : el.size ≤ n) (s : StP) (N : Nat) (w : World) (hN : N ≤ w.heap.size) (hx : (St.mk 3 nm ns e a g lo hi bd el).Ok w N s) :
    Calls Tryz.prog 106 #[(St.mk 3 nm ns e a g lo hi bd el).val s] w fun z w' => z = .returned (.bool (St.mk 3 nm ns e a g lo hi bd el).may) ∧ Below w.heap.size w w' := by
  obtain ⟨A1, hA1⟩ : ∃ A1, A1 = (#[.int .i64 3, .string (str nm), .slice s.pn ns.length s.cn, .int .i64 e.op, .int .u64 (e.word : Int), .string (str e.name), .slice s.pe e.args.len s.ce, .int .i64 a.op, .int .u64 (a.word : Int), .string (str a.name), .slice s.pa a.args.len s.ca, .slice s.pg g.len s.cg, .int .u64 (lo : Int), .int .u64 (hi : Int), .slice s.pb bd.len s.cb, .slice s.pl el.len s.cl] : Array Value) := ⟨_, rfl⟩
  obtain ⟨W1, hW1⟩ : ∃ W1, w.alloc (Obj.cells A1 54) = W1 := ⟨_, rfl⟩
  obtain ⟨W2, hW2⟩ : ∃ W2, W1.alloc (Obj.cells A1 54) = W2 := ⟨_, rfl⟩
  have hB1 : Below w.heap.size w W1 := by rw [← hW1]; exact (Below.refl _ w).alloc (Nat.le_refl _) _
  have hz1 : W1.heap.size = w.heap.size + 1 := by rw [← hW1]; simp
  have HZ1 := Lib.hid (show A1.size = 16 by rw [hA1]; rfl)
  have HO1 := Lib.hid (show A1.all (·.oneCell') = true by rw [hA1]; simp [Value.oneCell'])
  have HI1 := Lib.hid (infoSt.trans (by rw [HZ1.out]) : (Tryz.prog.info? 54).map (·.size) = some A1.size)
  have F2 := Lib.hid (show W1.rangeAt w.heap.size 0 A1.toList by rw [← hW1]; exact range_new w A1 _)
  have k10 : W2.heap[w.heap.size]? = some (.cells A1 54 (0, 0)) := by rw [← hW2, Below.heap_alloc _ _ _ (by omega), ← hW1]; exact heap_alloc_new w _
  have k20 : W2.heap[W1.heap.size]? = some (.cells A1 54 (0, 0)) := by rw [← hW2]; exact heap_alloc_new W1 _
  have HB2 := Lib.hid (show Below w.heap.size w W2 by rw [← hW2]; exact hB1.alloc (by omega) _)
  have hz2 : W2.heap.size = W1.heap.size + 1 := by rw [← hW2]; simp
  have He := Lib.hid (fun (w1 : World) (hB : Below w.heap.size w w1) => mayExpr_any e s.pe s.ce N w1 (Nat.le_trans hN hB.size) (hx.2.1.later (hB.mono hN) (Nat.le_refl N)))
  have Hbd := Lib.hid (fun (w1 : World) (hB : Below w.heap.size w w1) => hEv bd hb s.pb s.cb N w1 (Nat.le_trans hN hB.size) (hx.2.2.2.2.1.later (hB.mono hN) (Nat.le_refl N)))
  have Hel := Lib.hid (fun (w1 : World) (hB : Below w.heap.size w w1) => hEv el hl s.pl s.cl N w1 (Nat.le_trans hN hB.size) (hx.2.2.2.2.2.1.later (hB.mono hN) (Nat.le_refl N)))
  unfold Ex.val at He
  have HZr := Lib.hid (fun (w1 : World) (hB : Below w.heap.size w w1) => isZeroSt_any (St.mk 0 nm ns E0 a g lo hi .nil .nil) rfl ⟨s.pn, none, s.pa, s.pg, none, none, s.cn, 0, s.ca, s.cg, 0, 0⟩ N w1 (Nat.le_trans hN hB.size) (St.Ok.later (x := St.mk 0 nm ns E0 a g lo hi .nil .nil) (s := ⟨s.pn, none, s.pa, s.pg, none, none, s.cn, 0, s.ca, s.cg, 0, 0⟩) (show St.Ok w N (St.mk 0 nm ns E0 a g lo hi .nil .nil) ⟨s.pn, none, s.pa, s.pg, none, none, s.cn, 0, s.ca, s.cg, 0, 0⟩ from ⟨hx.1, E0_ok, hx.2.2.1, hx.2.2.2.1, nilIn, nilIn, hx.2.2.2.2.2.2⟩) (hB.mono hN) (Nat.le_refl N)))
  unfold St.val at HZr
  rw [st_may_3]
  clear hx hEv
  generalize e.may = ze at *
  generalize bd.may = zbd at *
  generalize el.may = zel at *
  generalize (St.mk 0 nm ns E0 a g lo hi .nil .nil).isZero = zz at *
  show Calls _ _ #[.agg #[.int .i64 3, .string (str nm), .slice s.pn ns.length s.cn, .int .i64 e.op, .int .u64 (e.word : Int), .string (str e.name), .slice s.pe e.args.len s.ce, .int .i64 a.op, .int .u64 (a.word : Int), .string (str a.name), .slice s.pa a.args.len s.ca, .slice s.pg g.len s.cg, .int .u64 (lo : Int), .int .u64 (hi : Int), .slice s.pb bd.len s.cb, .slice s.pl el.len s.cl]] w _
  rw [← hA1]
  have HA1 := Lib.hid hA1
  have HZz := Lib.hid hz1
  clear hB1 hA1 hz1 hz2
  go_enter Tryz.func106, Tryz.ntmps106
  go_upto_region 3 with (first | (refine wpl_load rfl 54 _ rfl w.heap.size 0 rfl A1 _ F2.out Tryz.underlying54 rfl HI1.out ?_) | (refine wpl_store_new rfl 54 _ _ rfl _ A1 _ rfl rfl (by rw [HZ1.out]; rfl) HI1.out HO1.out ?_; rw [hW2]))
  rw [HA1.out] at k10 k20
  clear HA1 hW1 hW2 HZ1 HO1 HI1 F2
  have K1 := Lib.hid k10
  have K2 := Lib.hid k20
  clear k10 k20
  go_upto_region 4 with (refine wpl_put rfl _ _ _ rfl rfl W1.heap.size _ _ rfl rfl _ _ K2.out (by exact Nat.le_of_ble_eq_true rfl) (by kernel_rfl) (by rfl) ?_; intro wq hk hb; replace K1 := Lib.hid ((hb.block _ (lt_of_block K1.out) (by have := HZz.out; omega)).trans K1.out); replace K2 := Lib.hid hk; replace HB2 := Lib.hid (hb.below HB2.out (by have := HZz.out; omega) HB2.out.size); clear hk hb)
  have d0 := cell_block K1.out (j := 0) (v := .int .i64 3) rfl
  have d3 := cell_block K1.out (j := 3) (v := .int .i64 e.op) rfl
  have d4 := cell_block K1.out (j := 4) (v := .int .u64 (e.word : Int)) rfl
  have d5 := cell_block K1.out (j := 5) (v := .string (str e.name)) rfl
  have d6 := cell_block K1.out (j := 6) (v := .slice s.pe e.args.len s.ce) rfl
  go_wp2_with fail
  refine (He.out _ HB2.out).mono ?_
  rintro z w5 ⟨rfl, hB⟩
  replace K1 := Lib.hid ((hB.block _ (lt_of_block K1.out)).trans K1.out)
  replace K2 := Lib.hid ((hB.block _ (lt_of_block K2.out)).trans K2.out)
  replace HB2 := Lib.hid (HB2.out.trans (hB.mono HB2.out.size))
  clear hB
  clear d3 d4 d5 d6
  cases ze with
  | false =>
    go_wp2_with (refine wpl_put rfl _ _ _ rfl rfl W1.heap.size _ _ rfl rfl _ _ K2.out (by exact Nat.le_of_ble_eq_true rfl) (by kernel_rfl) (by rfl) ?_; intro wq hk hb; replace K1 := Lib.hid ((hb.block _ (lt_of_block K1.out) (by have := HZz.out; omega)).trans K1.out); replace K2 := Lib.hid hk; replace HB2 := Lib.hid (hb.below HB2.out (by have := HZz.out; omega) HB2.out.size); clear hk hb)
    go_ret
    exact ⟨by simp, HB2.out⟩
  | true =>
    have d14 := cell_block K1.out (j := 14) (v := .slice s.pb bd.len s.cb) rfl
    go_wp2_with fail
    refine (Hbd.out _ HB2.out).mono ?_
    rintro z w5 ⟨rfl, hB⟩
    replace K1 := Lib.hid ((hB.block _ (lt_of_block K1.out)).trans K1.out)
    replace K2 := Lib.hid ((hB.block _ (lt_of_block K2.out)).trans K2.out)
    replace HB2 := Lib.hid (HB2.out.trans (hB.mono HB2.out.size))
    clear hB
    clear d14
    cases zbd with
    | false =>
      go_wp2_with (refine wpl_put rfl _ _ _ rfl rfl W1.heap.size _ _ rfl rfl _ _ K2.out (by exact Nat.le_of_ble_eq_true rfl) (by kernel_rfl) (by rfl) ?_; intro wq hk hb; replace K1 := Lib.hid ((hb.block _ (lt_of_block K1.out) (by have := HZz.out; omega)).trans K1.out); replace K2 := Lib.hid hk; replace HB2 := Lib.hid (hb.below HB2.out (by have := HZz.out; omega) HB2.out.size); clear hk hb)
      go_ret
      exact ⟨by simp, HB2.out⟩
    | true =>
      have d15 := cell_block K1.out (j := 15) (v := .slice s.pl el.len s.cl) rfl
      go_wp2_with fail
      refine (Hel.out _ HB2.out).mono ?_
      rintro z w5 ⟨rfl, hB⟩
      replace K1 := Lib.hid ((hB.block _ (lt_of_block K1.out)).trans K1.out)
      replace K2 := Lib.hid ((hB.block _ (lt_of_block K2.out)).trans K2.out)
      replace HB2 := Lib.hid (HB2.out.trans (hB.mono HB2.out.size))
      clear hB
      clear d15
      cases zel with
      | false =>
        go_wp2_with (refine wpl_put rfl _ _ _ rfl rfl W1.heap.size _ _ rfl rfl _ _ K2.out (by exact Nat.le_of_ble_eq_true rfl) (by kernel_rfl) (by rfl) ?_; intro wq hk hb; replace K1 := Lib.hid ((hb.block _ (lt_of_block K1.out) (by have := HZz.out; omega)).trans K1.out); replace K2 := Lib.hid hk; replace HB2 := Lib.hid (hb.below HB2.out (by have := HZz.out; omega) HB2.out.size); clear hk hb)
        go_ret
        exact ⟨by simp, HB2.out⟩
      | true =>
        go_wp2_with (first | (refine wpl_load_if (by rfl) 54 _ rfl W1.heap.size 0 rfl ((St.mk 0 nm ns E0 a g lo hi .nil .nil).cells ⟨s.pn, none, s.pa, s.pg, none, none, s.cn, 0, s.ca, s.cg, 0, 0⟩) _ (range_block K2.out) Tryz.underlying54 rfl (infoSt.trans rfl) ?_) | (refine wpl_put rfl _ _ _ rfl rfl W1.heap.size _ _ rfl rfl _ _ K2.out (by exact Nat.le_of_ble_eq_true rfl) (by kernel_rfl) (by rfl) ?_; intro wq hk hb; replace K1 := Lib.hid ((hb.block _ (lt_of_block K1.out) (by have := HZz.out; omega)).trans K1.out); replace K2 := Lib.hid hk; replace HB2 := Lib.hid (hb.below HB2.out (by have := HZz.out; omega) HB2.out.size); clear hk hb))
        refine (HZr.out _ HB2.out).mono ?_
        rintro z w5 ⟨rfl, hB⟩
        replace HB2 := Lib.hid (HB2.out.trans (hB.mono HB2.out.size))
        go_wp2_with fail
        go_ret
        exact ⟨by simp, HB2.out⟩
set_option maxRecDepth 100000 in
set_option maxHeartbeats 6400000 in
theorem mayStmt_4 (n : Nat) (hEv : EvS n) (nm : List UInt8) (ns : List (List UInt8)) (e a : Ex) (g : Exs) (lo hi : Nat) (bd el : Sts) (hb : bd.size ≤ n) (_hl : el.size ≤ n) (s : StP) (N : Nat) (w : World) (hN : N ≤ w.heap.size) (hx : (St.mk 4 nm ns e a g lo hi bd el).Ok w N s) :
    Calls Tryz.prog 106 #[(St.mk 4 nm ns e a g lo hi bd el).val s] w fun z w' => z = .returned (.bool (St.mk 4 nm ns e a g lo hi bd el).may) ∧ Below w.heap.size w w' := by
  obtain ⟨A1, hA1⟩ : ∃ A1, A1 = (#[.int .i64 4, .string (str nm), .slice s.pn ns.length s.cn, .int .i64 e.op, .int .u64 (e.word : Int), .string (str e.name), .slice s.pe e.args.len s.ce, .int .i64 a.op, .int .u64 (a.word : Int), .string (str a.name), .slice s.pa a.args.len s.ca, .slice s.pg g.len s.cg, .int .u64 (lo : Int), .int .u64 (hi : Int), .slice s.pb bd.len s.cb, .slice s.pl el.len s.cl] : Array Value) := ⟨_, rfl⟩
  obtain ⟨W1, hW1⟩ : ∃ W1, w.alloc (Obj.cells A1 54) = W1 := ⟨_, rfl⟩
  obtain ⟨W2, hW2⟩ : ∃ W2, W1.alloc (Obj.cells A1 54) = W2 := ⟨_, rfl⟩
  have hB1 : Below w.heap.size w W1 := by rw [← hW1]; exact (Below.refl _ w).alloc (Nat.le_refl _) _
  have hz1 : W1.heap.size = w.heap.size + 1 := by rw [← hW1]; simp
  have HZ1 := Lib.hid (show A1.size = 16 by rw [hA1]; rfl)
  have HO1 := Lib.hid (show A1.all (·.oneCell') = true by rw [hA1]; simp [Value.oneCell'])
  have HI1 := Lib.hid (infoSt.trans (by rw [HZ1.out]) : (Tryz.prog.info? 54).map (·.size) = some A1.size)
  have F2 := Lib.hid (show W1.rangeAt w.heap.size 0 A1.toList by rw [← hW1]; exact range_new w A1 _)
  have k10 : W2.heap[w.heap.size]? = some (.cells A1 54 (0, 0)) := by rw [← hW2, Below.heap_alloc _ _ _ (by omega), ← hW1]; exact heap_alloc_new w _
  have k20 : W2.heap[W1.heap.size]? = some (.cells A1 54 (0, 0)) := by rw [← hW2]; exact heap_alloc_new W1 _
  have HB2 := Lib.hid (show Below w.heap.size w W2 by rw [← hW2]; exact hB1.alloc (by omega) _)
  have hz2 : W2.heap.size = W1.heap.size + 1 := by rw [← hW2]; simp
  have He := Lib.hid (fun (w1 : World) (hB : Below w.heap.size w w1) => mayExpr_any e s.pe s.ce N w1 (Nat.le_trans hN hB.size) (hx.2.1.later (hB.mono hN) (Nat.le_refl N)))
  have Hbd := Lib.hid (fun (w1 : World) (hB : Below w.heap.size w w1) => hEv bd hb s.pb s.cb N w1 (Nat.le_trans hN hB.size) (hx.2.2.2.2.1.later (hB.mono hN) (Nat.le_refl N)))
  unfold Ex.val at He
  have HZr := Lib.hid (fun (w1 : World) (hB : Below w.heap.size w w1) => isZeroSt_any (St.mk 0 nm ns E0 a g lo hi .nil el) rfl ⟨s.pn, none, s.pa, s.pg, none, s.pl, s.cn, 0, s.ca, s.cg, 0, s.cl⟩ N w1 (Nat.le_trans hN hB.size) (St.Ok.later (x := St.mk 0 nm ns E0 a g lo hi .nil el) (s := ⟨s.pn, none, s.pa, s.pg, none, s.pl, s.cn, 0, s.ca, s.cg, 0, s.cl⟩) (show St.Ok w N (St.mk 0 nm ns E0 a g lo hi .nil el) ⟨s.pn, none, s.pa, s.pg, none, s.pl, s.cn, 0, s.ca, s.cg, 0, s.cl⟩ from ⟨hx.1, E0_ok, hx.2.2.1, hx.2.2.2.1, nilIn, hx.2.2.2.2.2.1, hx.2.2.2.2.2.2⟩) (hB.mono hN) (Nat.le_refl N)))
  unfold St.val at HZr
  rw [st_may_4]
  clear hx hEv
  generalize e.may = ze at *
  generalize bd.may = zbd at *
  generalize (St.mk 0 nm ns E0 a g lo hi .nil el).isZero = zz at *
  show Calls _ _ #[.agg #[.int .i64 4, .string (str nm), .slice s.pn ns.length s.cn, .int .i64 e.op, .int .u64 (e.word : Int), .string (str e.name), .slice s.pe e.args.len s.ce, .int .i64 a.op, .int .u64 (a.word : Int), .string (str a.name), .slice s.pa a.args.len s.ca, .slice s.pg g.len s.cg, .int .u64 (lo : Int), .int .u64 (hi : Int), .slice s.pb bd.len s.cb, .slice s.pl el.len s.cl]] w _
  rw [← hA1]
  have HA1 := Lib.hid hA1
  have HZz := Lib.hid hz1
  clear hB1 hA1 hz1 hz2
  go_enter Tryz.func106, Tryz.ntmps106
  go_upto_region 3 with (first | (refine wpl_load rfl 54 _ rfl w.heap.size 0 rfl A1 _ F2.out Tryz.underlying54 rfl HI1.out ?_) | (refine wpl_store_new rfl 54 _ _ rfl _ A1 _ rfl rfl (by rw [HZ1.out]; rfl) HI1.out HO1.out ?_; rw [hW2]))
  rw [HA1.out] at k10 k20
  clear HA1 hW1 hW2 HZ1 HO1 HI1 F2
  have K1 := Lib.hid k10
  have K2 := Lib.hid k20
  clear k10 k20
  go_upto_region 4 with (refine wpl_put rfl _ _ _ rfl rfl W1.heap.size _ _ rfl rfl _ _ K2.out (by exact Nat.le_of_ble_eq_true rfl) (by kernel_rfl) (by rfl) ?_; intro wq hk hb; replace K1 := Lib.hid ((hb.block _ (lt_of_block K1.out) (by have := HZz.out; omega)).trans K1.out); replace K2 := Lib.hid hk; replace HB2 := Lib.hid (hb.below HB2.out (by have := HZz.out; omega) HB2.out.size); clear hk hb)
  have d0 := cell_block K1.out (j := 0) (v := .int .i64 4) rfl
  have d3 := cell_block K1.out (j := 3) (v := .int .i64 e.op) rfl
  have d4 := cell_block K1.out (j := 4) (v := .int .u64 (e.word : Int)) rfl
  have d5 := cell_block K1.out (j := 5) (v := .string (str e.name)) rfl
  have d6 := cell_block K1.out (j := 6) (v := .slice s.pe e.args.len s.ce) rfl
  go_wp2_with fail
  refine (He.out _ HB2.out).mono ?_
  rintro z w5 ⟨rfl, hB⟩
  replace K1 := Lib.hid ((hB.block _ (lt_of_block K1.out)).trans K1.out)
  replace K2 := Lib.hid ((hB.block _ (lt_of_block K2.out)).trans K2.out)
  replace HB2 := Lib.hid (HB2.out.trans (hB.mono HB2.out.size))
  clear hB
  clear d3 d4 d5 d6
  cases ze with
  | false =>
    go_wp2_with (refine wpl_put rfl _ _ _ rfl rfl W1.heap.size _ _ rfl rfl _ _ K2.out (by exact Nat.le_of_ble_eq_true rfl) (by kernel_rfl) (by rfl) ?_; intro wq hk hb; replace K1 := Lib.hid ((hb.block _ (lt_of_block K1.out) (by have := HZz.out; omega)).trans K1.out); replace K2 := Lib.hid hk; replace HB2 := Lib.hid (hb.below HB2.out (by have := HZz.out; omega) HB2.out.size); clear hk hb)
    go_ret
    exact ⟨by simp, HB2.out⟩
  | true =>
    have d14 := cell_block K1.out (j := 14) (v := .slice s.pb bd.len s.cb) rfl
    go_wp2_with fail
    refine (Hbd.out _ HB2.out).mono ?_
    rintro z w5 ⟨rfl, hB⟩
    replace K1 := Lib.hid ((hB.block _ (lt_of_block K1.out)).trans K1.out)
    replace K2 := Lib.hid ((hB.block _ (lt_of_block K2.out)).trans K2.out)
    replace HB2 := Lib.hid (HB2.out.trans (hB.mono HB2.out.size))
    clear hB
    clear d14
    cases zbd with
    | false =>
      go_wp2_with (refine wpl_put rfl _ _ _ rfl rfl W1.heap.size _ _ rfl rfl _ _ K2.out (by exact Nat.le_of_ble_eq_true rfl) (by kernel_rfl) (by rfl) ?_; intro wq hk hb; replace K1 := Lib.hid ((hb.block _ (lt_of_block K1.out) (by have := HZz.out; omega)).trans K1.out); replace K2 := Lib.hid hk; replace HB2 := Lib.hid (hb.below HB2.out (by have := HZz.out; omega) HB2.out.size); clear hk hb)
      go_ret
      exact ⟨by simp, HB2.out⟩
    | true =>
      go_wp2_with (first | (refine wpl_load_if (by rfl) 54 _ rfl W1.heap.size 0 rfl ((St.mk 0 nm ns E0 a g lo hi .nil el).cells ⟨s.pn, none, s.pa, s.pg, none, s.pl, s.cn, 0, s.ca, s.cg, 0, s.cl⟩) _ (range_block K2.out) Tryz.underlying54 rfl (infoSt.trans rfl) ?_) | (refine wpl_put rfl _ _ _ rfl rfl W1.heap.size _ _ rfl rfl _ _ K2.out (by exact Nat.le_of_ble_eq_true rfl) (by kernel_rfl) (by rfl) ?_; intro wq hk hb; replace K1 := Lib.hid ((hb.block _ (lt_of_block K1.out) (by have := HZz.out; omega)).trans K1.out); replace K2 := Lib.hid hk; replace HB2 := Lib.hid (hb.below HB2.out (by have := HZz.out; omega) HB2.out.size); clear hk hb))
      refine (HZr.out _ HB2.out).mono ?_
      rintro z w5 ⟨rfl, hB⟩
      replace HB2 := Lib.hid (HB2.out.trans (hB.mono HB2.out.size))
      go_wp2_with fail
      go_ret
      exact ⟨by simp, HB2.out⟩
set_option maxRecDepth 100000 in
set_option maxHeartbeats 6400000 in
theorem mayStmt_5 (n : Nat) (hEv : EvS n) (nm : List UInt8) (ns : List (List UInt8)) (e a : Ex) (g : Exs) (lo hi : Nat) (bd el : Sts) (hb : bd.size ≤ n) (_hl : el.size ≤ n) (s : StP) (N : Nat) (w : World) (hN : N ≤ w.heap.size) (hx : (St.mk 5 nm ns e a g lo hi bd el).Ok w N s) :
    Calls Tryz.prog 106 #[(St.mk 5 nm ns e a g lo hi bd el).val s] w fun z w' => z = .returned (.bool (St.mk 5 nm ns e a g lo hi bd el).may) ∧ Below w.heap.size w w' := by
  obtain ⟨A1, hA1⟩ : ∃ A1, A1 = (#[.int .i64 5, .string (str nm), .slice s.pn ns.length s.cn, .int .i64 e.op, .int .u64 (e.word : Int), .string (str e.name), .slice s.pe e.args.len s.ce, .int .i64 a.op, .int .u64 (a.word : Int), .string (str a.name), .slice s.pa a.args.len s.ca, .slice s.pg g.len s.cg, .int .u64 (lo : Int), .int .u64 (hi : Int), .slice s.pb bd.len s.cb, .slice s.pl el.len s.cl] : Array Value) := ⟨_, rfl⟩
  obtain ⟨W1, hW1⟩ : ∃ W1, w.alloc (Obj.cells A1 54) = W1 := ⟨_, rfl⟩
  obtain ⟨W2, hW2⟩ : ∃ W2, W1.alloc (Obj.cells A1 54) = W2 := ⟨_, rfl⟩
  have hB1 : Below w.heap.size w W1 := by rw [← hW1]; exact (Below.refl _ w).alloc (Nat.le_refl _) _
  have hz1 : W1.heap.size = w.heap.size + 1 := by rw [← hW1]; simp
  have HZ1 := Lib.hid (show A1.size = 16 by rw [hA1]; rfl)
  have HO1 := Lib.hid (show A1.all (·.oneCell') = true by rw [hA1]; simp [Value.oneCell'])
  have HI1 := Lib.hid (infoSt.trans (by rw [HZ1.out]) : (Tryz.prog.info? 54).map (·.size) = some A1.size)
  have F2 := Lib.hid (show W1.rangeAt w.heap.size 0 A1.toList by rw [← hW1]; exact range_new w A1 _)
  have k10 : W2.heap[w.heap.size]? = some (.cells A1 54 (0, 0)) := by rw [← hW2, Below.heap_alloc _ _ _ (by omega), ← hW1]; exact heap_alloc_new w _
  have k20 : W2.heap[W1.heap.size]? = some (.cells A1 54 (0, 0)) := by rw [← hW2]; exact heap_alloc_new W1 _
  have HB2 := Lib.hid (show Below w.heap.size w W2 by rw [← hW2]; exact hB1.alloc (by omega) _)
  have hz2 : W2.heap.size = W1.heap.size + 1 := by rw [← hW2]; simp
  have Hnm := Lib.hid (fun w => name_any (str nm) w)
  rw [str_data] at Hnm
  have Hbd := Lib.hid (fun (w1 : World) (hB : Below w.heap.size w w1) => hEv bd hb s.pb s.cb N w1 (Nat.le_trans hN hB.size) (hx.2.2.2.2.1.later (hB.mono hN) (Nat.le_refl N)))
  have HZr := Lib.hid (fun (w1 : World) (hB : Below w.heap.size w w1) => isZeroSt_any (St.mk 0 [] ns e a g 0 0 .nil el) rfl ⟨s.pn, s.pe, s.pa, s.pg, none, s.pl, s.cn, s.ce, s.ca, s.cg, 0, s.cl⟩ N w1 (Nat.le_trans hN hB.size) (St.Ok.later (x := St.mk 0 [] ns e a g 0 0 .nil el) (s := ⟨s.pn, s.pe, s.pa, s.pg, none, s.pl, s.cn, s.ce, s.ca, s.cg, 0, s.cl⟩) (show St.Ok w N (St.mk 0 [] ns e a g 0 0 .nil el) ⟨s.pn, s.pe, s.pa, s.pg, none, s.pl, s.cn, s.ce, s.ca, s.cg, 0, s.cl⟩ from ⟨hx.1, hx.2.1, hx.2.2.1, hx.2.2.2.1, nilIn, hx.2.2.2.2.2.1, (show (0 : Nat) < 18446744073709551616 by decide), (show (0 : Nat) < 18446744073709551616 by decide)⟩) (hB.mono hN) (Nat.le_refl N)))
  unfold St.val at HZr
  rw [st_may_5]
  clear hx hEv
  generalize nameB nm = znm at *
  generalize bd.may = zbd at *
  generalize (St.mk 0 [] ns e a g 0 0 .nil el).isZero = zz at *
  show Calls _ _ #[.agg #[.int .i64 5, .string (str nm), .slice s.pn ns.length s.cn, .int .i64 e.op, .int .u64 (e.word : Int), .string (str e.name), .slice s.pe e.args.len s.ce, .int .i64 a.op, .int .u64 (a.word : Int), .string (str a.name), .slice s.pa a.args.len s.ca, .slice s.pg g.len s.cg, .int .u64 (lo : Int), .int .u64 (hi : Int), .slice s.pb bd.len s.cb, .slice s.pl el.len s.cl]] w _
  rw [← hA1]
  have HA1 := Lib.hid hA1
  have HZz := Lib.hid hz1
  clear hB1 hA1 hz1 hz2
  go_enter Tryz.func106, Tryz.ntmps106
  go_upto_region 3 with (first | (refine wpl_load rfl 54 _ rfl w.heap.size 0 rfl A1 _ F2.out Tryz.underlying54 rfl HI1.out ?_) | (refine wpl_store_new rfl 54 _ _ rfl _ A1 _ rfl rfl (by rw [HZ1.out]; rfl) HI1.out HO1.out ?_; rw [hW2]))
  rw [HA1.out] at k10 k20
  clear HA1 hW1 hW2 HZ1 HO1 HI1 F2
  have K1 := Lib.hid k10
  have K2 := Lib.hid k20
  clear k10 k20
  go_upto_region 4 with (refine wpl_put rfl _ _ _ rfl rfl W1.heap.size _ _ rfl rfl _ _ K2.out (by exact Nat.le_of_ble_eq_true rfl) (by kernel_rfl) (by rfl) ?_; intro wq hk hb; replace K1 := Lib.hid ((hb.block _ (lt_of_block K1.out) (by have := HZz.out; omega)).trans K1.out); replace K2 := Lib.hid hk; replace HB2 := Lib.hid (hb.below HB2.out (by have := HZz.out; omega) HB2.out.size); clear hk hb)
  have d0 := cell_block K1.out (j := 0) (v := .int .i64 5) rfl
  have d1 := cell_block K1.out (j := 1) (v := .string (str nm)) rfl
  go_wp2_with fail
  refine (Hnm.out _).mono ?_
  rintro z w5 ⟨rfl, rfl⟩
  clear d1
  cases znm with
  | false =>
    go_wp2_with (refine wpl_put rfl _ _ _ rfl rfl W1.heap.size _ _ rfl rfl _ _ K2.out (by exact Nat.le_of_ble_eq_true rfl) (by kernel_rfl) (by rfl) ?_; intro wq hk hb; replace K1 := Lib.hid ((hb.block _ (lt_of_block K1.out) (by have := HZz.out; omega)).trans K1.out); replace K2 := Lib.hid hk; replace HB2 := Lib.hid (hb.below HB2.out (by have := HZz.out; omega) HB2.out.size); clear hk hb)
    go_ret
    exact ⟨by simp, HB2.out⟩
  | true =>
    have d14 := cell_block K1.out (j := 14) (v := .slice s.pb bd.len s.cb) rfl
    go_wp2_with fail
    refine (Hbd.out _ HB2.out).mono ?_
    rintro z w5 ⟨rfl, hB⟩
    replace K1 := Lib.hid ((hB.block _ (lt_of_block K1.out)).trans K1.out)
    replace K2 := Lib.hid ((hB.block _ (lt_of_block K2.out)).trans K2.out)
    replace HB2 := Lib.hid (HB2.out.trans (hB.mono HB2.out.size))
    clear hB
    clear d14
    cases zbd with
    | false =>
      go_wp2_with (refine wpl_put rfl _ _ _ rfl rfl W1.heap.size _ _ rfl rfl _ _ K2.out (by exact Nat.le_of_ble_eq_true rfl) (by kernel_rfl) (by rfl) ?_; intro wq hk hb; replace K1 := Lib.hid ((hb.block _ (lt_of_block K1.out) (by have := HZz.out; omega)).trans K1.out); replace K2 := Lib.hid hk; replace HB2 := Lib.hid (hb.below HB2.out (by have := HZz.out; omega) HB2.out.size); clear hk hb)
      go_ret
      exact ⟨by simp, HB2.out⟩
    | true =>
      go_wp2_with (first | (refine wpl_load_if (by rfl) 54 _ rfl W1.heap.size 0 rfl ((St.mk 0 [] ns e a g 0 0 .nil el).cells ⟨s.pn, s.pe, s.pa, s.pg, none, s.pl, s.cn, s.ce, s.ca, s.cg, 0, s.cl⟩) _ (range_block K2.out) Tryz.underlying54 rfl (infoSt.trans rfl) ?_) | (refine wpl_put rfl _ _ _ rfl rfl W1.heap.size _ _ rfl rfl _ _ K2.out (by exact Nat.le_of_ble_eq_true rfl) (by kernel_rfl) (by rfl) ?_; intro wq hk hb; replace K1 := Lib.hid ((hb.block _ (lt_of_block K1.out) (by have := HZz.out; omega)).trans K1.out); replace K2 := Lib.hid hk; replace HB2 := Lib.hid (hb.below HB2.out (by have := HZz.out; omega) HB2.out.size); clear hk hb))
      refine (HZr.out _ HB2.out).mono ?_
      rintro z w5 ⟨rfl, hB⟩
      replace HB2 := Lib.hid (HB2.out.trans (hB.mono HB2.out.size))
      go_wp2_with fail
      go_ret
      exact ⟨by simp, HB2.out⟩
set_option maxRecDepth 100000 in
set_option maxHeartbeats 6400000 in
theorem mayStmt_6 (n : Nat) (_hEv : EvS n) (nm : List UInt8) (ns : List (List UInt8)) (e a : Ex) (g : Exs) (lo hi : Nat) (bd el : Sts) (_hb : bd.size ≤ n) (_hl : el.size ≤ n) (s : StP) (N : Nat) (w : World) (hN : N ≤ w.heap.size) (hx : (St.mk 6 nm ns e a g lo hi bd el).Ok w N s) :
    Calls Tryz.prog 106 #[(St.mk 6 nm ns e a g lo hi bd el).val s] w fun z w' => z = .returned (.bool (St.mk 6 nm ns e a g lo hi bd el).may) ∧ Below w.heap.size w w' := by
  obtain ⟨A1, hA1⟩ : ∃ A1, A1 = (#[.int .i64 6, .string (str nm), .slice s.pn ns.length s.cn, .int .i64 e.op, .int .u64 (e.word : Int), .string (str e.name), .slice s.pe e.args.len s.ce, .int .i64 a.op, .int .u64 (a.word : Int), .string (str a.name), .slice s.pa a.args.len s.ca, .slice s.pg g.len s.cg, .int .u64 (lo : Int), .int .u64 (hi : Int), .slice s.pb bd.len s.cb, .slice s.pl el.len s.cl] : Array Value) := ⟨_, rfl⟩
  obtain ⟨W1, hW1⟩ : ∃ W1, w.alloc (Obj.cells A1 54) = W1 := ⟨_, rfl⟩
  obtain ⟨W2, hW2⟩ : ∃ W2, W1.alloc (Obj.cells A1 54) = W2 := ⟨_, rfl⟩
  have hB1 : Below w.heap.size w W1 := by rw [← hW1]; exact (Below.refl _ w).alloc (Nat.le_refl _) _
  have hz1 : W1.heap.size = w.heap.size + 1 := by rw [← hW1]; simp
  have HZ1 := Lib.hid (show A1.size = 16 by rw [hA1]; rfl)
  have HO1 := Lib.hid (show A1.all (·.oneCell') = true by rw [hA1]; simp [Value.oneCell'])
  have HI1 := Lib.hid (infoSt.trans (by rw [HZ1.out]) : (Tryz.prog.info? 54).map (·.size) = some A1.size)
  have F2 := Lib.hid (show W1.rangeAt w.heap.size 0 A1.toList by rw [← hW1]; exact range_new w A1 _)
  have k10 : W2.heap[w.heap.size]? = some (.cells A1 54 (0, 0)) := by rw [← hW2, Below.heap_alloc _ _ _ (by omega), ← hW1]; exact heap_alloc_new w _
  have k20 : W2.heap[W1.heap.size]? = some (.cells A1 54 (0, 0)) := by rw [← hW2]; exact heap_alloc_new W1 _
  have HB2 := Lib.hid (show Below w.heap.size w W2 by rw [← hW2]; exact hB1.alloc (by omega) _)
  have hz2 : W2.heap.size = W1.heap.size + 1 := by rw [← hW2]; simp
  have Hnm := Lib.hid (fun w => name_any (str nm) w)
  rw [str_data] at Hnm
  have Hns := Lib.hid (fun (w1 : World) (hB : Below w.heap.size w w1) => everyStr_any ns s.pn s.cn N w1 (hx.1.2.imp (Nat.le_refl N) (StrAt.later (hB.mono hN))))
  have Hg := Lib.hid (fun (w1 : World) (hB : Below w.heap.size w w1) => everyEx_any g s.pg s.cg N w1 (Nat.le_trans hN hB.size) (hx.2.2.2.1.later (hB.mono hN) (Nat.le_refl N)))
  have HZr := Lib.hid (fun (w1 : World) (hB : Below w.heap.size w w1) => isZeroSt_any (St.mk 0 [] [] e a .nil lo hi bd el) rfl ⟨none, s.pe, s.pa, none, s.pb, s.pl, 0, s.ce, s.ca, 0, s.cb, s.cl⟩ N w1 (Nat.le_trans hN hB.size) (St.Ok.later (x := St.mk 0 [] [] e a .nil lo hi bd el) (s := ⟨none, s.pe, s.pa, none, s.pb, s.pl, 0, s.ce, s.ca, 0, s.cb, s.cl⟩) (show St.Ok w N (St.mk 0 [] [] e a .nil lo hi bd el) ⟨none, s.pe, s.pa, none, s.pb, s.pl, 0, s.ce, s.ca, 0, s.cb, s.cl⟩ from ⟨⟨Nat.zero_le _, nilRow⟩, hx.2.1, hx.2.2.1, nilExs, hx.2.2.2.2.1, hx.2.2.2.2.2.1, hx.2.2.2.2.2.2⟩) (hB.mono hN) (Nat.le_refl N)))
  unfold St.val at HZr
  rw [st_may_6]
  clear hx _hEv
  generalize nameB nm = znm at *
  generalize namesB ns = zns at *
  generalize g.may = zg at *
  generalize (St.mk 0 [] [] e a .nil lo hi bd el).isZero = zz at *
  show Calls _ _ #[.agg #[.int .i64 6, .string (str nm), .slice s.pn ns.length s.cn, .int .i64 e.op, .int .u64 (e.word : Int), .string (str e.name), .slice s.pe e.args.len s.ce, .int .i64 a.op, .int .u64 (a.word : Int), .string (str a.name), .slice s.pa a.args.len s.ca, .slice s.pg g.len s.cg, .int .u64 (lo : Int), .int .u64 (hi : Int), .slice s.pb bd.len s.cb, .slice s.pl el.len s.cl]] w _
  rw [← hA1]
  have HA1 := Lib.hid hA1
  have HZz := Lib.hid hz1
  clear hB1 hA1 hz1 hz2
  go_enter Tryz.func106, Tryz.ntmps106
  go_upto_region 3 with (first | (refine wpl_load rfl 54 _ rfl w.heap.size 0 rfl A1 _ F2.out Tryz.underlying54 rfl HI1.out ?_) | (refine wpl_store_new rfl 54 _ _ rfl _ A1 _ rfl rfl (by rw [HZ1.out]; rfl) HI1.out HO1.out ?_; rw [hW2]))
  rw [HA1.out] at k10 k20
  clear HA1 hW1 hW2 HZ1 HO1 HI1 F2
  have K1 := Lib.hid k10
  have K2 := Lib.hid k20
  clear k10 k20
  go_upto_region 4 with (refine wpl_put rfl _ _ _ rfl rfl W1.heap.size _ _ rfl rfl _ _ K2.out (by exact Nat.le_of_ble_eq_true rfl) (by kernel_rfl) (by rfl) ?_; intro wq hk _hb; replace K1 := Lib.hid ((_hb.block _ (lt_of_block K1.out) (by have := HZz.out; omega)).trans K1.out); replace K2 := Lib.hid hk; replace HB2 := Lib.hid (_hb.below HB2.out (by have := HZz.out; omega) HB2.out.size); clear hk _hb)
  have d0 := cell_block K1.out (j := 0) (v := .int .i64 6) rfl
  have d1 := cell_block K1.out (j := 1) (v := .string (str nm)) rfl
  go_wp2_with fail
  refine (Hnm.out _).mono ?_
  rintro z w5 ⟨rfl, rfl⟩
  clear d1
  cases znm with
  | false =>
    go_wp2_with (refine wpl_put rfl _ _ _ rfl rfl W1.heap.size _ _ rfl rfl _ _ K2.out (by exact Nat.le_of_ble_eq_true rfl) (by kernel_rfl) (by rfl) ?_; intro wq hk _hb; replace K1 := Lib.hid ((_hb.block _ (lt_of_block K1.out) (by have := HZz.out; omega)).trans K1.out); replace K2 := Lib.hid hk; replace HB2 := Lib.hid (_hb.below HB2.out (by have := HZz.out; omega) HB2.out.size); clear hk _hb)
    go_ret
    exact ⟨by simp, HB2.out⟩
  | true =>
    have d2 := cell_block K1.out (j := 2) (v := .slice s.pn ns.length s.cn) rfl
    go_wp2_with fail
    refine (Hns.out _ HB2.out).mono ?_
    rintro z w5 ⟨rfl, rfl⟩
    clear d2
    cases zns with
    | false =>
      go_wp2_with (refine wpl_put rfl _ _ _ rfl rfl W1.heap.size _ _ rfl rfl _ _ K2.out (by exact Nat.le_of_ble_eq_true rfl) (by kernel_rfl) (by rfl) ?_; intro wq hk _hb; replace K1 := Lib.hid ((_hb.block _ (lt_of_block K1.out) (by have := HZz.out; omega)).trans K1.out); replace K2 := Lib.hid hk; replace HB2 := Lib.hid (_hb.below HB2.out (by have := HZz.out; omega) HB2.out.size); clear hk _hb)
      go_ret
      exact ⟨by simp, HB2.out⟩
    | true =>
      have d11 := cell_block K1.out (j := 11) (v := .slice s.pg g.len s.cg) rfl
      go_wp2_with fail
      refine (Hg.out _ HB2.out).mono ?_
      rintro z w5 ⟨rfl, hB⟩
      replace K1 := Lib.hid ((hB.block _ (lt_of_block K1.out)).trans K1.out)
      replace K2 := Lib.hid ((hB.block _ (lt_of_block K2.out)).trans K2.out)
      replace HB2 := Lib.hid (HB2.out.trans (hB.mono HB2.out.size))
      clear hB
      clear d11
      cases zg with
      | false =>
        go_wp2_with (refine wpl_put rfl _ _ _ rfl rfl W1.heap.size _ _ rfl rfl _ _ K2.out (by exact Nat.le_of_ble_eq_true rfl) (by kernel_rfl) (by rfl) ?_; intro wq hk _hb; replace K1 := Lib.hid ((_hb.block _ (lt_of_block K1.out) (by have := HZz.out; omega)).trans K1.out); replace K2 := Lib.hid hk; replace HB2 := Lib.hid (_hb.below HB2.out (by have := HZz.out; omega) HB2.out.size); clear hk _hb)
        go_ret
        exact ⟨by simp, HB2.out⟩
      | true =>
        go_wp2_with (first | (refine wpl_load_if (by rfl) 54 _ rfl W1.heap.size 0 rfl ((St.mk 0 [] [] e a .nil lo hi bd el).cells ⟨none, s.pe, s.pa, none, s.pb, s.pl, 0, s.ce, s.ca, 0, s.cb, s.cl⟩) _ (range_block K2.out) Tryz.underlying54 rfl (infoSt.trans rfl) ?_) | (refine wpl_put rfl _ _ _ rfl rfl W1.heap.size _ _ rfl rfl _ _ K2.out (by exact Nat.le_of_ble_eq_true rfl) (by kernel_rfl) (by rfl) ?_; intro wq hk _hb; replace K1 := Lib.hid ((_hb.block _ (lt_of_block K1.out) (by have := HZz.out; omega)).trans K1.out); replace K2 := Lib.hid hk; replace HB2 := Lib.hid (_hb.below HB2.out (by have := HZz.out; omega) HB2.out.size); clear hk _hb))
        refine (HZr.out _ HB2.out).mono ?_
        rintro z w5 ⟨rfl, hB⟩
        replace HB2 := Lib.hid (HB2.out.trans (hB.mono HB2.out.size))
        go_wp2_with fail
        go_ret
        exact ⟨by simp, HB2.out⟩
set_option maxRecDepth 100000 in
set_option maxHeartbeats 6400000 in
theorem mayStmt_no (kd : Int) (hno : kd < 1 ∨ 6 < kd) (nm : List UInt8) (ns : List (List UInt8)) (e a : Ex) (g : Exs) (lo hi : Nat) (bd el : Sts) (s : StP) (w : World) :
    Calls Tryz.prog 106 #[(St.mk kd nm ns e a g lo hi bd el).val s] w fun z w' => z = .returned (.bool (St.mk kd nm ns e a g lo hi bd el).may) ∧ Below w.heap.size w w' := by
  obtain ⟨A1, hA1⟩ : ∃ A1, A1 = (#[.int .i64 kd, .string (str nm), .slice s.pn ns.length s.cn, .int .i64 e.op, .int .u64 (e.word : Int), .string (str e.name), .slice s.pe e.args.len s.ce, .int .i64 a.op, .int .u64 (a.word : Int), .string (str a.name), .slice s.pa a.args.len s.ca, .slice s.pg g.len s.cg, .int .u64 (lo : Int), .int .u64 (hi : Int), .slice s.pb bd.len s.cb, .slice s.pl el.len s.cl] : Array Value) := ⟨_, rfl⟩
  obtain ⟨W1, hW1⟩ : ∃ W1, w.alloc (Obj.cells A1 54) = W1 := ⟨_, rfl⟩
  obtain ⟨W2, hW2⟩ : ∃ W2, W1.alloc (Obj.cells A1 54) = W2 := ⟨_, rfl⟩
  have hB1 : Below w.heap.size w W1 := by rw [← hW1]; exact (Below.refl _ w).alloc (Nat.le_refl _) _
  have hz1 : W1.heap.size = w.heap.size + 1 := by rw [← hW1]; simp
  have HZ1 := Lib.hid (show A1.size = 16 by rw [hA1]; rfl)
  have HO1 := Lib.hid (show A1.all (·.oneCell') = true by rw [hA1]; simp [Value.oneCell'])
  have HI1 := Lib.hid (infoSt.trans (by rw [HZ1.out]) : (Tryz.prog.info? 54).map (·.size) = some A1.size)
  have F2 := Lib.hid (show W1.rangeAt w.heap.size 0 A1.toList by rw [← hW1]; exact range_new w A1 _)
  have k10 : W2.heap[w.heap.size]? = some (.cells A1 54 (0, 0)) := by rw [← hW2, Below.heap_alloc _ _ _ (by omega), ← hW1]; exact heap_alloc_new w _
  have k20 : W2.heap[W1.heap.size]? = some (.cells A1 54 (0, 0)) := by rw [← hW2]; exact heap_alloc_new W1 _
  have HB2 := Lib.hid (show Below w.heap.size w W2 by rw [← hW2]; exact hB1.alloc (by omega) _)
  have hz2 : W2.heap.size = W1.heap.size + 1 := by rw [← hW2]; simp
  rw [st_may_no kd hno]
  have q1 : (kd == 1) = false := by simp; omega
  have q2 : (kd == 2) = false := by simp; omega
  have q3 : (kd == 3) = false := by simp; omega
  have q4 : (kd == 4) = false := by simp; omega
  have q5 : (kd == 5) = false := by simp; omega
  have q6 : (kd == 6) = false := by simp; omega
  show Calls _ _ #[.agg #[.int .i64 kd, .string (str nm), .slice s.pn ns.length s.cn, .int .i64 e.op, .int .u64 (e.word : Int), .string (str e.name), .slice s.pe e.args.len s.ce, .int .i64 a.op, .int .u64 (a.word : Int), .string (str a.name), .slice s.pa a.args.len s.ca, .slice s.pg g.len s.cg, .int .u64 (lo : Int), .int .u64 (hi : Int), .slice s.pb bd.len s.cb, .slice s.pl el.len s.cl]] w _
  rw [← hA1]
  have HA1 := Lib.hid hA1
  have HZz := Lib.hid hz1
  clear hB1 hA1 hz1 hz2
  go_enter Tryz.func106, Tryz.ntmps106
  go_upto_region 3 with (first | (refine wpl_load rfl 54 _ rfl w.heap.size 0 rfl A1 _ F2.out Tryz.underlying54 rfl HI1.out ?_) | (refine wpl_store_new rfl 54 _ _ rfl _ A1 _ rfl rfl (by rw [HZ1.out]; rfl) HI1.out HO1.out ?_; rw [hW2]))
  rw [HA1.out] at k10 k20
  clear HA1 hW1 hW2 HZ1 HO1 HI1 F2
  have K1 := Lib.hid k10
  have K2 := Lib.hid k20
  clear k10 k20
  go_upto_region 4 with (refine wpl_put rfl _ _ _ rfl rfl W1.heap.size _ _ rfl rfl _ _ K2.out (by exact Nat.le_of_ble_eq_true rfl) (by kernel_rfl) (by rfl) ?_; intro wq hk hb; replace K1 := Lib.hid ((hb.block _ (lt_of_block K1.out) (by have := HZz.out; omega)).trans K1.out); replace K2 := Lib.hid hk; replace HB2 := Lib.hid (hb.below HB2.out (by have := HZz.out; omega) HB2.out.size); clear hk hb)
  have d0 := cell_block K1.out (j := 0) (v := .int .i64 kd) rfl
  go_wp2_with fail
  go_ret
  exact ⟨rfl, HB2.out⟩
theorem mayS_step (n : Nat) (ih : MayS n) : MayS (n + 1) := by
  intro x hsz s N w hN hx
  obtain ⟨kd, nm, ns, e, a, g, lo, hi, bd, el⟩ := x
  simp only [St.size] at hsz
  have hEv : EvS n := fun l hl p c N w hN h => everyS_step n ih l hl p c N w hN h
  have hno : kd < 1 ∨ 6 < kd ∨ kd = 1 ∨ kd = 2 ∨ kd = 3 ∨ kd = 4 ∨ kd = 5 ∨ kd = 6 := by omega
  rcases hno with h | h | rfl | rfl | rfl | rfl | rfl | rfl
  · exact mayStmt_no kd (.inl h) nm ns e a g lo hi bd el s w
  · exact mayStmt_no kd (.inr h) nm ns e a g lo hi bd el s w
  · exact mayStmt_1 n hEv nm ns e a g lo hi bd el (by omega) (by omega) s N w hN hx
  · exact mayStmt_2 n hEv nm ns e a g lo hi bd el (by omega) (by omega) s N w hN hx
  · exact mayStmt_3 n hEv nm ns e a g lo hi bd el (by omega) (by omega) s N w hN hx
  · exact mayStmt_4 n hEv nm ns e a g lo hi bd el (by omega) (by omega) s N w hN hx
  · exact mayStmt_5 n hEv nm ns e a g lo hi bd el (by omega) (by omega) s N w hN hx
  · exact mayStmt_6 n hEv nm ns e a g lo hi bd el (by omega) (by omega) s N w hN hx
theorem mayS_to : ∀ n, MayS n
  | 0 => fun _ h => absurd h (Nat.not_lt_zero _)
  | n + 1 => mayS_step n (mayS_to n)
theorem everySt_any (l : Sts) (p : Option Addr) (c N : Nat) (w : World) (hN : N ≤ w.heap.size) (h : l.In w N p) :
    Calls Tryz.prog 105 #[.slice p l.len c, .func (.func 106) #[] #[]] w fun e w' => e = .returned (.bool l.may) ∧ Below w.heap.size w w' :=
  everyS_step _ (mayS_to _) l (Nat.le_refl _) p c N w hN h
set_option maxHeartbeats 1600000 in
theorem mayBody_any (l : Sts) (hl6 : l.wt ≤ 1000000) (p : Option Addr) (c N : Nat) (w : World) (hN : N ≤ w.heap.size) (h : l.In w N p) :
    Calls Tryz.prog 70 #[.slice p l.len c] w fun e w' => e = .returned (.bool l.can) ∧ Below w.heap.size w w' := by
  have HD := Lib.hid (deepS_any l hl6 p c N w h hN)
  have HE := Lib.hid (fun (w1 : World) (hB : Below w.heap.size w w1) => everySt_any l p c N w1 (Nat.le_trans hN hB.size) (h.later (hB.mono hN) (Nat.le_refl N)))
  have hd := Sts.deep_le l
  unfold Sts.can
  clear h
  generalize l.deep = d at *
  generalize l.may = m at *
  go_enter Tryz.func70, Tryz.ntmps70
  go_wp2_with fail
  refine HD.out.mono ?_
  rintro e w1 ⟨rfl, hB⟩
  have HB := Lib.hid hB
  clear hB
  by_cases hd64 : d ≤ 64
  · go_wp2_with fail
    refine (HE.out _ HB.out).mono ?_
    rintro e w2 ⟨rfl, hB2⟩
    have HB2 := Lib.hid (HB.out.trans (hB2.mono HB.out.size))
    clear hB2
    go_wp2_with fail
    go_ret
    exact ⟨by simp [hd64], HB2.out⟩
  · go_wp2_with fail
    go_ret
    exact ⟨by simp, HB.out⟩
end Go.Proofs.YtlhbledakddbbaaGreatDoor
/- A function's value: its cells. -/
namespace Go.Proofs.YtlhbledakddbbaaGreatDoor
open Go.RowKit

def Fnc.OkP (w : World) (N : Nat) (x : Fnc) (s : FncP) : Prop := x.Ok w N s
theorem Fnc.At.openP {w : World} {N : Nat} {x : Fnc} {b o : Nat} (h : x.At w N b o) : ∃ s : FncP, (∀ j v, (x.cells s)[j]? = some v → w.cell? ⟨b, o + j, none⟩ = some v) ∧ Fnc.OkP w N x s := h.open
theorem infoFnc : (Tryz.prog.info? 49).map (·.size) = some 5 := by kernel_rfl
theorem oneFnc (x : Fnc) (s : FncP) : (x.cells s).all (·.oneCell') = true := by simp [Fnc.cells, Value.oneCell']
end Go.Proofs.YtlhbledakddbbaaGreatDoor
/- Which programs can be told: the program's May. -/
namespace Go.Proofs.YtlhbledakddbbaaGreatDoor
open Go.RowKit

def Vr.val (v : Vr) : Value := .agg #[.string (str v.name), .int .i64 v.kind, .int .i64 v.size, .bool v.secret]
def Rgn.val (r : Rgn) : Value := .agg #[.string (str r.name), .int .i64 r.addr, .int .i64 r.size, .bool r.secret]
set_option maxHeartbeats 1600000 in
theorem mayRegion_any (r : Rgn) (w : World) : Calls Tryz.prog 51 #[r.val] w fun e w' => e = .returned (.bool r.may) ∧ Below w.heap.size w w' := by
  obtain ⟨nm, ad, sz, sc⟩ := r
  have HNm := Lib.hid (fun w => name_any (str nm) w)
  rw [str_data] at HNm
  have HB := Lib.hid ((Below.refl w.heap.size w).alloc (Nat.le_refl _) (.cells #[.string (str nm), .int .i64 ad, .int .i64 sz, .bool sc] 77 (0, 0)))
  unfold Rgn.val Rgn.may
  simp only []
  generalize nameB nm = z at *
  go_enter Tryz.func51, Tryz.ntmps51
  go_wp2_with fail
  refine (HNm.out _).mono ?_
  rintro e w2 ⟨rfl, rfl⟩
  cases z with
  | false =>
    go_wp2_with fail
    go_ret
    exact ⟨by simp, HB.out⟩
  | true =>
    by_cases h1 : 0 ≤ ad
    · by_cases h2 : 0 ≤ sz
      · go_wp2_with fail
        go_ret
        exact ⟨by simp [h1, h2], HB.out⟩
      · go_wp2_with fail
        go_ret
        exact ⟨by simp [h1], HB.out⟩
    · go_wp2_with fail
      go_ret
      exact ⟨by simp; omega, HB.out⟩
set_option maxHeartbeats 1600000 in
theorem mayParam_any (v : Vr) (w : World) : Calls Tryz.prog 92 #[v.val] w fun e w' => e = .returned (.bool v.mayP) ∧ Below w.heap.size w w' := by
  obtain ⟨nm, kd, sz, sc⟩ := v
  have HNm := Lib.hid (fun w => name_any (str nm) w)
  rw [str_data] at HNm
  have HB := Lib.hid ((Below.refl w.heap.size w).alloc (Nat.le_refl _) (.cells #[.string (str nm), .int .i64 kd, .int .i64 sz, .bool sc] 80 (0, 0)))
  unfold Vr.val Vr.mayP
  simp only []
  generalize nameB nm = z at *
  go_enter Tryz.func92, Tryz.ntmps92
  go_wp2_with fail
  refine (HNm.out _).mono ?_
  rintro e w2 ⟨rfl, rfl⟩
  cases z with
  | false =>
    go_wp2_with fail
    go_ret
    exact ⟨by simp, HB.out⟩
  | true =>
    by_cases h1 : kd = 1
    · subst h1
      by_cases h2 : sz = 0
      · subst h2
        go_wp2_with fail
        go_ret
        exact ⟨by simp, HB.out⟩
      · have f2 : (sz == 0) = false := by simp; exact h2
        go_wp2_with fail
        go_ret
        exact ⟨by simp, HB.out⟩
    · have f1 : (kd == 1) = false := by simp; exact h1
      go_wp2_with fail
      go_ret
      exact ⟨by simp [h1], HB.out⟩
set_option maxHeartbeats 3200000 in
theorem mayVar_any (v : Vr) (w : World) : Calls Tryz.prog 93 #[v.val] w fun e w' => e = .returned (.bool v.may) ∧ Below w.heap.size w w' := by
  obtain ⟨nm, kd, sz, sc⟩ := v
  have HNm := Lib.hid (fun w => name_any (str nm) w)
  rw [str_data] at HNm
  obtain ⟨W1, hW1⟩ : ∃ W1, w.alloc (.cells #[.string (str nm), .int .i64 kd, .int .i64 sz, .bool sc] 80 (0, 0)) = W1 := ⟨_, rfl⟩
  have hB1 : Below w.heap.size w W1 := by rw [← hW1]; exact (Below.refl w.heap.size w).alloc (Nat.le_refl _) _
  have hk1 : W1.heap[w.heap.size]? = some (.cells #[.string (str nm), .int .i64 kd, .int .i64 sz, .bool sc] 80 (0, 0)) := by rw [← hW1]; exact heap_alloc_new w _
  have HK := Lib.hid hk1
  have HB := Lib.hid hB1
  have HP := Lib.hid (mayParam_any ⟨nm, kd, sz, sc⟩ W1)
  have c0 := cell_block hk1 (j := 0) (v := .string (str nm)) rfl
  have c1 := cell_block hk1 (j := 1) (v := .int .i64 kd) rfl
  have c2 := cell_block hk1 (j := 2) (v := .int .i64 sz) rfl
  have c3 := cell_block hk1 (j := 3) (v := .bool sc) rfl
  unfold Vr.val at HP ⊢
  unfold Vr.may
  simp only [] at HP ⊢
  clear hB1 hk1
  generalize (Vr.mk nm kd sz sc).mayP = zp at *
  generalize nameB nm = z at *
  by_cases h1 : kd = 1
  · subst h1
    rw [if_pos rfl]
    go_enter Tryz.func93, Tryz.ntmps93
    go_wp2_with fail
    refine HP.out.mono ?_
    rintro e w2 ⟨rfl, hB2⟩
    have d3 := cell_block ((hB2.block _ (lt_of_block HK.out)).trans HK.out) (j := 3) (v := .bool sc) rfl
    have HB2 := Lib.hid (HB.out.trans (hB2.mono HB.out.size))
    clear hB2 c0 c1 c2 c3
    cases zp with
    | false =>
      go_wp2_with fail
      go_ret
      exact ⟨by simp, HB2.out⟩
    | true =>
      go_wp2_with fail
      go_ret
      exact ⟨by simp, HB2.out⟩
  · have f1 : (kd == 1) = false := by simp; exact h1
    rw [if_neg h1]
    by_cases h23 : kd = 2 ∨ kd = 3
    · rw [if_pos h23]
      rcases h23 with rfl | rfl
      · go_enter Tryz.func93, Tryz.ntmps93
        go_wp2_with fail
        refine (HNm.out _).mono ?_
        rintro e w2 ⟨rfl, rfl⟩
        cases z with
        | false =>
          go_wp2_with fail
          go_ret
          exact ⟨by simp, HB.out⟩
        | true =>
          by_cases h2 : 0 ≤ sz
          · go_wp2_with fail
            go_ret
            exact ⟨by simp [h2], HB.out⟩
          · go_wp2_with fail
            go_ret
            exact ⟨by simp, HB.out⟩
      · go_enter Tryz.func93, Tryz.ntmps93
        go_wp2_with fail
        refine (HNm.out _).mono ?_
        rintro e w2 ⟨rfl, rfl⟩
        cases z with
        | false =>
          go_wp2_with fail
          go_ret
          exact ⟨by simp, HB.out⟩
        | true =>
          by_cases h2 : 0 ≤ sz
          · go_wp2_with fail
            go_ret
            exact ⟨by simp [h2], HB.out⟩
          · go_wp2_with fail
            go_ret
            exact ⟨by simp, HB.out⟩
    · have f2 : (kd == 2) = false := by simp; omega
      have f3 : (kd == 3) = false := by simp; omega
      rw [if_neg h23]
      go_enter Tryz.func93, Tryz.ntmps93
      go_wp2_with fail
      go_ret
      exact ⟨rfl, HB.out⟩

set_option maxHeartbeats 3200000 in
theorem everyRg_any (l : List Rgn) (p : Option Addr) (c N : Nat) (w : World) (hN : N ≤ w.heap.size) (h : RowIn N (Rgn.At w) 4 l p) :
    Calls Tryz.prog 50 #[.slice p l.length c, .func (.func 51) #[] #[]] w fun e w' => e = .returned (.bool (l.all Rgn.may)) ∧ Below w.heap.size w w' := by
  have S1 := Lib.hid h
  have hm1 := h.1
  have HNN := Lib.hid hN
  clear h hN
  go_enter Tryz.func50, Tryz.ntmps50
  go_wp2_with fail
  go_loopw [9] (fun i wr => ∃ (k : Nat) (r : List Rgn), i = .int .i64 k ∧ k + r.length = l.length ∧ Hid (∀ b o, p = some ⟨b, o, none⟩ → Row (Rgn.At w) 4 l b o → Row (Rgn.At w) 4 r b (o + k * 4)) ∧ Hid (l.all Rgn.may = r.all Rgn.may) ∧ Hid (Below w.heap.size w wr)) (fun i _ => l.length - (intOf i).toNat)
  case atStart => exact ⟨0, l, rfl, by omega, Lib.hid fun b o _ h => by rw [Nat.zero_mul]; exact h, Lib.hid rfl, Lib.hid (Below.refl _ _)⟩
  case round =>
    obtain ⟨k, r, rfl, hk, hat, hE, hB⟩ := hrel
    cases r with
    | nil =>
      simp only [List.length_nil] at hk
      have hge : ¬ k < l.length := by omega
      go_wp2_with fail
      go_ret
      exact ⟨ret_bool (by rw [hE.out]; rfl), hB.out⟩
    | cons x r =>
      simp only [List.length_cons] at hk
      have hlt : k < l.length := by omega
      obtain ⟨wo, rfl⟩ : ∃ wo : World, wo = wr := ⟨_, rfl⟩
      rcases S1.out.2 with h30 | ⟨b, o, rfl, hb, ha⟩
      · omega
      obtain ⟨hx, hr⟩ := hat.out b o rfl ha
      have HR := Lib.hid hr
      have hx' := Rgn.At.later (hB.out.mono HNN.out) x b _ hb hx
      obtain ⟨g0, g1, g2, g3⟩ := hx'
      have HC := Lib.hid (mayRegion_any x (wo.alloc (.cells #[.string (str x.name), .int .i64 x.addr, .int .i64 x.size, .bool x.secret] 77)))
      unfold Rgn.val at HC
      have HE := Lib.hid (show l.all Rgn.may = (Rgn.may x && r.all Rgn.may) by rw [hE.out, List.all_cons])
      obtain ⟨m, hm'⟩ : ∃ m, Rgn.may x = m := ⟨_, rfl⟩
      rw [hm'] at HE HC
      clear hx hr ha hE hm'
      go_wp2_with fail
      refine HC.out.mono ?_
      rintro e w2 ⟨rfl, hB2⟩
      have HB3 := Lib.hid (hB.out.trans ((((Below.refl _ wo).alloc (Nat.le_refl _) (.cells #[.string (str x.name), .int .i64 x.addr, .int .i64 x.size, .bool x.secret] 77)).trans (hB2.mono (by simp))).mono hB.out.size))
      clear hB2
      cases m
      · go_wp2_with fail
        go_ret
        exact ⟨ret_bool (by rw [HE.out]; rfl), HB3.out⟩
      · go_wp2_with fail
        go_roundw
        case rel => exact ⟨k + 1, r, by go_num, by omega, Lib.hid fun b' o' e _ => by cases e; rw [show o + (k + 1) * 4 = o + k * 4 + 4 by omega]; exact HR.out, Lib.hid (by rw [HE.out]; simp), HB3⟩
        case measure => simp [intOf]; omega
set_option maxHeartbeats 3200000 in
theorem everyPa_any (l : List Vr) (p : Option Addr) (c N : Nat) (w : World) (hN : N ≤ w.heap.size) (h : RowIn N (Vr.At w) 4 l p) :
    Calls Tryz.prog 91 #[.slice p l.length c, .func (.func 92) #[] #[]] w fun e w' => e = .returned (.bool (l.all Vr.mayP)) ∧ Below w.heap.size w w' := by
  have S1 := Lib.hid h
  have hm1 := h.1
  have HNN := Lib.hid hN
  clear h hN
  go_enter Tryz.func91, Tryz.ntmps91
  go_wp2_with fail
  go_loopw [9] (fun i wr => ∃ (k : Nat) (r : List Vr), i = .int .i64 k ∧ k + r.length = l.length ∧ Hid (∀ b o, p = some ⟨b, o, none⟩ → Row (Vr.At w) 4 l b o → Row (Vr.At w) 4 r b (o + k * 4)) ∧ Hid (l.all Vr.mayP = r.all Vr.mayP) ∧ Hid (Below w.heap.size w wr)) (fun i _ => l.length - (intOf i).toNat)
  case atStart => exact ⟨0, l, rfl, by omega, Lib.hid fun b o _ h => by rw [Nat.zero_mul]; exact h, Lib.hid rfl, Lib.hid (Below.refl _ _)⟩
  case round =>
    obtain ⟨k, r, rfl, hk, hat, hE, hB⟩ := hrel
    cases r with
    | nil =>
      simp only [List.length_nil] at hk
      have hge : ¬ k < l.length := by omega
      go_wp2_with fail
      go_ret
      exact ⟨ret_bool (by rw [hE.out]; rfl), hB.out⟩
    | cons x r =>
      simp only [List.length_cons] at hk
      have hlt : k < l.length := by omega
      obtain ⟨wo, rfl⟩ : ∃ wo : World, wo = wr := ⟨_, rfl⟩
      rcases S1.out.2 with h30 | ⟨b, o, rfl, hb, ha⟩
      · omega
      obtain ⟨hx, hr⟩ := hat.out b o rfl ha
      have HR := Lib.hid hr
      have hx' := Vr.At.later (hB.out.mono HNN.out) x b _ hb hx
      obtain ⟨g0, g1, g2, g3⟩ := hx'
      have HC := Lib.hid (mayParam_any x (wo.alloc (.cells #[.string (str x.name), .int .i64 x.kind, .int .i64 x.size, .bool x.secret] 80)))
      unfold Vr.val at HC
      have HE := Lib.hid (show l.all Vr.mayP = (Vr.mayP x && r.all Vr.mayP) by rw [hE.out, List.all_cons])
      obtain ⟨m, hm'⟩ : ∃ m, Vr.mayP x = m := ⟨_, rfl⟩
      rw [hm'] at HE HC
      clear hx hr ha hE hm'
      go_wp2_with fail
      refine HC.out.mono ?_
      rintro e w2 ⟨rfl, hB2⟩
      have HB3 := Lib.hid (hB.out.trans ((((Below.refl _ wo).alloc (Nat.le_refl _) (.cells #[.string (str x.name), .int .i64 x.kind, .int .i64 x.size, .bool x.secret] 80)).trans (hB2.mono (by simp))).mono hB.out.size))
      clear hB2
      cases m
      · go_wp2_with fail
        go_ret
        exact ⟨ret_bool (by rw [HE.out]; rfl), HB3.out⟩
      · go_wp2_with fail
        go_roundw
        case rel => exact ⟨k + 1, r, by go_num, by omega, Lib.hid fun b' o' e _ => by cases e; rw [show o + (k + 1) * 4 = o + k * 4 + 4 by omega]; exact HR.out, Lib.hid (by rw [HE.out]; simp), HB3⟩
        case measure => simp [intOf]; omega
set_option maxHeartbeats 3200000 in
theorem everyVr_any (l : List Vr) (p : Option Addr) (c N : Nat) (w : World) (hN : N ≤ w.heap.size) (h : RowIn N (Vr.At w) 4 l p) :
    Calls Tryz.prog 91 #[.slice p l.length c, .func (.func 93) #[] #[]] w fun e w' => e = .returned (.bool (l.all Vr.may)) ∧ Below w.heap.size w w' := by
  have S1 := Lib.hid h
  have hm1 := h.1
  have HNN := Lib.hid hN
  clear h hN
  go_enter Tryz.func91, Tryz.ntmps91
  go_wp2_with fail
  go_loopw [9] (fun i wr => ∃ (k : Nat) (r : List Vr), i = .int .i64 k ∧ k + r.length = l.length ∧ Hid (∀ b o, p = some ⟨b, o, none⟩ → Row (Vr.At w) 4 l b o → Row (Vr.At w) 4 r b (o + k * 4)) ∧ Hid (l.all Vr.may = r.all Vr.may) ∧ Hid (Below w.heap.size w wr)) (fun i _ => l.length - (intOf i).toNat)
  case atStart => exact ⟨0, l, rfl, by omega, Lib.hid fun b o _ h => by rw [Nat.zero_mul]; exact h, Lib.hid rfl, Lib.hid (Below.refl _ _)⟩
  case round =>
    obtain ⟨k, r, rfl, hk, hat, hE, hB⟩ := hrel
    cases r with
    | nil =>
      simp only [List.length_nil] at hk
      have hge : ¬ k < l.length := by omega
      go_wp2_with fail
      go_ret
      exact ⟨ret_bool (by rw [hE.out]; rfl), hB.out⟩
    | cons x r =>
      simp only [List.length_cons] at hk
      have hlt : k < l.length := by omega
      obtain ⟨wo, rfl⟩ : ∃ wo : World, wo = wr := ⟨_, rfl⟩
      rcases S1.out.2 with h30 | ⟨b, o, rfl, hb, ha⟩
      · omega
      obtain ⟨hx, hr⟩ := hat.out b o rfl ha
      have HR := Lib.hid hr
      have hx' := Vr.At.later (hB.out.mono HNN.out) x b _ hb hx
      obtain ⟨g0, g1, g2, g3⟩ := hx'
      have HC := Lib.hid (mayVar_any x (wo.alloc (.cells #[.string (str x.name), .int .i64 x.kind, .int .i64 x.size, .bool x.secret] 80)))
      unfold Vr.val at HC
      have HE := Lib.hid (show l.all Vr.may = (Vr.may x && r.all Vr.may) by rw [hE.out, List.all_cons])
      obtain ⟨m, hm'⟩ : ∃ m, Vr.may x = m := ⟨_, rfl⟩
      rw [hm'] at HE HC
      clear hx hr ha hE hm'
      go_wp2_with fail
      refine HC.out.mono ?_
      rintro e w2 ⟨rfl, hB2⟩
      have HB3 := Lib.hid (hB.out.trans ((((Below.refl _ wo).alloc (Nat.le_refl _) (.cells #[.string (str x.name), .int .i64 x.kind, .int .i64 x.size, .bool x.secret] 80)).trans (hB2.mono (by simp))).mono hB.out.size))
      clear hB2
      cases m
      · go_wp2_with fail
        go_ret
        exact ⟨ret_bool (by rw [HE.out]; rfl), HB3.out⟩
      · go_wp2_with fail
        go_roundw
        case rel => exact ⟨k + 1, r, by go_num, by omega, Lib.hid fun b' o' e _ => by cases e; rw [show o + (k + 1) * 4 = o + k * 4 + 4 by omega]; exact HR.out, Lib.hid (by rw [HE.out]; simp), HB3⟩
        case measure => simp [intOf]; omega
set_option maxHeartbeats 3200000 in
theorem mayFunc_any (f : Fnc) (hf6 : f.body.wt ≤ 1000000) (s : FncP) (N : Nat) (w : World) (hN : N ≤ w.heap.size) (h : f.Ok w N s) :
    Calls Tryz.prog 53 #[f.val s] w fun e w' => e = .returned (.bool f.may) ∧ Below w.heap.size w w' := by
  obtain ⟨nm, ps, vs, rs, bd⟩ := f
  have HNm := Lib.hid (fun w => name_any (str nm) w)
  rw [str_data] at HNm
  obtain ⟨W1, hW1⟩ : ∃ W1, w.alloc (.cells #[.string (str nm), .slice s.pp ps.length s.cp, .slice s.pv vs.length s.cv, .slice s.pr rs.length s.cr, .slice s.pb bd.len s.cb] 49 (0, 0)) = W1 := ⟨_, rfl⟩
  have hB1 : Below w.heap.size w W1 := by rw [← hW1]; exact (Below.refl w.heap.size w).alloc (Nat.le_refl _) _
  have HK := Lib.hid (show W1.heap[w.heap.size]? = some (.cells #[.string (str nm), .slice s.pp ps.length s.cp, .slice s.pv vs.length s.cv, .slice s.pr rs.length s.cr, .slice s.pb bd.len s.cb] 49 (0, 0)) by rw [← hW1]; exact heap_alloc_new w _)
  have HB := Lib.hid hB1
  have HPs := Lib.hid (fun (w1 : World) (hB : Below w.heap.size w w1) => everyPa_any ps s.pp s.cp N w1 (Nat.le_trans hN hB.size) (h.1.imp (Nat.le_refl N) (Vr.At.later (hB.mono hN))))
  have HVs := Lib.hid (fun (w1 : World) (hB : Below w.heap.size w w1) => everyVr_any vs s.pv s.cv N w1 (Nat.le_trans hN hB.size) (h.2.1.imp (Nat.le_refl N) (Vr.At.later (hB.mono hN))))
  have HRs := Lib.hid (fun (w1 : World) (hB : Below w.heap.size w w1) => everyStr_any rs s.pr s.cr N w1 (h.2.2.1.2.imp (Nat.le_refl N) (StrAt.later (hB.mono hN))))
  have HBd := Lib.hid (fun (w1 : World) (hB : Below w.heap.size w w1) => mayBody_any bd hf6 s.pb s.cb N w1 (Nat.le_trans hN hB.size) (h.2.2.2.later (hB.mono hN) (Nat.le_refl N)))
  unfold Fnc.val Fnc.cells Fnc.may
  simp only []
  clear hB1 h
  generalize nameB nm = z1 at *
  generalize ps.all Vr.mayP = z2 at *
  generalize vs.all Vr.may = z3 at *
  generalize namesB rs = z4 at *
  generalize bd.can = z5 at *
  have c0 := cell_block HK.out (j := 0) (v := .string (str nm)) rfl
  have c1 := cell_block HK.out (j := 1) (v := .slice s.pp ps.length s.cp) rfl
  go_enter Tryz.func53, Tryz.ntmps53
  go_wp2_with fail
  refine (HNm.out _).mono ?_
  rintro e w2 ⟨rfl, rfl⟩
  cases z1 with
  | false =>
    go_wp2_with fail
    go_ret
    exact ⟨by simp, HB.out⟩
  | true =>
  go_wp2_with fail
  refine (HPs.out _ HB.out).mono ?_
  rintro e w2 ⟨rfl, hB⟩
  replace HK := Lib.hid ((hB.block _ (lt_of_block HK.out)).trans HK.out)
  replace HB := Lib.hid (HB.out.trans (hB.mono HB.out.size))
  clear hB c0 c1
  cases z2 with
  | false =>
    go_wp2_with fail
    go_ret
    exact ⟨by simp, HB.out⟩
  | true =>
  have c2 := cell_block HK.out (j := 2) (v := .slice s.pv vs.length s.cv) rfl
  go_wp2_with fail
  refine (HVs.out _ HB.out).mono ?_
  rintro e w3 ⟨rfl, hB⟩
  replace HK := Lib.hid ((hB.block _ (lt_of_block HK.out)).trans HK.out)
  replace HB := Lib.hid (HB.out.trans (hB.mono HB.out.size))
  clear hB c2
  cases z3 with
  | false =>
    go_wp2_with fail
    go_ret
    exact ⟨by simp, HB.out⟩
  | true =>
  have c3 := cell_block HK.out (j := 3) (v := .slice s.pr rs.length s.cr) rfl
  go_wp2_with fail
  refine (HRs.out _ HB.out).mono ?_
  rintro e w4 ⟨rfl, rfl⟩
  cases z4 with
  | false =>
    go_wp2_with fail
    go_ret
    exact ⟨by simp, HB.out⟩
  | true =>
  have c4 := cell_block HK.out (j := 4) (v := .slice s.pb bd.len s.cb) rfl
  go_wp2_with fail
  refine (HBd.out _ HB.out).mono ?_
  rintro e w5 ⟨rfl, hB⟩
  replace HB := Lib.hid (HB.out.trans (hB.mono HB.out.size))
  clear hB
  go_wp2_with fail
  go_ret
  exact ⟨by simp, HB.out⟩
set_option maxRecDepth 100000 in
set_option maxHeartbeats 3200000 in
theorem everyFn_any (l : List Fnc) (hl6 : ∀ f ∈ l, f.body.wt ≤ 1000000) (p : Option Addr) (c N : Nat) (w : World) (hN : N ≤ w.heap.size) (h : RowIn N (Fnc.At w N) 5 l p) :
    Calls Tryz.prog 52 #[.slice p l.length c, .func (.func 53) #[] #[]] w fun e w' => e = .returned (.bool (l.all Fnc.may)) ∧ Below w.heap.size w w' := by
  have S1 := Lib.hid h
  have hm1 := h.1
  have HNN := Lib.hid hN
  have HL6 := Lib.hid hl6
  clear h hN hl6
  go_enter Tryz.func52, Tryz.ntmps52
  go_wp2_with fail
  go_loopw [9] (fun i wr => ∃ (k : Nat) (r : List Fnc), i = .int .i64 k ∧ k + r.length = l.length ∧ Hid (∀ x ∈ r, x ∈ l) ∧ Hid (∀ b o, p = some ⟨b, o, none⟩ → Row (Fnc.At w N) 5 l b o → Row (Fnc.At w N) 5 r b (o + k * 5)) ∧ Hid (l.all Fnc.may = r.all Fnc.may) ∧ Hid (Below w.heap.size w wr)) (fun i _ => l.length - (intOf i).toNat)
  case atStart => exact ⟨0, l, rfl, by omega, Lib.hid fun x h => h, Lib.hid fun b o _ h => by rw [Nat.zero_mul]; exact h, Lib.hid rfl, Lib.hid (Below.refl _ _)⟩
  case round =>
    obtain ⟨k, r, rfl, hk, hin, hat, hE, hB⟩ := hrel
    cases r with
    | nil =>
      simp only [List.length_nil] at hk
      have hge : ¬ k < l.length := by omega
      go_wp2_with fail
      go_ret
      exact ⟨ret_bool (by rw [hE.out]; rfl), hB.out⟩
    | cons x r =>
      simp only [List.length_cons] at hk
      have hlt : k < l.length := by omega
      obtain ⟨wo, rfl⟩ : ∃ wo : World, wo = wr := ⟨_, rfl⟩
      rcases S1.out.2 with h30 | ⟨b, o, rfl, hb, ha⟩
      · omega
      obtain ⟨hx, hr⟩ := hat.out b o rfl ha
      have HR := Lib.hid hr
      obtain ⟨s, c1, ok1⟩ := Fnc.At.openP (Fnc.At.later (hB.out.mono HNN.out) (Nat.le_trans HNN.out hB.out.size) x b _ hb hx)
      have hbl : b < wo.heap.size := by have := hB.out.size; have := HNN.out; omega
      obtain ⟨A1, hA1⟩ : ∃ A1, x.cells s = A1 := ⟨_, rfl⟩
      have HZ1 := Lib.hid (show A1.size = 5 by rw [← hA1]; rfl)
      have HO1 := Lib.hid (show A1.all (·.oneCell') = true by rw [← hA1]; exact oneFnc _ _)
      have F1 := Lib.hid (show wo.rangeAt b (o + k * 5) A1.toList from fun j z hz => c1 j z (by rw [hA1, ← Array.getElem?_toList]; exact hz))
      have HI1 := Lib.hid (infoFnc.trans (by rw [HZ1.out]) : (Tryz.prog.info? 49).map (·.size) = some A1.size)
      obtain ⟨W1, hW1⟩ : ∃ W1, wo.alloc (Obj.cells A1 49) = W1 := ⟨_, rfl⟩
      have HW1 := Lib.hid (show Below wo.heap.size wo W1 by rw [← hW1]; exact (Below.refl _ wo).alloc (Nat.le_refl _) _)
      have F2 := Lib.hid (show W1.rangeAt wo.heap.size 0 A1.toList by rw [← hW1]; exact range_new wo A1 _)
      have HC := Lib.hid (mayFunc_any x (HL6.out x (hin.out x (by simp))) s wo.heap.size W1 HW1.out.size (Fnc.Ok.later ok1 HW1.out (Nat.le_refl _)))
      unfold Fnc.val at HC
      rw [hA1] at HC
      have HE := Lib.hid (show l.all Fnc.may = (x.may && r.all Fnc.may) by rw [hE.out, List.all_cons])
      have HIN := Lib.hid (show ∀ y ∈ r, y ∈ l from fun y hy => hin.out y (by simp [hy]))
      obtain ⟨m, hm'⟩ : ∃ m, x.may = m := ⟨_, rfl⟩
      rw [hm'] at HE HC
      clear ok1 hA1 c1 hx hr ha hE hm' hin
      go_wp2_with (first | (refine wpl_load rfl 49 _ rfl b (o + k * 5) rfl A1 _ F1.out Tryz.underlying49 rfl HI1.out ?_) | (refine wpl_store_new rfl 49 _ _ rfl _ A1 _ rfl rfl (by rw [HZ1.out]; rfl) HI1.out HO1.out ?_; rw [hW1]) | (refine wpl_load rfl 49 _ rfl wo.heap.size 0 rfl A1 _ F2.out Tryz.underlying49 rfl HI1.out ?_))
      refine HC.out.mono ?_
      rintro e w2 ⟨rfl, hB2⟩
      have HB3 := Lib.hid (hB.out.trans ((HW1.out.trans (hB2.mono HW1.out.size)).mono hB.out.size))
      clear hB2
      cases m
      · go_wp2_with fail
        go_ret
        exact ⟨ret_bool (by rw [HE.out]; rfl), HB3.out⟩
      · go_wp2_with fail
        go_roundw
        case rel => exact ⟨k + 1, r, by go_num, by omega, HIN, Lib.hid fun b' o' e _ => by cases e; rw [show o + (k + 1) * 5 = o + k * 5 + 5 by omega]; exact HR.out, Lib.hid (by rw [HE.out]; simp), HB3⟩
        case measure => simp [intOf]; omega
set_option maxHeartbeats 3200000 in
theorem may_any (x : Prg) (h6 : ∀ f ∈ x.fns, f.body.wt ≤ 1000000) (p q : Option Addr) (c d N : Nat) (w : World) (hN : N ≤ w.heap.size) (h : x.Ok w N p q) :
    Calls Tryz.prog 18 #[x.val p q c d] w fun e w' => e = .returned (.bool x.may) ∧ Below w.heap.size w w' := by
  obtain ⟨rg, fs⟩ := x
  obtain ⟨W1, hW1⟩ : ∃ W1, w.alloc (.cells #[.slice p rg.length c, .slice q fs.length d] 39 (0, 0)) = W1 := ⟨_, rfl⟩
  have hB1 : Below w.heap.size w W1 := by rw [← hW1]; exact (Below.refl w.heap.size w).alloc (Nat.le_refl _) _
  have HK := Lib.hid (show W1.heap[w.heap.size]? = some (.cells #[.slice p rg.length c, .slice q fs.length d] 39 (0, 0)) by rw [← hW1]; exact heap_alloc_new w _)
  have HB := Lib.hid hB1
  have HRg := Lib.hid (fun (w1 : World) (hB : Below w.heap.size w w1) => everyRg_any rg p c N w1 (Nat.le_trans hN hB.size) (h.1.imp (Nat.le_refl N) (Rgn.At.later (hB.mono hN))))
  have HFn := Lib.hid (fun (w1 : World) (hB : Below w.heap.size w w1) => everyFn_any fs h6 q d N w1 (Nat.le_trans hN hB.size) (h.2.imp (Nat.le_refl N) (Fnc.At.later (hB.mono hN) (Nat.le_refl N))))
  unfold Prg.val Prg.may
  simp only []
  clear hB1 h
  generalize rg.all Rgn.may = z1 at *
  generalize fs.all Fnc.may = z2 at *
  have c0 := cell_block HK.out (j := 0) (v := .slice p rg.length c) rfl
  go_enter Tryz.func18, Tryz.ntmps18
  go_wp2_with fail
  refine (HRg.out _ HB.out).mono ?_
  rintro e w2 ⟨rfl, hB⟩
  replace HK := Lib.hid ((hB.block _ (lt_of_block HK.out)).trans HK.out)
  replace HB := Lib.hid (HB.out.trans (hB.mono HB.out.size))
  clear hB c0
  cases z1 with
  | false =>
    go_wp2_with fail
    go_ret
    exact ⟨by simp, HB.out⟩
  | true =>
  have c1 := cell_block HK.out (j := 1) (v := .slice q fs.length d) rfl
  go_wp2_with fail
  refine (HFn.out _ HB.out).mono ?_
  rintro e w3 ⟨rfl, hB⟩
  replace HB := Lib.hid (HB.out.trans (hB.mono HB.out.size))
  clear hB
  go_wp2_with fail
  go_ret
  exact ⟨by simp, HB.out⟩
end Go.Proofs.YtlhbledakddbbaaGreatDoor
/- Unlike programs that can be told have unlike texts: functions, regions, lines. -/
namespace Go.Proofs.YtlhbledakddbbaaGreatDoor
open Go.RowKit

theorem can_may {l : Sts} (h : l.can = true) : l.may = true := by unfold Sts.can at h; rw [Bool.and_eq_true] at h; exact h.2
theorem fnc_parts {f : Fnc} (h : f.may = true) : nameB f.name = true ∧ f.params.all Vr.mayP = true ∧ f.vars.all Vr.may = true ∧ namesB f.rets = true ∧ f.body.may = true := by
  unfold Fnc.may at h
  simp only [Bool.and_eq_true] at h
  exact ⟨h.1, h.2.1, h.2.2.1, h.2.2.2.1, can_may h.2.2.2.2⟩
end Go.Proofs.YtlhbledakddbbaaGreatDoor
/- A function's lines, shown one by one. -/
namespace Go.Proofs.YtlhbledakddbbaaGreatDoor
open Go.RowKit
attribute [local go_sem] Oper.semAt_some

/-- who is shown lines, and what he leaves -/
structure FnEnv (l M N : Nat) (w0 : World) (L : List (Nat × List UInt8)) (J Jx : Nat → World → Prop) : Prop where
  gl : Glob w0
  mv : ∀ k A B, J k A → Rn N A B → J k B
  mx : ∀ k A B, Jx k A → Rn N A B → Jx k B
  bel : ∀ k A, J k A → Below w0.heap.size w0 A
  hn : ∀ k A, J k A → N ≤ A.heap.size
  yl : ∀ k x W1, L[k]? = some x → J k W1 → YieldAt Fence.wide M Tryz.prog l (encL x) W1 fun e W' => ∃ v, e = .returned (.bool v) ∧ JJ J Jx v (k + 1) W' ∧ Up N W1 W'
theorem FnEnv.drew {l M N : Nat} {w0 : World} {L : List (Nat × List UInt8)} {J Jx : Nat → World → Prop} (E : FnEnv l M N w0 L J Jx) {k : Nat} {A : World} (h : J k A) : J k A.drew := E.mv k A _ h ⟨(Below.refl _ A).drew, fun _ _ h _ => h⟩
theorem FnEnv.fwd {l M N : Nat} {w0 : World} {L : List (Nat × List UInt8)} {J Jx : Nat → World → Prop} (E : FnEnv l M N w0 L J Jx) {k : Nat} {A B : World} (h : J k A) (hB : Below A.heap.size A B) : J k B := E.mv k A B h (Rn.of_below hB (E.hn k A h))

/-- what the first line's showing leaves -/
def PostA (b o l n3 : Nat) (hs : ByteArray) (R : Bool → World → Prop) : Exit → Act → World → Prop
  | .normal, a, W => ∃ v, a = { tmps := #[.pointer (some ⟨b, o, none⟩), .func (.yield l) #[] #[], undef, .pointer (some ⟨n3, 0, none⟩), .pointer (some ⟨n3 + 1, 0, none⟩), undef, undef, undef, undef, .func (.yield l) #[] #[], .pointer (some ⟨b, o, none⟩), .string hs, .bool v, .bool (!v), undef, undef, undef, undef, undef, undef, undef, undef, undef, undef, undef, undef, undef, undef, undef, undef, undef, undef, undef, undef, undef, undef, undef, undef, undef, undef, undef, undef, undef, undef], defers := [] } ∧ R v W
  | _, _, _ => False
/-- what a variable's line's showing leaves -/
def PostB (b o l n3 nw n bv ov k cv : Nat) (hs hvs : ByteArray) (VA u28 : Value) (R : Bool → World → Prop) : Exit → Act → World → Prop
  | .normal, a, W => ∃ v, a = { tmps := #[.pointer (some ⟨b, o, none⟩), .func (.yield l) #[] #[], undef, .pointer (some ⟨n3, 0, none⟩), .pointer (some ⟨n3 + 1, 0, none⟩), undef, .pointer (some ⟨nw, 0, none⟩), undef, undef, .func (.yield l) #[] #[], .pointer (some ⟨b, o, none⟩), .string hs, .bool true, .bool false, .pointer (some ⟨b, o, none⟩), .pointer (some ⟨b, o, none⟩), .pointer (some ⟨b, o + 2, none⟩), .slice (some ⟨bv, ov, none⟩) n cv, .int .i64 (n : Int), .int .i64 (k : Int), .bool true, .pointer (some ⟨bv, ov + k * 4, none⟩), VA, .func (.yield l) #[] #[], VA, .string hvs, .bool v, .bool (!v), u28, undef, undef, undef, undef, undef, undef, undef, undef, undef, undef, undef, undef, undef, undef, undef], defers := [] } ∧ R v W
  | _, _, _ => False
theorem can_deep {f : Fnc} (h : f.may = true) : f.body.deep ≤ 64 := by
  unfold Fnc.may Sts.can at h
  simp only [Bool.and_eq_true, decide_eq_true_eq] at h
  exact h.2.2.2.2.1
set_option maxRecDepth 100000 in
set_option maxHeartbeats 6400000 in
theorem showFunc_any {l M N : Nat} {w0 : World} {L : List (Nat × List UInt8)} {J Jx : Nat → World → Prop} (E : FnEnv l M N w0 L J Jx) (f : Fnc) (b o d : Nat) (hb : b < w0.heap.size) (hf : f.At w0 w0.heap.size b o) (hm : f.may = true) (hfit : f.fit) (hp : f.params.length ≤ 1000000)
    (hlen : ∀ y ∈ f.lines, y.2.length ≤ 1000000) (hseg : Seg L d f.lines) (w : World) (h0 : J d w) :
    Calls Tryz.prog 86 #[.pointer (some ⟨b, o, none⟩), .func (.yield l) #[] #[]] w fun e w' => ∃ v, e = .returned (.bool v) ∧ Shown J Jx L (d + f.lines.length) v w' := by
  have HE := Lib.hid E
  have HJ0 := Lib.hid h0
  have hN := E.hn _ _ h0
  obtain ⟨s, cc, ok⟩ := hf.open
  have HFL := Lib.hid (fun (w1 : World) (hB : Below w0.heap.size w0 w1) => funcLine_any f b o w1 (Nat.lt_of_lt_of_le hb hB.size) (Fnc.At.later hB hB.size f b o hb hf) hp (hlen _ (by rw [Fnc.lines]; exact List.mem_cons_self)))
  obtain ⟨nm, ps, vs, rs, bd⟩ := f
  have x2 : w0.cell? ⟨b, o + 2, none⟩ = some (.slice s.pv vs.length s.cv) := cc 2 _ rfl
  have x4 : w0.cell? ⟨b, o + 4, none⟩ = some (.slice s.pb bd.len s.cb) := cc 4 _ rfl
  obtain ⟨hs, hdt⟩ : ∃ k, str (Fnc.mk nm ps vs rs bd).head = k := ⟨_, rfl⟩
  rw [hdt] at HFL
  have hyl0 : encL (0, (Fnc.mk nm ps vs rs bd).head) = #[.int .i64 0, .string hs] := by rw [← hdt]; rfl
  have hL0 : L[d]? = some (0, (Fnc.mk nm ps vs rs bd).head) := by rw [Fnc.lines] at hseg; exact hseg.head
  clear h0 E hf cc hdt
  refine (callsIn_wide (n := M + 1)).1 ?_
  refine callsIn_of_wp_marks Tryz.func86 rfl trivial ?_ rfl
  simp only [Tryz.ntmps86, List.size_toArray, List.length_cons, List.length_nil, Nat.reduceAdd, Nat.reduceSub, Array.replicate_succ, Array.replicate_zero, List.push_toArray, List.append_toArray, List.nil_append, List.cons_append]
  gi_wp2_with fail
  obtain ⟨w1, hw1⟩ : ∃ w1, (w.alloc (.cells #[.func (.yield l) #[] #[]] 117)).alloc (.cells #[.bool false] 4) = w1 := ⟨_, rfl⟩
  have HB1 := Lib.hid (show Below w.heap.size w w1 by rw [← hw1]; exact ((Below.refl _ w).alloc (Nat.le_refl _) _).alloc (by simp) _)
  have k3 : w1.heap[w.heap.size]? = some (.cells #[.func (.yield l) #[] #[]] 117 (0, 0)) := by
    rw [← hw1, Below.heap_alloc _ _ _ (by simp)]; exact heap_alloc_new w _
  have k4 : w1.heap[w.heap.size + 1]? = some (.cells #[.bool false] 4 (0, 0)) := by
    rw [← hw1]; have := heap_alloc_new (w.alloc (.cells #[.func (.yield l) #[] #[]] 117)) (.cells #[.bool false] 4); simpa using this
  rw [hw1]
  have HJ1 := Lib.hid (HE.out.fwd HJ0.out HB1.out)
  generalize hn3 : w.heap.size = n3 at *
  have c3 := cell_of_one k3
  have HK3 := Lib.hid k3
  have HK4 := Lib.hid k4
  clear hw1 k3 k4 HB1 HJ0
  have HJD := Lib.hid (HE.out.drew HJ1.out)
  gi_wp2_with fail
  refine wpIn_mono (Q := PostA b o l n3 hs (fun v W => ∃ w2, Below w1.heap.size w1.drew w2 ∧ JJ J Jx v (d + 1) W ∧ Up N w2 W)) ?_ ?_
  · gi_region_with (first
    | (refine ⟨trivial, ?_⟩; gi_at_call 126; refine (callsIn_wide.2 (HFL.out w1.drew (HE.out.bel _ _ HJD.out))).mono ?_; rintro e w2 ⟨rfl, hB2⟩; have c3 := (hB2.cell (p := ⟨n3, 0, none⟩) (lt_of_block HK3.out)).trans c3; obtain ⟨fn, tmps, assign, body, hy, hR⟩ := HE.out.yl d _ w2 hL0 (HE.out.fwd HJD.out hB2); rw [hyl0] at hy)
    | (refine hR.mono ?_; rintro e w3 ⟨v, rfl, hj, hU⟩))
    all_goals exact ⟨v, rfl, w2, hB2, hj, hU⟩
  intro e a w3 hP
  cases e <;> try exact hP.elim
  obtain ⟨v, rfl, w2, hB2, hj, hU⟩ := hP
  have HK3' := Lib.hid (hU.same n3 _ ((hB2.block n3 (lt_of_block HK3.out)).trans HK3.out) hN (buf_fn _ _))
  have HK4' := Lib.hid (hU.same (n3 + 1) _ ((hB2.block (n3 + 1) (lt_of_block HK4.out)).trans HK4.out) (by omega) (buf_bool _ _))
  have HV := Lib.hid hj
  clear hj hU hB2 c3 HK3 HK4 HJ1 HJD HFL hL0 hyl0
  have c4 := cell_of_one HK4'.out
  have f4 := free_of_one HK4'.out
  have hd1 : d + 1 ≤ L.length := by have := hseg.len; rw [Fnc.lines, List.length_cons] at this; omega
  rcases HV.out with ⟨rfl, hj⟩ | ⟨rfl, hj⟩
  rotate_left
  · have HX := Lib.hid hj
    clear hj HV
    gi_wp2_with fail
    have cc : (w3.setCell ⟨n3 + 1, 0, none⟩ (.bool false)).cell? ⟨n3 + 1, 0, none⟩ = some (.bool false) := cell_of_one (one_setCell HK4'.out)
    refine ⟨.bool false, by simp [results, Tryz.results86, go_sem, cc], ?_⟩
    exact ⟨false, rfl, .inr ⟨rfl, d + 1, hd1, HE.out.mx _ _ _ HX.out ((Rn.refl _ _).setCell (p := ⟨n3 + 1, 0, none⟩) HK4'.out (buf_bool _ _) (by show N ≤ n3 + 1; omega) _)⟩⟩
  have HJ1 := Lib.hid hj
  clear hj HV
  rw [Fnc.lines] at hseg
  have hsg1 := hseg.tail
  have c2 := ((HE.out.bel _ _ HJ1.out).cell (p := ⟨b, o + 2, none⟩) hb).trans x2
  have hmv := (fnc_parts hm).2.2.1
  have hvl : vs.length ≤ 140737488355328 := ok.2.1.1
  have S1 := Lib.hid ok.2.1
  have HFt := Lib.hid hfit.2
  have HMv := Lib.hid (List.all_eq_true.1 hmv)
  have HLn := Lib.hid (fun v (hv : v ∈ vs) => hlen (1, Vr.line v) (by rw [Fnc.lines]; exact List.mem_cons_of_mem _ (List.mem_append_left _ (List.mem_map.2 ⟨v, hv, rfl⟩))))
  have HSg := Lib.hid hsg1
  clear hmv hsg1
  gi_wp2_with fail
  clear c2 c4 f4
  gi_loopw [19] (fun i wr => ∃ (k e : Nat) (r : List Vr), i = .int .i64 k ∧ k + r.length = vs.length ∧ e + r.length = d + 1 + vs.length ∧ Hid (∀ v ∈ r, v ∈ vs) ∧ Hid (∀ b o, s.pv = some ⟨b, o, none⟩ → Row (Vr.At w0) 4 vs b o → Row (Vr.At w0) 4 r b (o + k * 4)) ∧ Hid (Seg L e (r.map (fun v => (1, v.line)) ++ (bd.lines 1 ++ [(0, [125])]))) ∧ Hid (J e wr) ∧ Hid (wr.heap[n3]? = some (.cells #[.func (.yield l) #[] #[]] 117 (0, 0)) ∧ wr.heap[n3 + 1]? = some (.cells #[.bool false] 4 (0, 0)))) (fun i _ => vs.length - (intOf i).toNat)
  case atStart => exact ⟨0, d + 1, vs, rfl, by omega, rfl, Lib.hid fun v h => h, Lib.hid fun b o _ h => by rw [Nat.zero_mul]; exact h, HSg, HJ1, Lib.hid ⟨HK3'.out, HK4'.out⟩⟩
  case round =>
    obtain ⟨k, e, r, rfl, hk, hed, hmem, hat, hS, hJ, hK⟩ := hrel
    cases r with
    | cons v r =>
      simp only [List.length_cons] at hk
      have hlt : k < vs.length := by omega
      obtain ⟨bv, ov, hpv, hbv, hA⟩ : ∃ b o, s.pv = some ⟨b, o, none⟩ ∧ b < w0.heap.size ∧ Row (Vr.At w0) 4 vs b o := by
        rcases S1.out.2 with h0 | h0
        · omega
        · exact h0
      obtain ⟨hx, hr⟩ := hat.out bv ov hpv hA
      have HR := Lib.hid hr
      have hBw := HE.out.bel _ _ hJ.out
      obtain ⟨g0, g1, g2, g3⟩ := Vr.At.later hBw v bv _ hbv hx
      have hv := hmem.out v (by simp)
      have hsg := hS.out
      rw [List.map_cons, List.cons_append] at hsg
      obtain ⟨hvs, hdv⟩ : ∃ k, str v.line = k := ⟨_, rfl⟩
      have HVL := Lib.hid (fun (w1 : World) (hB : Below w0.heap.size w0 w1) => varLine_any v (HMv.out v hv) (HFt.out v hv) w1 (HE.out.gl.later hB) (HLn.out v hv))
      rw [hdv] at HVL
      have hylv : encL (1, v.line) = #[.int .i64 1, .string hvs] := by rw [← hdv]; rfl
      have hLv := hsg.head
      have hsgT := hsg.tail
      have hwN : wr.heap.size ≥ N := HE.out.hn _ _ hJ.out
      have hbvw : bv < wr.heap.size := Nat.lt_of_lt_of_le hbv hBw.size
      obtain ⟨k3, k4⟩ := hK.out
      have hl3 := lt_of_block k3
      have hl4 := lt_of_block k4
      have c3 := cell_of_one k3
      rw [hpv]
      clear hdv hx hr hA hsg
      gi_wp2_with fail
      obtain ⟨wA, hwA⟩ : ∃ wA, wr.alloc (.cells #[.string (str v.name), .int .i64 v.kind, .int .i64 v.size, .bool v.secret] 80) = wA := ⟨_, rfl⟩
      have hBA : Below wr.heap.size wr wA := by rw [← hwA]; exact (Below.refl _ _).alloc (Nat.le_refl _) _
      have k6 : wA.heap[wr.heap.size]? = some (.cells #[.string (str v.name), .int .i64 v.kind, .int .i64 v.size, .bool v.secret] 80 (0, 0)) := by rw [← hwA]; exact heap_alloc_new wr _
      have v0 : wA.cell? ⟨wr.heap.size, 0, none⟩ = some (.string (str v.name)) := cell_block k6 rfl
      have v1 : wA.cell? ⟨wr.heap.size, 1, none⟩ = some (.int .i64 v.kind) := cell_block k6 rfl
      have v2 : wA.cell? ⟨wr.heap.size, 2, none⟩ = some (.int .i64 v.size) := cell_block k6 rfl
      have v3 : wA.cell? ⟨wr.heap.size, 3, none⟩ = some (.bool v.secret) := cell_block k6 rfl
      rw [hwA]
      have hA3 := (hBA.block n3 hl3).trans k3
      have hA4 := (hBA.block (n3 + 1) hl4).trans k4
      have c3 := cell_of_one hA3
      have HJA := Lib.hid (HE.out.drew (HE.out.fwd hJ.out hBA))
      have HA := Lib.hid (And.intro hA3 hA4)
      have hzA := hBA.size
      clear hwA k6 hBA hA3 hA4 k3 k4 g0 g1 g2 g3
      refine wpIn_mono (Q := PostB b o l n3 wr.heap.size vs.length bv ov k s.cv hs hvs (.agg #[.string (str v.name), .int .i64 v.kind, .int .i64 v.size, .bool v.secret]) u28 (fun q W => ∃ w2, Below wA.heap.size wA.drew w2 ∧ JJ J Jx q (e + 1) W ∧ Up N w2 W)) ?_ ?_
      · gi_region_with (first
        | (refine ⟨trivial, ?_⟩; gi_at_call 127; refine (callsIn_wide.2 (HVL.out wA.drew (HE.out.bel _ _ HJA.out))).mono ?_; rintro z w2 ⟨rfl, hB2⟩; have c3 := (hB2.cell (p := ⟨n3, 0, none⟩) (lt_of_block HA.out.1)).trans c3; obtain ⟨fn, tmps, assign, body, hy, hR⟩ := HE.out.yl e _ w2 hLv (HE.out.fwd HJA.out hB2); rw [hylv] at hy)
        | (refine hR.mono ?_; rintro z w4 ⟨q, rfl, hj, hU⟩))
        all_goals exact ⟨q, rfl, w2, hB2, hj, hU⟩
      intro z a w4 hP
      cases z <;> try exact hP.elim
      obtain ⟨q, rfl, w2, hB2, hj, hU⟩ := hP
      have k3 := hU.same n3 _ ((hB2.block n3 (lt_of_block HA.out.1)).trans HA.out.1) hN (buf_fn _ _)
      have k4 := hU.same (n3 + 1) _ ((hB2.block (n3 + 1) (lt_of_block HA.out.2)).trans HA.out.2) (by omega) (buf_bool _ _)
      have he1 : e + 1 ≤ L.length := by have := hS.out.len; rw [List.map_cons, List.cons_append, List.length_cons] at this; omega
      have HK4 := Lib.hid (And.intro k3 k4)
      clear hB2 hU c3 v0 v1 v2 v3
      rcases hj with ⟨rfl, hj⟩ | ⟨rfl, hj⟩
      · have HJ4 := Lib.hid hj
        clear hj k3 k4
        gi_wp2_with fail
        refine ⟨⟨k + 1, e + 1, r, by go_num, by omega, by simp only [List.length_cons] at hed; omega, Lib.hid fun x hx => hmem.out x (List.mem_cons_of_mem _ hx), Lib.hid fun b' o' e' _ => by cases e'; rw [show ov + (k + 1) * 4 = ov + k * 4 + 4 by omega]; exact HR.out, Lib.hid hsgT, HJ4, HK4⟩, by simp [intOf]; omega⟩
      · have HX := Lib.hid hj
        clear hj
        have c4 := cell_of_one k4
        have f4 := free_of_one k4
        gi_wp2_with fail
        have cc : (w4.setCell ⟨n3 + 1, 0, none⟩ (.bool false)).cell? ⟨n3 + 1, 0, none⟩ = some (.bool false) := cell_of_one (one_setCell k4)
        refine ⟨.bool false, by simp [results, Tryz.results86, go_sem, cc], ?_⟩
        exact ⟨false, rfl, .inr ⟨rfl, e + 1, he1, HE.out.mx _ _ _ HX.out ((Rn.refl _ _).setCell (p := ⟨n3 + 1, 0, none⟩) k4 (buf_bool _ _) (by show N ≤ n3 + 1; omega) _)⟩⟩
    | nil =>
      simp only [List.length_nil, Nat.add_zero] at hk hed
      have hge : ¬ k < vs.length := by omega
      have hsg := hS.out
      rw [List.map_nil, List.nil_append] at hsg
      have hBw := HE.out.bel _ _ hJ.out
      have hbw : b < wr.heap.size := Nat.lt_of_lt_of_le hb hBw.size
      have c4 := (hBw.cell (p := ⟨b, o + 4, none⟩) hb).trans x4
      have hwN : N ≤ wr.heap.size := HE.out.hn _ _ hJ.out
      gi_wp2_with fail
      refine ⟨trivial, ?_⟩
      refine (callsIn_wide.2 (stmtLines_any _ _ _ _)).mono ?_
      rintro z w4 ⟨bx, rfl, hx, hbx, hB4⟩
      obtain ⟨k3, k4⟩ := hK.out
      have hz3 := lt_of_block k3
      have hz4 := lt_of_block k4
      have hzw := hB4.size
      have HI := Lib.hid (show J (e + 0) w4 ∧ w4.heap[n3]? = some (.cells #[.func (.yield l) #[] #[]] 117 (0, 0)) ∧ w4.heap[n3 + 1]? = some (.cells #[.bool false] 4 (0, 0)) from
        ⟨HE.out.fwd hJ.out hB4, (hB4.block n3 hz3).trans k3, (hB4.block (n3 + 1) hz4).trans k4⟩)
      have hcan := (fnc_parts hm).2.2.2.2
      have hdeep : bd.deep ≤ 64 := can_deep hm
      have hln0 : ∀ y ∈ bd.lines 0, y.2.length ≤ 1000000 := fun y hy => hlen (upL y) (by rw [Fnc.lines, Sts.lines_up bd 0]; exact List.mem_cons_of_mem _ (List.mem_append_right _ (List.mem_append_left _ (List.mem_map.2 ⟨y, hy, rfl⟩))))
      have hXX := Lib.hid hx
      have hup : bd.lines 1 = (bd.lines 0).map upL := Sts.lines_up bd 0
      have hll : (bd.lines 1).length = (bd.lines 0).length := by rw [hup, List.length_map]
      have hget : ∀ (j : Nat) (x : Nat × List UInt8), (bd.lines 0)[j]? = some x → L[e + j]? = some (x.1 + 1, x.2) := fun j x h => hsg.left.get (by rw [hup, List.getElem?_map, h]; rfl)
      have hlast : L[e + (bd.lines 0).length]? = some (0, [125]) := by rw [← hll]; exact hsg.right.head
      have htab : ∀ (j : Nat) (x : Nat × List UInt8), (bd.lines 0)[j]? = some x → x.1 ≤ 64 := fun j x h => by
        have := Sts.lines_ok bd 0 (ok.2.2.2.fine) x (List.mem_of_getElem? h)
        have := this.2.1
        omega
      have hfin : e + (bd.lines 0).length + 1 ≤ L.length := by have := hsg.len; rw [List.length_append, hll, List.length_cons, List.length_nil] at this; omega
      have HFin := Lib.hid hfin
      have HTot := Lib.hid (show d + (Fnc.mk nm ps vs rs bd).lines.length = e + (bd.lines 0).length + 1 by simp only [Fnc.lines, List.length_cons, List.length_append, List.length_map, hll, List.length_nil]; omega)
      clear c4 hJ hK hB4 k3 k4 hx hS hsg hup hfin
      gi_wp2_with fail
      have hN4 : N ≤ w4.heap.size := HE.out.hn _ _ HI.out.1
      have hn4 : n3 + 1 < w4.heap.size := lt_of_block HI.out.2.2
      have HGet := Lib.hid hget
      have HTab := Lib.hid htab
      have HLast := Lib.hid hlast
      clear hget htab hlast
      refine range_own (F := Fence.wide) rfl (by omega) (gf := 107) (lb := #[.pointer (some ⟨bx, 0, none⟩)]) rfl trivial (enters_of Tryz.func107 (by kernel_rfl) rfl)
        (stmtLines1_all bd s.pb s.cb bx (M + 1 - 1) w0 w4 hcan (by omega) hln0 ok.2.2.2 HE.out.gl hXX.out) (Below.refl _ w4) (fun _ => rfl)
        (fun j W => J (e + j) W ∧ W.heap[n3]? = some (.cells #[.func (.yield l) #[] #[]] 117 (0, 0)) ∧ W.heap[n3 + 1]? = some (.cells #[.bool false] 4 (0, 0)))
        (fun cd _ W => cd = .ret ∧ (∃ i, i ≤ L.length ∧ Jx i W) ∧ W.heap[n3 + 1]? = some (.cells #[.bool false] 4 (0, 0))) (fun j A h => HE.out.bel _ _ h.1)
        (fun j A B h hAB => ⟨HE.out.mv _ _ _ h.1 (hAB.mono hN4), (hAB.bel.block n3 (by omega)).trans h.2.1, (hAB.bel.block (n3 + 1) hn4).trans h.2.2⟩)
        (fun cd j A B h hAB => ⟨h.1, (by obtain ⟨i, hi, hx⟩ := h.2.1; exact ⟨i, hi, HE.out.mx _ _ _ hx (hAB.mono hN4)⟩), (hAB.bel.block (n3 + 1) hn4).trans h.2.2⟩) HI.out
        (fun _ _ _ => True) (fun _ _ _ _ _ _ => trivial) ?_ ?_ ?_ ?_ ?_
      rotate_left
      · intro l' j x W K hx hi hW hK
        simp only [encL]
        simp only [List.zip_toArray, List.zip_cons_cons, List.zip_nil_left]
        gi_wp2_with fail
        obtain ⟨bb, _⟩ : ∃ bb : Nat, bb = 0 := ⟨_, rfl⟩
        exact hK bb _ (Below.refl _ _) trivial
      · intro l' j x bb W hx hi hA hW
        obtain ⟨hj, k3, k4⟩ := hi
        have ht := HTab.out j x hx
        have hyl := Lib.hid (YieldAt.wide (M' := M + 1 - 1 - 1 - 1) (HE.out.yl _ _ W (HGet.out j x hx) hj))
        have c3 := cell_of_one k3
        have hl3 := lt_of_block k3
        have HK := Lib.hid (And.intro k3 k4)
        clear hj k3 k4
        obtain ⟨fn, tmps, assign, body, hy, hR⟩ := (show YieldAt (Fence.wide.inRound l') (M + 1 - 1 - 1 - 1) Tryz.prog l _ W _ from hyl.out)
        simp only [encL] at hy
        rw [show ((x.1 + 1 : Nat) : Int) = (x.1 : Int) + 1 by omega] at hy
        have HX := Lib.hid hx
        clear hyl hx
        gi_wp2_with fail
        refine ⟨fun h => (by cases h), ?_⟩
        refine hR.mono ?_
        rintro z w5 ⟨v, rfl, hj, hU⟩
        have k3 := hU.same n3 _ HK.out.1 hN (buf_fn _ _)
        have k4 := hU.same (n3 + 1) _ HK.out.2 (by omega) (buf_bool _ _)
        clear hy hR c3
        rcases hj with ⟨rfl, hj⟩ | ⟨rfl, hj⟩
        · have HP := Lib.hid (And.intro (hU.mono hN4) (And.intro hj (And.intro k3 k4)))
          clear hj hU k3 k4
          gi_wp2_with fail
          exact ⟨HP.out.1, by rw [← Nat.add_assoc]; exact HP.out.2.1, HP.out.2.2⟩
        · have HP := Lib.hid (And.intro (hU.mono hN4) (And.intro hj k4))
          have c4 := cell_of_one k4
          have f4 := free_of_one k4
          have hkL : e + j + 1 ≤ L.length := by have := (List.getElem?_eq_some_iff.1 (HGet.out j x HX.out)).1; omega
          clear hj hU k3 k4
          gi_wp2_with fail
          exact ⟨HP.out.1.setCell (p := ⟨n3 + 1, 0, none⟩) hn4 _, rfl, ⟨e + j + 1, hkL, HE.out.mx _ _ _ HP.out.2.1 ((Rn.refl _ _).setCell (p := ⟨n3 + 1, 0, none⟩) HP.out.2.2 (buf_bool _ _) (by show N ≤ n3 + 1; omega) _)⟩, one_setCell HP.out.2.2⟩
      · rintro D W hD ⟨hj, k3, k4⟩ hDh
        have c3 := cell_of_one k3
        have c4 := cell_of_one k4
        have f4 := free_of_one k4
        obtain ⟨fn, tmps, assign, body, hy, hR⟩ := HE.out.yl _ _ W HLast.out hj
        rw [show encL (0, [125]) = #[.int .i64 0, .string ⟨#[125]⟩] from rfl] at hy
        have hlt3 := lt_of_block k3
        have hlt4 := lt_of_block k4
        have hltD := lt_of_block hDh
        gi_wp2_with fail
        refine hR.mono ?_
        rintro z w5 ⟨v, rfl, hj2, hU⟩
        have k4' := hU.same (n3 + 1) _ k4 (by omega) (buf_bool _ _)
        have kD := hU.same D _ hDh (by omega) (buf_def _)
        have d4 := cell_of_one k4'
        have e4 := free_of_one k4'
        have HH := Lib.hid (And.intro hj2 (And.intro k4' kD))
        clear hj2 hU k4' kD c3 c4 f4 k3 k4 hDh hy hR hj
        gi_wp2_with fail
        obtain ⟨hj2, k4, kD⟩ := HH.out
        have hr2 := one_setCell (u := .bool v) k4
        have hs2 : Rn N w5 (w5.setCell ⟨n3 + 1, 0, none⟩ (.bool v)) := (Rn.refl _ _).setCell (p := ⟨n3 + 1, 0, none⟩) k4 (buf_bool _ _) (by show N ≤ n3 + 1; omega) _
        have hK' : (w5.setCell ⟨n3 + 1, 0, none⟩ (.bool v)).heap[D]? = some (.deferred (some [])) := (Below.heap_setCell w5 _ _ D (by show D ≠ n3 + 1; omega)).trans kD
        have hc2 : ((w5.setCell ⟨n3 + 1, 0, none⟩ (.bool v)).putObj D (.deferred none)).cell? ⟨n3 + 1, 0, none⟩ = some (.bool v) := (World.cell?_of_block (World.putObj_heap_other (by show n3 + 1 ≠ D; omega))).trans (cell_of_one hr2)
        refine ⟨by simp, .inl ⟨_, _, rfl, run_takeDeferred hK', ?_⟩⟩
        refine ⟨.bool v, by simp [results, Tryz.results86, go_sem, hc2], ?_⟩
        have hs3 := hs2.trans (rn_put (o' := .deferred (some [])) (.deferred none) (by omega) hK' (buf_def _))
        rcases hj2 with ⟨rfl, h⟩ | ⟨rfl, h⟩
        · exact ⟨true, rfl, .inl ⟨rfl, by rw [HTot.out]; exact HE.out.mv _ _ _ h hs3⟩⟩
        · exact ⟨false, rfl, .inr ⟨rfl, _, HFin.out, HE.out.mx _ _ _ h hs3⟩⟩
      · rintro D cd k' W hD hk' ⟨hc, ⟨i, hi, hxi⟩, k4⟩ hDh
        subst hc
        have HDh := Lib.hid hDh
        have HX := Lib.hid hxi
        have HK4 := Lib.hid k4
        have hlt4 := lt_of_block k4
        clear hDh hxi k4
        gi_wp2_with fail
        have hc2 : (W.putObj D (.deferred none)).cell? ⟨n3 + 1, 0, none⟩ = some (.bool false) := (World.cell?_of_block (World.putObj_heap_other (by show n3 + 1 ≠ D; omega))).trans (cell_of_one HK4.out)
        refine ⟨by simp, .inl ⟨_, _, rfl, run_takeDeferred HDh.out, ?_⟩⟩
        refine ⟨.bool false, by simp [results, Tryz.results86, go_sem, hc2], ?_⟩
        exact ⟨false, rfl, .inr ⟨rfl, i, hi, HE.out.mx _ _ _ HX.out (rn_put (o' := .deferred (some [])) (.deferred none) (by omega) HDh.out (buf_def _))⟩⟩
end Go.Proofs.YtlhbledakddbbaaGreatDoor
/- A program's lines, as an iterator hands them on. -/
namespace Go.Proofs.YtlhbledakddbbaaGreatDoor
open Go.RowKit
attribute [local go_sem] Oper.semAt_some

theorem Prg.lines_eq (rg : List Rgn) (fs : List Fnc) : (Prg.mk rg fs).lines = rg.map (fun r => (0, r.line)) ++ fs.flatMap Fnc.lines := rfl
set_option maxRecDepth 100000 in
set_option maxHeartbeats 6400000 in
theorem programLines1_all (x : Prg) (p q : Option Addr) (c d bp n : Nat) (w0 wx : World) (hm : x.may = true) (hfit : x.fit) (hps : ∀ f ∈ x.fns, f.params.length ≤ 1000000) (hlen : ∀ y ∈ x.lines, y.2.length ≤ 1000000) (hok : x.Ok w0 w0.heap.size p q) (hG0 : Glob w0) :
    SeqOwn (fun A => Below w0.heap.size w0 A ∧ A.heap[bp]? = some (.cells #[.slice p x.regs.length c, .slice q x.fns.length d] 39 (0, 0))) Fence.wide n Tryz.prog 84 #[.pointer (some ⟨bp, 0, none⟩)] encL x.lines wx := by
  intro l J Jx W hW hJ hJx hG hY h0
  refine callsIn_wide.2 ?_
  obtain ⟨M, hM⟩ : ∃ M, M = n - 1 := ⟨_, rfl⟩
  obtain ⟨L, hL⟩ : ∃ L, L = x.lines := ⟨_, rfl⟩
  have E : FnEnv l M W.heap.size w0 L (fun k A => J k A ∧ W.heap.size ≤ A.heap.size) Jx :=
    { gl := hG0
      mv := fun k A B h hAB => ⟨hJ k A B h.1 hAB, Nat.le_trans h.2 hAB.bel.size⟩
      mx := hJx
      bel := fun k A h => (hG k A h.1).1
      hn := fun k A h => h.2
      yl := fun k y W1 hx hj => by
        obtain ⟨fn, tmps, assign, body, hy, hR⟩ := jj_of (hY k y W1 (by rw [← hL]; exact hx) hj.1)
        refine ⟨fn, tmps, assign, body, hy, (by rw [hM]; exact hR.mono (by
          rintro e w ⟨v, rfl, hjj, hU⟩
          refine ⟨v, rfl, ?_, hU⟩
          rcases hjj with ⟨rfl, h⟩ | ⟨rfl, h⟩
          · exact .inl ⟨rfl, h, Nat.le_trans hj.2 hU.size⟩
          · exact .inr ⟨rfl, h⟩))⟩ }
  have HE := Lib.hid E
  clear hM
  have HG := Lib.hid (fun k A (h : J k A) => (hG k A h).2)
  have HJ0 : Hid (J 0 W ∧ W.heap.size ≤ W.heap.size) := Lib.hid ⟨h0, Nat.le_refl _⟩
  obtain ⟨rg, fs⟩ := x
  simp only [] at HG
  rw [Prg.lines_eq] at hL hlen
  rw [Prg.lines_eq, ← hL]
  unfold Prg.may at hm
  simp only [Bool.and_eq_true] at hm
  have HMr := Lib.hid (List.all_eq_true.1 hm.1)
  have HMf := Lib.hid (List.all_eq_true.1 hm.2)
  have HFr := Lib.hid hfit.1
  have HFf := Lib.hid hfit.2
  have HPs := Lib.hid hps
  have S1 := Lib.hid hok.1
  have S2 := Lib.hid hok.2
  have hr63 : rg.length ≤ 140737488355328 := hok.1.1
  have hf63 : fs.length ≤ 140737488355328 := hok.2.1
  have HLn := Lib.hid hlen
  have HSg : Hid (Seg L 0 (rg.map (fun r => (0, r.line)) ++ fs.flatMap Fnc.lines)) := Lib.hid (by rw [← hL]; exact Seg.all _)
  have HLL := Lib.hid (show L.length = rg.length + (fs.flatMap Fnc.lines).length by rw [hL, List.length_append, List.length_map])
  have hGc := HG.out 0 W h0
  clear hJ hJx hG hY h0 hW E hL hlen hm hfit hps hok
  show Calls Tryz.prog 84 #[.func (.yield l) #[] #[], .pointer (some ⟨bp, 0, none⟩)] W _
  have c0 : W.cell? ⟨bp, 0, none⟩ = some (.slice p rg.length c) := cell_block hGc rfl
  go_enter Tryz.func84, Tryz.ntmps84
  go_wp2_with fail
  clear c0 hGc
  go_loopw [9] (fun i wr => ∃ (k : Nat) (r : List Rgn), i = .int .i64 k ∧ k + r.length = rg.length ∧ Hid (∀ v ∈ r, v ∈ rg) ∧ Hid (∀ b o, p = some ⟨b, o, none⟩ → Row (Rgn.At w0) 4 rg b o → Row (Rgn.At w0) 4 r b (o + k * 4)) ∧ Hid (Seg L k (r.map (fun r => (0, r.line)) ++ fs.flatMap Fnc.lines)) ∧ Hid (J k wr ∧ W.heap.size ≤ wr.heap.size)) (fun i _ => rg.length - (intOf i).toNat)
  case atStart => exact ⟨0, rg, rfl, by omega, Lib.hid fun v h => h, Lib.hid fun b o _ h => by rw [Nat.zero_mul]; exact h, HSg, HJ0⟩
  case round =>
    obtain ⟨k, r, rfl, hk, hmem, hat, hS, hj⟩ := hrel
    cases r with
    | cons v r =>
      simp only [List.length_cons] at hk
      have hlt : k < rg.length := by omega
      obtain ⟨bv, ov, rfl, hbv, hA⟩ : ∃ b o, p = some ⟨b, o, none⟩ ∧ b < w0.heap.size ∧ Row (Rgn.At w0) 4 rg b o := by
        rcases S1.out.2 with h0 | h0
        · omega
        · exact h0
      obtain ⟨hx, hr⟩ := hat.out bv ov rfl hA
      have HR := Lib.hid hr
      have hBw := HE.out.bel _ _ hj.out
      obtain ⟨g0, g1, g2, g3⟩ := Rgn.At.later hBw v bv _ hbv hx
      have hv := hmem.out v (by simp)
      have hsg := hS.out
      rw [List.map_cons, List.cons_append] at hsg
      obtain ⟨hvs, hdv⟩ : ∃ k, str v.line = k := ⟨_, rfl⟩
      have HVL := Lib.hid (fun (w1 : World) (hB : Below w0.heap.size w0 w1) => regionLine_any v (HMr.out v hv) (HFr.out v hv) w1 (HE.out.gl.later hB) (HLn.out (0, v.line) (List.mem_append_left _ (List.mem_map.2 ⟨v, hv, rfl⟩))))
      rw [hdv] at HVL
      have hylv : encL (0, v.line) = #[.int .i64 0, .string hvs] := by rw [← hdv]; rfl
      have HLv := Lib.hid hsg.head
      have HsgT := Lib.hid hsg.tail
      have hbvw : bv < wr.heap.size := Nat.lt_of_lt_of_le hbv hBw.size
      have hk1 : k + 1 ≤ L.length := by have := hsg.len; rw [List.length_cons] at this; omega
      clear hdv hx hr hA hsg hS hat
      go_upto_region 3 with fail
      obtain ⟨wA, hwA⟩ : ∃ wA, wr.alloc (.cells #[.string (str v.name), .int .i64 v.addr, .int .i64 v.size, .bool v.secret] 77) = wA := ⟨_, rfl⟩
      have hBA : Below wr.heap.size wr wA := by rw [← hwA]; exact (Below.refl _ _).alloc (Nat.le_refl _) _
      have k6 : wA.heap[wr.heap.size]? = some (.cells #[.string (str v.name), .int .i64 v.addr, .int .i64 v.size, .bool v.secret] 77 (0, 0)) := by rw [← hwA]; exact heap_alloc_new wr _
      have v0 : wA.cell? ⟨wr.heap.size, 0, none⟩ = some (.string (str v.name)) := cell_block k6 rfl
      have v1 : wA.cell? ⟨wr.heap.size, 1, none⟩ = some (.int .i64 v.addr) := cell_block k6 rfl
      have v2 : wA.cell? ⟨wr.heap.size, 2, none⟩ = some (.int .i64 v.size) := cell_block k6 rfl
      have v3 : wA.cell? ⟨wr.heap.size, 3, none⟩ = some (.bool v.secret) := cell_block k6 rfl
      rw [hwA]
      have HJA := Lib.hid (HE.out.fwd hj.out hBA)
      clear hwA k6 hBA g0 g1 g2 g3 hj
      refine (wpIn_wide (n := M + 1)).1 ?_
      gi_wp2_with fail
      refine ⟨trivial, ?_⟩
      refine (callsIn_wide.2 (HVL.out wA (HE.out.bel _ _ HJA.out))).mono ?_
      rintro z w2 ⟨rfl, hB2⟩
      obtain ⟨fn, tmps, assign, body, hy, hR⟩ := HE.out.yl k _ w2 HLv.out (HE.out.fwd HJA.out hB2)
      rw [hylv] at hy
      clear v0 v1 v2 v3 hB2 HVL
      gi_wp2_with fail
      refine hR.mono ?_
      rintro z w3 ⟨v, rfl, hj, hU⟩
      clear hU hy hR
      rcases hj with ⟨rfl, hj⟩ | ⟨rfl, hj⟩
      · have HJ3 := Lib.hid hj
        clear hj
        gi_wp2_with fail
        go_wp2_with fail
        go_roundw
        case rel => exact ⟨k + 1, r, by go_num, by omega, Lib.hid fun x hx => hmem.out x (List.mem_cons_of_mem _ hx), Lib.hid fun b' o' e' _ => by cases e'; rw [show ov + (k + 1) * 4 = ov + k * 4 + 4 by omega]; exact HR.out, HsgT, HJ3⟩
        case measure => simp [intOf]; omega
      · have HX := Lib.hid hj
        clear hj
        gi_wp2_with fail
        go_wp2_with fail
        refine bodyPost_ret (results_none rfl _ _ _) rfl ?_
        exact ⟨⟨_, rfl⟩, .inr ⟨k + 1, hk1, HX.out⟩⟩
    | nil =>
      simp only [List.length_nil, Nat.add_zero] at hk
      subst hk
      have hge : ¬ rg.length < rg.length := by omega
      have hsg := hS.out
      rw [List.map_nil, List.nil_append] at hsg
      have HSg2 := Lib.hid hsg
      have hGc := HG.out _ _ hj.out.1
      have c1 : wr.cell? ⟨bp, 1, none⟩ = some (.slice q fs.length d) := cell_block hGc rfl
      clear hsg hGc hS hat
      go_wp2_with fail
      clear c1
      go_loopw [22] (fun i w2 => ∃ (k e : Nat) (r : List Fnc), i = .int .i64 k ∧ k + r.length = fs.length ∧ Hid (∀ v ∈ r, v ∈ fs) ∧ Hid (∀ b o, q = some ⟨b, o, none⟩ → Row (Fnc.At w0 w0.heap.size) 5 fs b o → Row (Fnc.At w0 w0.heap.size) 5 r b (o + k * 5)) ∧ Hid (Seg L e (r.flatMap Fnc.lines) ∧ e + (r.flatMap Fnc.lines).length = L.length) ∧ Hid (J e w2 ∧ W.heap.size ≤ w2.heap.size)) (fun i _ => fs.length - (intOf i).toNat)
      case atStart => exact ⟨0, rg.length, fs, rfl, by omega, Lib.hid fun v h => h, Lib.hid fun b o _ h => by rw [Nat.zero_mul]; exact h, Lib.hid ⟨HSg2.out, by rw [HLL.out]⟩, hj⟩
      case round =>
        obtain ⟨k2, e, r, rfl, hk2, hmem2, hat2, hS2, hj2⟩ := hrel
        cases r with
        | nil =>
          simp only [List.length_nil, Nat.add_zero] at hk2
          have hge2 : ¬ k2 < fs.length := by omega
          have he : e = L.length := by have := hS2.out.2; simpa using this
          go_wp2_with fail
          go_end0
          subst he
          exact ⟨⟨_, rfl⟩, .inl hj2.out.1⟩
        | cons f r =>
          simp only [List.length_cons] at hk2
          have hlt2 : k2 < fs.length := by omega
          obtain ⟨bf, of, rfl, hbf, hA⟩ : ∃ b o, q = some ⟨b, o, none⟩ ∧ b < w0.heap.size ∧ Row (Fnc.At w0 w0.heap.size) 5 fs b o := by
            rcases S2.out.2 with h0 | h0
            · omega
            · exact h0
          obtain ⟨hx, hr⟩ := hat2.out bf of rfl hA
          have HR := Lib.hid hr
          have hfm := hmem2.out f (by simp)
          obtain ⟨hsg, htt⟩ := hS2.out
          rw [List.flatMap_cons] at hsg htt
          have HF := Lib.hid (showFunc_any HE.out f bf (of + k2 * 5) e hbf hx (HMf.out f hfm) (HFf.out f hfm) (HPs.out f hfm) (fun y hy => HLn.out y (List.mem_append_right _ (List.mem_flatMap.2 ⟨f, hfm, hy⟩))) hsg.left wr hj2.out)
          have HsgT := Lib.hid (show Seg L (e + f.lines.length) (r.flatMap Fnc.lines) ∧ e + f.lines.length + (r.flatMap Fnc.lines).length = L.length from ⟨hsg.right, by rw [List.length_append] at htt; omega⟩)
          have hGc := HG.out _ _ hj2.out.1
          have c1 : wr.cell? ⟨bp, 1, none⟩ = some (.slice (some ⟨bf, of, none⟩) fs.length d) := cell_block hGc rfl
          clear hx hr hA hsg htt hS2 hGc hat2
          go_wp2_with fail
          refine HF.out.mono ?_
          rintro z w3 ⟨v, rfl, hs⟩
          have HS := Lib.hid hs
          clear hs c1
          rcases HS.out with ⟨rfl, h⟩ | ⟨rfl, h⟩
          · have HJ3 := Lib.hid h
            clear h
            go_wp2_with fail
            go_roundw
            case rel => exact ⟨k2 + 1, e + f.lines.length, r, by go_num, by omega, Lib.hid fun x hx => hmem2.out x (List.mem_cons_of_mem _ hx), Lib.hid fun b' o' e' _ => by cases e'; rw [show of + (k2 + 1) * 5 = of + k2 * 5 + 5 by omega]; exact HR.out, HsgT, HJ3⟩
            case measure => simp [intOf]; omega
          · have HX := Lib.hid h
            clear h
            go_wp2_with fail
            refine bodyPost_ret (results_none rfl _ _ _) rfl ?_
            exact ⟨⟨_, rfl⟩, .inr HX.out⟩
end Go.Proofs.YtlhbledakddbbaaGreatDoor
/- The text of any program. -/
namespace Go.Proofs.YtlhbledakddbbaaGreatDoor
open Go.RowKit
attribute [local go_sem] Oper.semAt_some

def Prg.err (x : Prg) : Nat := if x.may then (if x.text.length ≤ 65536 then 0 else 3) else 2
def Prg.out (x : Prg) : List UInt8 := if x.err = 0 then x.text else []
theorem linesT_app (a b : List (Nat × List UInt8)) : linesT (a ++ b) = linesT a ++ linesT b := by simp [linesT]
theorem linesT_take {L : List (Nat × List UInt8)} {k : Nat} {x : Nat × List UInt8} (h : L[k]? = some x) : linesT (L.take (k + 1)) = linesT (L.take k) ++ (List.replicate x.1 9 ++ (x.2 ++ [10])) := by
  rw [List.take_add_one, h, Option.toList_some, linesT_app]
  simp [linesT, lineT]
theorem linesT_le (L : List (Nat × List UInt8)) (k : Nat) : (linesT (L.take k)).length ≤ (linesT L).length := by
  have := congrArg List.length (linesT_app (L.take k) (L.drop k))
  rw [List.take_append_drop, List.length_append] at this
  omega
theorem repeat_tab (t : Nat) (ht : t ≤ 1000) (w : World) : Calls Tryz.prog 46 #[.string ⟨#[9]⟩, .int .i64 (t : Int)] w fun e w' => e = .returned (.string (str (List.replicate t 9))) ∧ Below w.heap.size w w' := by
  have h := Tryz.strings_Repeat ⟨#[9]⟩ t w (by omega) (by show 1 * t ≤ _; omega)
  have e : Lib.repeatL (⟨#[9]⟩ : ByteArray).data.toList t = List.replicate t 9 := by
    have := Lib.repeatL_replicate 9 1 t
    rw [Nat.mul_one] at this
    exact this
  rw [e] at h
  exact h

/-- what stays while Text goes through the lines -/
structure TX (w : World) (bp nb : Nat) (PV : Array Value) (L : List (Nat × List UInt8)) (k : Nat) (W : World) : Prop where
  pr : W.heap[bp]? = some (.cells PV 39 (0, 0))
  bd : Lib.IsBuilder 85 5 nb nb (Lib.byteCells (linesT (L.take k))) W
  r0 : W.heap[w.heap.size + 1]? = some (.cells #[.string ⟨#[]⟩] 9 (0, 0))
  r1 : W.heap[w.heap.size + 2]? = some (.cells #[.int .i64 0] 29 (0, 0))
  bw : Below w.heap.size w W
  ln : (linesT (L.take k)).length ≤ 65536
  fr : k = 0 → W.heap[nb]? = some (.cells #[.pointer none, .slice none 0 0] 85 (0, 0))
theorem TX.rn {w : World} {bp nb n : Nat} {PV : Array Value} {L : List (Nat × List UInt8)} {k : Nat} {A B : World} (h : TX w bp nb PV L k A) (hAB : Rn n A B) (h1 : bp < n) (h2 : w.heap.size + 2 < n) : TX w bp nb PV L k B :=
  ⟨(hAB.bel.block _ h1).trans h.pr, builder_rn h.bd hAB, (hAB.bel.block _ (by omega)).trans h.r0, (hAB.bel.block _ h2).trans h.r1, h.bw.trans (hAB.bel.mono (by omega)), h.ln, fun e => hAB.buf _ _ (h.fr e) (buf_b _ _)⟩

theorem string_fresh (b : Nat) (w : World) (h : w.heap[b]? = some (.cells #[.pointer none, .slice none 0 0] 85 (0, 0))) :
    Calls Tryz.prog 49 #[.pointer (some ⟨b, 0, none⟩)] w fun e w' => e = .returned (.string ⟨#[]⟩) ∧ Below w.heap.size w w' :=
  Any.Builder_String_nil Tryz.lays169 Tryz.Builder_Extra_169 w.heap.size b _ w h
set_option maxRecDepth 100000 in
set_option maxHeartbeats 6400000 in
theorem text_no (x : Prg) (h6 : ∀ f ∈ x.fns, f.body.wt ≤ 1000000) (p q : Option Addr) (c d : Nat) (w : World) (hok : x.Ok w w.heap.size p q) (hm : x.may = false) :
    Calls Tryz.prog 17 #[x.val p q c d] w fun e w' => e = .returned (.tuple #[.string (str x.out), .int .i64 (x.err : Int)]) ∧ Below w.heap.size w w' := by
  have he : x.err = 2 := by unfold Prg.err; rw [hm]; rfl
  have ho : x.out = [] := by unfold Prg.out; rw [he]; rfl
  rw [he, ho]
  have HMy := Lib.hid (fun (w1 : World) (hB : Below w.heap.size w w1) => may_any x h6 p q c d w.heap.size w1 hB.size (hok.later hB (Nat.le_refl _)))
  rw [hm] at HMy
  unfold Prg.val at HMy ⊢
  clear hok hm he ho
  refine (callsIn_wide (n := 4)).1 ?_
  refine callsIn_of_wp_marks Tryz.func17 rfl trivial ?_ rfl
  simp only [Tryz.ntmps17, List.size_toArray, List.length_cons, List.length_nil, Nat.reduceAdd, Nat.reduceSub, Array.replicate_succ, Array.replicate_zero, List.push_toArray, List.append_toArray, List.nil_append, List.cons_append]
  gi_wp2_with fail
  obtain ⟨w1, hw1⟩ : ∃ w1, ((w.alloc (.cells #[.slice p x.regs.length c, .slice q x.fns.length d] 39)).alloc (.cells #[.string ⟨#[]⟩] 9)).alloc (.cells #[.int .i64 0] 29) = w1 := ⟨_, rfl⟩
  have hB1 : Below w.heap.size w w1 := by rw [← hw1]; exact (((Below.refl _ w).alloc (Nat.le_refl _) _).alloc (by simp) _).alloc (by simp; omega) _
  have k1 : w1.heap[w.heap.size + 1]? = some (.cells #[.string ⟨#[]⟩] 9 (0, 0)) := by
    rw [← hw1, Below.heap_alloc _ _ _ (by simp)]; have := heap_alloc_new (w.alloc (.cells #[.slice p x.regs.length c, .slice q x.fns.length d] 39)) (.cells #[.string ⟨#[]⟩] 9); simpa using this
  have k2 : w1.heap[w.heap.size + 2]? = some (.cells #[.int .i64 0] 29 (0, 0)) := by
    rw [← hw1]; have := heap_alloc_new ((w.alloc (.cells #[.slice p x.regs.length c, .slice q x.fns.length d] 39)).alloc (.cells #[.string ⟨#[]⟩] 9)) (.cells #[.int .i64 0] 29); simpa using this
  rw [hw1]
  clear hw1
  refine ⟨trivial, ?_⟩
  refine (callsIn_wide.2 (HMy.out w1 hB1)).mono ?_
  rintro e w2 ⟨rfl, hB2⟩
  have j1 := (hB2.block _ (lt_of_block k1)).trans k1
  have j2 := (hB2.block _ (lt_of_block k2)).trans k2
  have HB := Lib.hid (hB1.trans (hB2.mono hB1.size))
  have c1 := cell_of_one j1
  have c2 := cell_of_one j2
  have f1 := free_of_one j1
  have f2 := free_of_one j2
  have HJ := Lib.hid (And.intro j1 j2)
  clear k1 k2 hB1 hB2 j1 j2
  gi_wp2_with fail
  obtain ⟨X, hX⟩ : ∃ X, w2.setCell ⟨w.heap.size + 1, 0, none⟩ (.string ⟨#[]⟩) = X := ⟨_, rfl⟩
  have x1 : X.heap[w.heap.size + 1]? = some (.cells #[.string ⟨#[]⟩] 9 (0, 0)) := by rw [← hX]; exact one_setCell HJ.out.1
  have x2 : X.heap[w.heap.size + 2]? = some (.cells #[.int .i64 0] 29 (0, 0)) := by rw [← hX]; exact (Below.heap_setCell w2 _ _ _ (by show w.heap.size + 2 ≠ w.heap.size + 1; omega)).trans HJ.out.2
  have hbX : Below w.heap.size w X := by rw [← hX]; exact HB.out.setCell (p := ⟨w.heap.size + 1, 0, none⟩) (by show w.heap.size ≤ w.heap.size + 1; omega) _
  obtain ⟨Y, hY⟩ : ∃ Y, X.setCell ⟨w.heap.size + 1 + 1, 0, none⟩ (.int .i64 2) = Y := ⟨_, rfl⟩
  have y1 : Y.heap[w.heap.size + 1]? = some (.cells #[.string ⟨#[]⟩] 9 (0, 0)) := by rw [← hY]; exact (Below.heap_setCell X _ _ _ (by show w.heap.size + 1 ≠ w.heap.size + 1 + 1; omega)).trans x1
  have y2 : Y.heap[w.heap.size + 1 + 1]? = some (.cells #[.int .i64 2] 29 (0, 0)) := by rw [← hY]; exact one_setCell x2
  have hbY : Below w.heap.size w Y := by rw [← hY]; exact hbX.setCell (p := ⟨w.heap.size + 1 + 1, 0, none⟩) (by show w.heap.size ≤ w.heap.size + 1 + 1; omega) _
  rw [hX, hY]
  have d1 := cell_of_one y1
  have d2 := cell_of_one y2
  refine ⟨.tuple #[.string ⟨#[]⟩, .int .i64 2], ?_, rfl, hbY⟩
  simp [results, Tryz.results17, go_sem, d1, d2]

set_option maxRecDepth 100000 in
set_option maxHeartbeats 6400000 in
theorem text_yes (x : Prg) (h6 : ∀ f ∈ x.fns, f.body.wt ≤ 1000000) (p q : Option Addr) (c d : Nat) (w : World) (hG : Glob w) (hok : x.Ok w w.heap.size p q) (hm : x.may = true) (hfit : x.fit) (hps : ∀ f ∈ x.fns, f.params.length ≤ 1000000) (hlen : ∀ y ∈ x.lines, y.1 ≤ 1000 ∧ y.2.length ≤ 1000000) :
    Calls Tryz.prog 17 #[x.val p q c d] w fun e w' => e = .returned (.tuple #[.string (str x.out), .int .i64 (x.err : Int)]) ∧ Below w.heap.size w w' := by
  have HMy := Lib.hid (fun (w1 : World) (hB : Below w.heap.size w w1) => may_any x h6 p q c d w.heap.size w1 hB.size (hok.later hB (Nat.le_refl _)))
  rw [hm] at HMy
  have HRes1 := Lib.hid (show x.text.length ≤ 65536 → x.out = x.text ∧ x.err = 0 from fun h => by
    have he : x.err = 0 := by unfold Prg.err; rw [if_pos hm, if_pos h]
    exact ⟨by unfold Prg.out; rw [if_pos he], he⟩)
  have HRes2 := Lib.hid (show ¬ x.text.length ≤ 65536 → x.out = [] ∧ x.err = 3 from fun h => by
    have he : x.err = 3 := by unfold Prg.err; rw [if_pos hm, if_neg h]
    exact ⟨by unfold Prg.out; rw [if_neg (by omega)], he⟩)
  have HSeq := Lib.hid (fun bp n wx => programLines1_all x p q c d bp n w wx hm hfit hps (fun y hy => (hlen y hy).2) hok hG)
  have HLen := Lib.hid hlen
  have hxt : linesT x.lines = x.text := rfl
  obtain ⟨L, hL⟩ : ∃ L, x.lines = L := ⟨_, rfl⟩
  rw [hL] at HSeq HLen hxt
  have HXT := Lib.hid hxt
  obtain ⟨PV, hPV⟩ : ∃ PV : Array Value, PV = #[.slice p x.regs.length c, .slice q x.fns.length d] := ⟨_, rfl⟩
  unfold Prg.val at HMy ⊢
  rw [← hPV] at HMy HSeq ⊢
  have HPV := Lib.hid hPV
  clear hok hm hG hfit hps hlen hL h6 hxt
  rw [hPV]
  refine (callsIn_wide (n := 4)).1 ?_
  refine callsIn_of_wp_marks Tryz.func17 rfl trivial ?_ rfl
  simp only [Tryz.ntmps17, List.size_toArray, List.length_cons, List.length_nil, Nat.reduceAdd, Nat.reduceSub, Array.replicate_succ, Array.replicate_zero, List.push_toArray, List.append_toArray, List.nil_append, List.cons_append]
  gi_wp2_with fail
  obtain ⟨w1, hw1⟩ : ∃ w1, ((w.alloc (.cells #[.slice p x.regs.length c, .slice q x.fns.length d] 39)).alloc (.cells #[.string ⟨#[]⟩] 9)).alloc (.cells #[.int .i64 0] 29) = w1 := ⟨_, rfl⟩
  have hB1 : Below w.heap.size w w1 := by rw [← hw1]; exact (((Below.refl _ w).alloc (Nat.le_refl _) _).alloc (by simp) _).alloc (by simp; omega) _
  have k0 : w1.heap[w.heap.size]? = some (.cells #[.slice p x.regs.length c, .slice q x.fns.length d] 39 (0, 0)) := by
    rw [← hw1, Below.heap_alloc _ _ _ (by simp; omega), Below.heap_alloc _ _ _ (by simp)]; exact heap_alloc_new w _
  have k1 : w1.heap[w.heap.size + 1]? = some (.cells #[.string ⟨#[]⟩] 9 (0, 0)) := by
    rw [← hw1, Below.heap_alloc _ _ _ (by simp)]; have := heap_alloc_new (w.alloc (.cells #[.slice p x.regs.length c, .slice q x.fns.length d] 39)) (.cells #[.string ⟨#[]⟩] 9); simpa using this
  have k2 : w1.heap[w.heap.size + 2]? = some (.cells #[.int .i64 0] 29 (0, 0)) := by
    rw [← hw1]; have := heap_alloc_new ((w.alloc (.cells #[.slice p x.regs.length c, .slice q x.fns.length d] 39)).alloc (.cells #[.string ⟨#[]⟩] 9)) (.cells #[.int .i64 0] 29); simpa using this
  rw [hw1]
  clear hw1
  have l2 := lt_of_block k2
  rw [hPV] at HMy HSeq
  refine ⟨trivial, ?_⟩
  refine (callsIn_wide.2 (HMy.out w1 hB1)).mono ?_
  rintro e w2 ⟨rfl, hB2⟩
  have hBw2 := hB1.trans (hB2.mono hB1.size)
  obtain ⟨w3, hw3⟩ : ∃ w3, w2.alloc (.cells #[.pointer none, .slice none 0 0] 85) = w3 := ⟨_, rfl⟩
  have hB3 : Below w2.heap.size w2 w3 := by rw [← hw3]; exact (Below.refl _ w2).alloc (Nat.le_refl _) _
  have kb : w3.heap[w2.heap.size]? = some (.cells #[.pointer none, .slice none 0 0] 85 (0, 0)) := by rw [← hw3]; exact heap_alloc_new w2 _
  have z2 := hB2.size
  have z3 := hB3.size
  have m0 := (hB3.block _ (by omega)).trans ((hB2.block _ (lt_of_block k0)).trans k0)
  have m1 := (hB3.block _ (by omega)).trans ((hB2.block _ (lt_of_block k1)).trans k1)
  have m2 := (hB3.block _ (by omega)).trans ((hB2.block _ (lt_of_block k2)).trans k2)
  have hBw3 := hBw2.trans (hB3.mono hBw2.size)
  have hb3 : Lib.IsBuilder 85 5 w2.heap.size w2.heap.size (Lib.byteCells (linesT (L.take 0))) w3 := .inl ⟨Nat.le_refl _, _, kb, World.ownsRow_nil _ _ _ _, by simp [Value.ownBlock]⟩
  have p0 : w2.cell? ⟨w.heap.size, 0, none⟩ = some (.slice p x.regs.length c) := cell_block ((hB2.block _ (lt_of_block k0)).trans k0) rfl
  have p1 : w2.cell? ⟨w.heap.size, 1, none⟩ = some (.slice q x.fns.length d) := cell_block ((hB2.block _ (lt_of_block k0)).trans k0) rfl
  have q0 : w3.cell? ⟨w.heap.size, 0, none⟩ = some (.slice p x.regs.length c) := cell_block m0 rfl
  have q1 : w3.cell? ⟨w.heap.size, 1, none⟩ = some (.slice q x.fns.length d) := cell_block m0 rfl
  gi_wp2_with fail
  refine ⟨trivial, ?_⟩
  refine (callsIn_wide.2 (programLines_any _ _ w3)).mono ?_
  rintro e w4 ⟨bp, rfl, hbp, hbz4, hB4⟩
  have z4 := hB4.size
  have lbp := lt_of_block hbp
  have HI : Hid (TX w bp w2.heap.size #[.slice p x.regs.length c, .slice q x.fns.length d] L 0 w4) := Lib.hid
    { pr := hbp
      bd := builder_rn hb3 (Rn.of_below hB4 (Nat.le_refl _))
      r0 := (hB4.block _ (by omega)).trans m1
      r1 := (hB4.block _ (by omega)).trans m2
      bw := hBw3.trans (hB4.mono (by omega))
      ln := by simp [linesT]
      fr := fun _ => (hB4.block _ (lt_of_block kb)).trans kb }
  have hz : w.heap.size + 2 < w2.heap.size ∧ w2.heap.size < w4.heap.size ∧ bp < w4.heap.size := by
    have := lt_of_block kb
    exact ⟨by omega, by omega, lbp⟩
  clear k0 k1 k2 l2 z2 z3 z4 m0 m1 m2 p0 p1 q0 q1 kb hw3 hb3 hB1 hB2 hB3 hB4 hBw2 hBw3 hbp hbz4 lbp HMy
  generalize w2.heap.size = nb at *
  gi_wp2_with fail
  refine range_own (F := Fence.wide) rfl (by omega) (gf := 84) (lb := #[.pointer (some ⟨bp, 0, none⟩)]) rfl trivial (enters_of Tryz.func84 (by kernel_rfl) rfl)
    (HSeq.out bp (4 - 1) w4) (Below.refl _ w4) (fun _ => rfl)
    (fun k W => TX w bp nb #[.slice p x.regs.length c, .slice q x.fns.length d] L k W)
    (fun cd _ W => cd = .ret ∧ ¬ x.text.length ≤ 65536 ∧ W.heap[w.heap.size + 1]? = some (.cells #[.string ⟨#[]⟩] 9 (0, 0)) ∧ W.heap[w.heap.size + 2]? = some (.cells #[.int .i64 3] 29 (0, 0)) ∧ Below w.heap.size w W)
    (fun k A h => ⟨h.bw, h.pr⟩)
    (fun k A B h hAB => h.rn hAB hz.2.2 (by omega))
    (fun cd k A B h hAB => ⟨h.1, h.2.1, (hAB.bel.block _ (by omega)).trans h.2.2.1, (hAB.bel.block _ (by omega)).trans h.2.2.2.1, h.2.2.2.2.trans (hAB.bel.mono (by omega))⟩) HI.out (fun _ _ _ => True) (fun _ _ _ _ _ _ => trivial) ?_ ?_ ?_ ?_ ?_
  rotate_left
  · intro l k y W K hx hi hW hK
    simp only [encL]
    simp only [List.zip_toArray, List.zip_cons_cons, List.zip_nil_left]
    gi_wp2_with fail
    obtain ⟨bb, _⟩ : ∃ bb : Nat, bb = 0 := ⟨_, rfl⟩
    exact hK bb _ (Below.refl _ _) trivial
  · intro l k y bb W hx hi hA hW
    obtain ⟨tb, ln⟩ := y
    obtain ⟨htb, hll⟩ := HLen.out _ (List.mem_of_getElem? hx)
    have hkL := (List.getElem?_eq_some_iff.1 hx).1
    simp only [] at htb hll
    have ht := linesT_take hx
    simp only [] at ht
    have hnW : nb ≤ W.heap.size := by omega
    have hln := size_len (str ln)
    rw [str_data] at hln
    have hlt := size_len (str (List.replicate tb 9))
    rw [str_data, List.length_replicate] at hlt
    have hcl := cells_len (linesT (L.take k))
    have h65 := hi.ln
    gi_wp2_with fail
    refine ⟨trivial, ?_⟩
    refine (CallsIn.inRound l (callsIn_wide.2 (repeat_tab tb htb W))).mono ?_
    rintro e wA ⟨rfl, hBA⟩
    have hiA := hi.rn (Rn.of_below hBA (Nat.le_of_lt hW)) hz.2.2 (by omega)
    have hzA := hBA.size
    gi_wp2_with fail
    refine ⟨trivial, ?_⟩
    refine (CallsIn.inRound l (callsIn_wide.2 (writeString_any nb nb _ (str (List.replicate tb 9)) wA hiA.bd (by rw [hcl, hlt]; omega) (by omega)))).mono ?_
    rintro e w5 ⟨rfl, hb5, hB5, hk5⟩
    have z5 := hB5.size
    rw [str_cells, ← cells_app] at hb5
    gi_wp2_with fail
    refine ⟨trivial, ?_⟩
    refine (CallsIn.inRound l (callsIn_wide.2 (writeString_any nb nb _ (str ln) w5 (.inr hb5) (by rw [cells_len, hln, List.length_append, List.length_replicate]; omega) (by omega)))).mono ?_
    rintro e w6 ⟨rfl, hb6, hB6, hk6⟩
    have z6 := hB6.size
    rw [str_cells, ← cells_app] at hb6
    gi_wp2_with fail
    refine ⟨trivial, ?_⟩
    refine (CallsIn.inRound l (callsIn_wide.2 (writeByte_any nb nb _ 10 w6 (.inr hb6) (by rw [cells_len]; simp only [List.length_append, List.length_replicate]; omega) (by omega)))).mono ?_
    rintro e w7 ⟨rfl, hb7, hB7, hk7⟩
    have z7 := hB7.size
    rw [← cells_one, ← cells_app] at hb7
    have ht7 : linesT (L.take k) ++ List.replicate tb 9 ++ ln ++ [10] = linesT (L.take (k + 1)) := by rw [ht]; simp
    rw [ht7] at hb7
    have hU : Up w4.heap.size W w7 := ((Up.refl w4.heap.size W).below hBA).trans ((hk5.trans (hk6.trans hk7)).up _)
    have hB : Below nb wA w7 := hB5.trans (hB6.trans hB7)
    have hk := hk5.trans (hk6.trans hk7)
    have hpr : w7.heap[bp]? = some (.cells #[.slice p x.regs.length c, .slice q x.fns.length d] 39 (0, 0)) := hk.same _ _ hiA.pr (by intro h; rcases h with h | h <;> exact absurd h (by decide))
    have hr0 := (hB.block _ (by omega)).trans hiA.r0
    have hr1 := (hB.block _ (by omega)).trans hiA.r1
    have hbw := hiA.bw.trans (hB.mono (by omega))
    have HT := Lib.hid (show Up w4.heap.size W w7 ∧ ((linesT (L.take (k + 1))).length ≤ 65536 → TX w bp nb #[.slice p x.regs.length c, .slice q x.fns.length d] L (k + 1) w7) from
      ⟨hU, fun h => ⟨hpr, .inr hb7, hr0, hr1, hbw, h, fun e => by omega⟩⟩)
    have HR := Lib.hid (And.intro hr0 (And.intro hr1 hbw))
    have c1 := cell_of_one hr0
    have c2 := cell_of_one hr1
    have f1 := free_of_one hr0
    have f2 := free_of_one hr1
    have hLen := Tryz.Builder_Len nb nb _ w7 (.inr hb7)
    rw [cells_len] at hLen
    have hle := linesT_le L (k + 1)
    rw [HXT.out] at hle
    clear hb5 hb6 hb7 hB5 hB6 hB7 hk5 hk6 hk7 ht ht7 hln hcl hU hB hk hpr hr0 hr1 hbw hi hiA hBA
    gi_wp2_with fail
    refine ⟨trivial, ?_⟩
    refine (CallsIn.inRound l (callsIn_wide.2 hLen)).mono ?_
    rintro e wr ⟨rfl, rfl⟩
    clear hLen
    by_cases hg : (linesT (L.take (k + 1))).length ≤ 65536
    · have hgt : ¬ ((65536 : Int) < ((linesT (L.take (k + 1))).length : Int)) := by omega
      gi_wp2_with fail
      exact ⟨HT.out.1, HT.out.2 hg⟩
    · have hgt : (65536 : Int) < ((linesT (L.take (k + 1))).length : Int) := by omega
      have hbig : ¬ x.text.length ≤ 65536 := by omega
      gi_wp2_with fail
      have hr1 : (wr.setCell ⟨w.heap.size + 1, 0, none⟩ (.string ⟨#[]⟩)).heap[w.heap.size + 2]? = some (.cells #[.int .i64 0] 29 (0, 0)) := (Below.heap_setCell wr _ _ _ (by show w.heap.size + 2 ≠ w.heap.size + 1; omega)).trans HR.out.2.1
      refine ⟨(HT.out.1.setCell (p := ⟨w.heap.size + 1, 0, none⟩) (by show w.heap.size + 1 < w4.heap.size; omega) _).setCell (p := ⟨w.heap.size + 1 + 1, 0, none⟩) (by show w.heap.size + 1 + 1 < w4.heap.size; omega) _, rfl, hbig, ?_, one_setCell (b := w.heap.size + 1 + 1) hr1, (HR.out.2.2.setCell (p := ⟨w.heap.size + 1, 0, none⟩) (by show w.heap.size ≤ w.heap.size + 1; omega) _).setCell (p := ⟨w.heap.size + 1 + 1, 0, none⟩) (by show w.heap.size ≤ w.heap.size + 1 + 1; omega) _⟩
      exact (Below.heap_setCell _ _ _ _ (by show w.heap.size + 1 ≠ w.heap.size + 1 + 1; omega)).trans (one_setCell HR.out.1)
  · rintro D W hD hi hDh
    have lW := lt_of_block hDh
    have htx : linesT (L.take L.length) = x.text := by rw [List.take_length, HXT.out]
    have hle : x.text.length ≤ 65536 := by rw [← htx]; exact hi.ln
    obtain ⟨ho, he⟩ := HRes1.out hle
    have HStr : Hid (Calls Tryz.prog 49 #[.pointer (some ⟨nb, 0, none⟩)] W fun e w' => e = .returned (.string (str x.text)) ∧ Below nb W w' ∧ w'.heap[D]? = some (.deferred (some []))) := Lib.hid (by
      by_cases h0 : x.text = []
      · have hL0 : L.length = 0 := by
          cases hLL : L with
          | nil => rfl
          | cons y r => rw [hLL] at HXT; have := congrArg List.length (HXT.out.trans h0); simp [linesT, lineT] at this
        refine (string_fresh nb W (hi.fr hL0)).mono ?_
        rintro e w' ⟨rfl, hB⟩
        exact ⟨by rw [h0]; rfl, hB.mono (by omega), (hB.block _ lW).trans hDh⟩
      · have hbd := hi.bd
        rw [htx] at hbd
        refine (string_any nb nb x.text W hbd h0).mono ?_
        rintro e w' ⟨rfl, hB, hK⟩
        exact ⟨rfl, hB, hK.same _ _ hDh (buf_def _)⟩)
    gi_wp2_with fail
    refine ⟨trivial, ?_⟩
    refine (callsIn_wide.2 HStr.out).mono ?_
    rintro e w5 ⟨rfl, hB5, kD⟩
    have k1 := (hB5.block _ (by omega)).trans hi.r0
    have k2 := (hB5.block _ (by omega)).trans hi.r1
    have c1 := cell_of_one k1
    have c2 := cell_of_one k2
    have f1 := free_of_one k1
    have f2 := free_of_one k2
    have hbw := hi.bw.trans (hB5.mono (by omega))
    have HH := Lib.hid (And.intro k1 (And.intro k2 (And.intro kD hbw)))
    clear k1 k2 kD hbw hB5 HStr hi hDh
    gi_wp2_with fail
    obtain ⟨k1, k2, kD, hbw⟩ := HH.out
    obtain ⟨X, hX⟩ : ∃ X, w5.setCell ⟨w.heap.size + 1, 0, none⟩ (.string (str x.text)) = X := ⟨_, rfl⟩
    have x1 : X.heap[w.heap.size + 1]? = some (.cells #[.string (str x.text)] 9 (0, 0)) := by rw [← hX]; exact one_setCell k1
    have x2 : X.heap[w.heap.size + 2]? = some (.cells #[.int .i64 0] 29 (0, 0)) := by rw [← hX]; exact (Below.heap_setCell w5 _ _ _ (by show w.heap.size + 2 ≠ w.heap.size + 1; omega)).trans k2
    have xD : X.heap[D]? = some (.deferred (some [])) := by rw [← hX]; exact (Below.heap_setCell w5 _ _ _ (by show D ≠ w.heap.size + 1; omega)).trans kD
    have hbX : Below w.heap.size w X := by rw [← hX]; exact hbw.setCell (p := ⟨w.heap.size + 1, 0, none⟩) (by show w.heap.size ≤ w.heap.size + 1; omega) _
    obtain ⟨Y, hY⟩ : ∃ Y, X.setCell ⟨w.heap.size + 1 + 1, 0, none⟩ (.int .i64 0) = Y := ⟨_, rfl⟩
    have y1 : Y.heap[w.heap.size + 1]? = some (.cells #[.string (str x.text)] 9 (0, 0)) := by rw [← hY]; exact (Below.heap_setCell X _ _ _ (by show w.heap.size + 1 ≠ w.heap.size + 1 + 1; omega)).trans x1
    have y2 : Y.heap[w.heap.size + 1 + 1]? = some (.cells #[.int .i64 0] 29 (0, 0)) := by rw [← hY]; exact one_setCell x2
    have yD : Y.heap[D]? = some (.deferred (some [])) := by rw [← hY]; exact (Below.heap_setCell X _ _ _ (by show D ≠ w.heap.size + 1 + 1; omega)).trans xD
    have hbY : Below w.heap.size w Y := by rw [← hY]; exact hbX.setCell (p := ⟨w.heap.size + 1 + 1, 0, none⟩) (by show w.heap.size ≤ w.heap.size + 1 + 1; omega) _
    rw [hX, hY]
    have d1 : (Y.putObj D (.deferred none)).cell? ⟨w.heap.size + 1, 0, none⟩ = some (.string (str x.text)) := (World.cell?_of_block (World.putObj_heap_other (by show w.heap.size + 1 ≠ D; omega))).trans (cell_of_one y1)
    have d2 : (Y.putObj D (.deferred none)).cell? ⟨w.heap.size + 1 + 1, 0, none⟩ = some (.int .i64 0) := (World.cell?_of_block (World.putObj_heap_other (by show w.heap.size + 1 + 1 ≠ D; omega))).trans (cell_of_one y2)
    have hbZ : Below w.heap.size w (Y.putObj D (.deferred none)) := hbY.trans ⟨rfl, rfl, rfl, by simp, fun _ hk => World.putObj_heap_other (by omega)⟩
    refine ⟨by simp, .inl ⟨_, _, rfl, run_takeDeferred yD, ?_⟩⟩
    refine ⟨.tuple #[.string (str x.text), .int .i64 0], ?_, by rw [ho, he]; rfl, hbZ⟩
    simp [results, Tryz.results17, go_sem, d1, d2]
  · rintro D cd k W hD hk ⟨hc, hbig, k1, k2, hbw⟩ hDh
    subst hc
    obtain ⟨ho, he⟩ := HRes2.out hbig
    have lW := lt_of_block hDh
    have HH := Lib.hid (And.intro k1 (And.intro k2 (And.intro hDh hbw)))
    clear k1 k2 hDh hbw
    gi_wp2_with fail
    obtain ⟨k1, k2, hDh, hbw⟩ := HH.out
    have d1 : (W.putObj D (.deferred none)).cell? ⟨w.heap.size + 1, 0, none⟩ = some (.string ⟨#[]⟩) := (World.cell?_of_block (World.putObj_heap_other (by show w.heap.size + 1 ≠ D; omega))).trans (cell_of_one k1)
    have d2 : (W.putObj D (.deferred none)).cell? ⟨w.heap.size + 1 + 1, 0, none⟩ = some (.int .i64 3) := (World.cell?_of_block (World.putObj_heap_other (by show w.heap.size + 1 + 1 ≠ D; omega))).trans (cell_of_one k2)
    have hbZ : Below w.heap.size w (W.putObj D (.deferred none)) := hbw.trans ⟨rfl, rfl, rfl, by simp, fun _ hk => World.putObj_heap_other (by omega)⟩
    refine ⟨by simp, .inl ⟨_, _, rfl, run_takeDeferred hDh, ?_⟩⟩
    refine ⟨.tuple #[.string ⟨#[]⟩, .int .i64 3], ?_, by rw [ho, he]; rfl, hbZ⟩
    simp [results, Tryz.results17, go_sem, d1, d2]
end Go.Proofs.YtlhbledakddbbaaGreatDoor
