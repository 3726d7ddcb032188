/- Which statements can be told: the program's mayStmt. -/
import Derived.Test.YtkjhofnkgcjcoaaDoorP30
namespace Go.Proofs.YtkjhofnkgcjcoaaDoor
open Go.RowKit

theorem set_eq (A : Array Value) (o : Nat) (vs B : Array Value) (h : putA A o vs = B) : putA A o vs = B := h
theorem E0_ok {w : World} {N : Nat} : E0.Ok w N none := ⟨Exs.In.nil _ _ _, by decide⟩
theorem nilIn {w : World} {N : Nat} {p : Option Addr} : Sts.nil.In w N p := ⟨Nat.zero_le _, .inl rfl⟩
theorem nilExs {w : World} {N : Nat} {p : Option Addr} : Exs.nil.In w N p := Exs.In.nil _ _ _
theorem nilRow {w : World} {N : Nat} {p : Option Addr} : RowIn N (StrAt w) 1 [] p := ⟨Nat.zero_le _, .inl rfl⟩
/-- an every over statements, of a bound -/
def EvS (n : Nat) : Prop := ∀ (l : Sts), l.size ≤ n → ∀ (p : Option Addr) (c N : Nat) (w : World), N ≤ w.heap.size → l.In w N p →
    Calls Tryd.prog 71 #[.slice p l.len c, .func (.func 72) #[] #[]] w fun e w' => e = .returned (.bool l.may) ∧ Below w.heap.size w w'

set_option maxRecDepth 100000 in
set_option maxHeartbeats 6400000 in
theorem mayStmt_1 (n : Nat) (_hEv : EvS n) (nm : List UInt8) (ns : List (List UInt8)) (e a : Ex) (g : Exs) (lo hi : Nat) (bd el : Sts) (_hb : bd.size ≤ n) (_hl : el.size ≤ n) (s : StP) (N : Nat) (w : World) (hN : N ≤ w.heap.size) (hx : (St.mk 1 nm ns e a g lo hi bd el).Ok w N s) :
    Calls Tryd.prog 72 #[(St.mk 1 nm ns e a g lo hi bd el).val s] w fun z w' => z = .returned (.bool (St.mk 1 nm ns e a g lo hi bd el).may) ∧ Below w.heap.size w w' := by
  obtain ⟨A1, hA1⟩ : ∃ A1, A1 = (#[.int .i64 1, .string (str nm), .slice s.pn ns.length s.cn, .int .i64 e.op, .int .u64 (e.word : Int), .string (str e.name), .slice s.pe e.args.len s.ce, .int .i64 a.op, .int .u64 (a.word : Int), .string (str a.name), .slice s.pa a.args.len s.ca, .slice s.pg g.len s.cg, .int .u64 (lo : Int), .int .u64 (hi : Int), .slice s.pb bd.len s.cb, .slice s.pl el.len s.cl] : Array Value) := ⟨_, rfl⟩
  obtain ⟨W1, hW1⟩ : ∃ W1, w.alloc (Obj.cells A1 35) = W1 := ⟨_, rfl⟩
  obtain ⟨W2, hW2⟩ : ∃ W2, W1.alloc (Obj.cells A1 35) = W2 := ⟨_, rfl⟩
  have hB1 : Below w.heap.size w W1 := by rw [← hW1]; exact (Below.refl _ w).alloc (Nat.le_refl _) _
  have hz1 : W1.heap.size = w.heap.size + 1 := by rw [← hW1]; simp
  have HZ1 := Lib.hid (show A1.size = 16 by rw [hA1]; rfl)
  have HO1 := Lib.hid (show A1.all (·.oneCell') = true by rw [hA1]; simp [Value.oneCell'])
  have HI1 := Lib.hid (infoSt.trans (by rw [HZ1.out]) : (Tryd.prog.info? 35).map (·.size) = some A1.size)
  have F2 := Lib.hid (show W1.rangeAt w.heap.size 0 A1.toList by rw [← hW1]; exact range_new w A1 _)
  have k10 : W2.heap[w.heap.size]? = some (.cells A1 35 (0, 0)) := by rw [← hW2, Below.heap_alloc _ _ _ (by omega), ← hW1]; exact heap_alloc_new w _
  have k20 : W2.heap[W1.heap.size]? = some (.cells A1 35 (0, 0)) := by rw [← hW2]; exact heap_alloc_new W1 _
  have HB2 := Lib.hid (show Below w.heap.size w W2 by rw [← hW2]; exact hB1.alloc (by omega) _)
  have hz2 : W2.heap.size = W1.heap.size + 1 := by rw [← hW2]; simp
  have Hnm := Lib.hid (fun w => name_any (str nm) w)
  rw [str_data] at Hnm
  have He := Lib.hid (fun (w1 : World) (hB : Below w.heap.size w w1) => mayExpr_any e s.pe s.ce N w1 (Nat.le_trans hN hB.size) (hx.2.1.later (hB.mono hN) (Nat.le_refl N)))
  unfold Ex.val at He
  have HZr := Lib.hid (fun (w1 : World) (hB : Below w.heap.size w w1) => isZeroSt_any (St.mk 0 [] ns E0 a g lo hi bd el) rfl ⟨s.pn, none, s.pa, s.pg, s.pb, s.pl, s.cn, 0, s.ca, s.cg, s.cb, s.cl⟩ N w1 (Nat.le_trans hN hB.size) (St.Ok.later (x := St.mk 0 [] ns E0 a g lo hi bd el) (s := ⟨s.pn, none, s.pa, s.pg, s.pb, s.pl, s.cn, 0, s.ca, s.cg, s.cb, s.cl⟩) (show St.Ok w N (St.mk 0 [] ns E0 a g lo hi bd el) ⟨s.pn, none, s.pa, s.pg, s.pb, s.pl, s.cn, 0, s.ca, s.cg, s.cb, s.cl⟩ from ⟨hx.1, E0_ok, hx.2.2.1, hx.2.2.2.1, hx.2.2.2.2.1, hx.2.2.2.2.2.1, hx.2.2.2.2.2.2⟩) (hB.mono hN) (Nat.le_refl N)))
  unfold St.val at HZr
  rw [st_may_1]
  clear hx _hEv
  generalize nameB nm = znm at *
  generalize e.may = ze at *
  generalize (St.mk 0 [] ns E0 a g lo hi bd el).isZero = zz at *
  show Calls _ _ #[.agg #[.int .i64 1, .string (str nm), .slice s.pn ns.length s.cn, .int .i64 e.op, .int .u64 (e.word : Int), .string (str e.name), .slice s.pe e.args.len s.ce, .int .i64 a.op, .int .u64 (a.word : Int), .string (str a.name), .slice s.pa a.args.len s.ca, .slice s.pg g.len s.cg, .int .u64 (lo : Int), .int .u64 (hi : Int), .slice s.pb bd.len s.cb, .slice s.pl el.len s.cl]] w _
  rw [← hA1]
  have HA1 := Lib.hid hA1
  have HZz := Lib.hid hz1
  clear hB1 hA1 hz1 hz2
  go_enter Tryd.func72, Tryd.ntmps72
  go_upto_region 3 with (first | (refine wpl_load rfl 35 _ rfl w.heap.size 0 rfl A1 _ F2.out Tryd.underlying35 rfl HI1.out ?_) | (refine wpl_store_new rfl 35 _ _ rfl _ A1 _ rfl rfl (by rw [HZ1.out]; rfl) HI1.out HO1.out ?_; rw [hW2]))
  rw [HA1.out] at k10 k20
  clear HA1 hW1 hW2 HZ1 HO1 HI1 F2
  have K1 := Lib.hid k10
  have K2 := Lib.hid k20
  clear k10 k20
  go_upto_region 4 with (refine wpl_put rfl _ _ _ rfl rfl W1.heap.size _ _ rfl rfl _ _ K2.out (by exact Nat.le_of_ble_eq_true rfl) (by kernel_rfl) (by rfl) ?_; intro wq hk _hb; replace K1 := Lib.hid ((_hb.block _ (lt_of_block K1.out) (by have := HZz.out; omega)).trans K1.out); replace K2 := Lib.hid hk; replace HB2 := Lib.hid (_hb.below HB2.out (by have := HZz.out; omega) HB2.out.size); clear hk _hb)
  have d0 := cell_block K1.out (j := 0) (v := .int .i64 1) rfl
  have d1 := cell_block K1.out (j := 1) (v := .string (str nm)) rfl
  go_wp2_with fail
  refine (Hnm.out _).mono ?_
  rintro z w5 ⟨rfl, rfl⟩
  clear d1
  cases znm with
  | false =>
    go_wp2_with (refine wpl_put rfl _ _ _ rfl rfl W1.heap.size _ _ rfl rfl _ _ K2.out (by exact Nat.le_of_ble_eq_true rfl) (by kernel_rfl) (by rfl) ?_; intro wq hk _hb; replace K1 := Lib.hid ((_hb.block _ (lt_of_block K1.out) (by have := HZz.out; omega)).trans K1.out); replace K2 := Lib.hid hk; replace HB2 := Lib.hid (_hb.below HB2.out (by have := HZz.out; omega) HB2.out.size); clear hk _hb)
    go_ret
    exact ⟨by simp, HB2.out⟩
  | true =>
    have d3 := cell_block K1.out (j := 3) (v := .int .i64 e.op) rfl
    have d4 := cell_block K1.out (j := 4) (v := .int .u64 (e.word : Int)) rfl
    have d5 := cell_block K1.out (j := 5) (v := .string (str e.name)) rfl
    have d6 := cell_block K1.out (j := 6) (v := .slice s.pe e.args.len s.ce) rfl
    go_wp2_with fail
    refine (He.out _ HB2.out).mono ?_
    rintro z w5 ⟨rfl, hB⟩
    replace K1 := Lib.hid ((hB.block _ (lt_of_block K1.out)).trans K1.out)
    replace K2 := Lib.hid ((hB.block _ (lt_of_block K2.out)).trans K2.out)
    replace HB2 := Lib.hid (HB2.out.trans (hB.mono HB2.out.size))
    clear hB
    clear d3 d4 d5 d6
    cases ze with
    | false =>
      go_wp2_with (refine wpl_put rfl _ _ _ rfl rfl W1.heap.size _ _ rfl rfl _ _ K2.out (by exact Nat.le_of_ble_eq_true rfl) (by kernel_rfl) (by rfl) ?_; intro wq hk _hb; replace K1 := Lib.hid ((_hb.block _ (lt_of_block K1.out) (by have := HZz.out; omega)).trans K1.out); replace K2 := Lib.hid hk; replace HB2 := Lib.hid (_hb.below HB2.out (by have := HZz.out; omega) HB2.out.size); clear hk _hb)
      go_ret
      exact ⟨by simp, HB2.out⟩
    | true =>
      go_wp2_with (first | (refine wpl_load_if (by rfl) 35 _ rfl W1.heap.size 0 rfl ((St.mk 0 [] ns E0 a g lo hi bd el).cells ⟨s.pn, none, s.pa, s.pg, s.pb, s.pl, s.cn, 0, s.ca, s.cg, s.cb, s.cl⟩) _ (range_block K2.out) Tryd.underlying35 rfl (infoSt.trans rfl) ?_) | (refine wpl_put rfl _ _ _ rfl rfl W1.heap.size _ _ rfl rfl _ _ K2.out (by exact Nat.le_of_ble_eq_true rfl) (by kernel_rfl) (by rfl) ?_; intro wq hk _hb; replace K1 := Lib.hid ((_hb.block _ (lt_of_block K1.out) (by have := HZz.out; omega)).trans K1.out); replace K2 := Lib.hid hk; replace HB2 := Lib.hid (_hb.below HB2.out (by have := HZz.out; omega) HB2.out.size); clear hk _hb))
      refine (HZr.out _ HB2.out).mono ?_
      rintro z w5 ⟨rfl, hB⟩
      replace HB2 := Lib.hid (HB2.out.trans (hB.mono HB2.out.size))
      go_wp2_with fail
      go_ret
      exact ⟨by simp, HB2.out⟩
set_option maxRecDepth 100000 in
set_option maxHeartbeats 6400000 in
theorem mayStmt_2 (n : Nat) (_hEv : EvS n) (nm : List UInt8) (ns : List (List UInt8)) (e a : Ex) (g : Exs) (lo hi : Nat) (bd el : Sts) (_hb : bd.size ≤ n) (_hl : el.size ≤ n) (s : StP) (N : Nat) (w : World) (hN : N ≤ w.heap.size) (hx : (St.mk 2 nm ns e a g lo hi bd el).Ok w N s) :
    Calls Tryd.prog 72 #[(St.mk 2 nm ns e a g lo hi bd el).val s] w fun z w' => z = .returned (.bool (St.mk 2 nm ns e a g lo hi bd el).may) ∧ Below w.heap.size w w' := by
  obtain ⟨A1, hA1⟩ : ∃ A1, A1 = (#[.int .i64 2, .string (str nm), .slice s.pn ns.length s.cn, .int .i64 e.op, .int .u64 (e.word : Int), .string (str e.name), .slice s.pe e.args.len s.ce, .int .i64 a.op, .int .u64 (a.word : Int), .string (str a.name), .slice s.pa a.args.len s.ca, .slice s.pg g.len s.cg, .int .u64 (lo : Int), .int .u64 (hi : Int), .slice s.pb bd.len s.cb, .slice s.pl el.len s.cl] : Array Value) := ⟨_, rfl⟩
  obtain ⟨W1, hW1⟩ : ∃ W1, w.alloc (Obj.cells A1 35) = W1 := ⟨_, rfl⟩
  obtain ⟨W2, hW2⟩ : ∃ W2, W1.alloc (Obj.cells A1 35) = W2 := ⟨_, rfl⟩
  have hB1 : Below w.heap.size w W1 := by rw [← hW1]; exact (Below.refl _ w).alloc (Nat.le_refl _) _
  have hz1 : W1.heap.size = w.heap.size + 1 := by rw [← hW1]; simp
  have HZ1 := Lib.hid (show A1.size = 16 by rw [hA1]; rfl)
  have HO1 := Lib.hid (show A1.all (·.oneCell') = true by rw [hA1]; simp [Value.oneCell'])
  have HI1 := Lib.hid (infoSt.trans (by rw [HZ1.out]) : (Tryd.prog.info? 35).map (·.size) = some A1.size)
  have F2 := Lib.hid (show W1.rangeAt w.heap.size 0 A1.toList by rw [← hW1]; exact range_new w A1 _)
  have k10 : W2.heap[w.heap.size]? = some (.cells A1 35 (0, 0)) := by rw [← hW2, Below.heap_alloc _ _ _ (by omega), ← hW1]; exact heap_alloc_new w _
  have k20 : W2.heap[W1.heap.size]? = some (.cells A1 35 (0, 0)) := by rw [← hW2]; exact heap_alloc_new W1 _
  have HB2 := Lib.hid (show Below w.heap.size w W2 by rw [← hW2]; exact hB1.alloc (by omega) _)
  have hz2 : W2.heap.size = W1.heap.size + 1 := by rw [← hW2]; simp
  have Hnm := Lib.hid (fun w => name_any (str nm) w)
  rw [str_data] at Hnm
  have Ha := Lib.hid (fun (w1 : World) (hB : Below w.heap.size w w1) => mayExpr_any a s.pa s.ca N w1 (Nat.le_trans hN hB.size) (hx.2.2.1.later (hB.mono hN) (Nat.le_refl N)))
  have He := Lib.hid (fun (w1 : World) (hB : Below w.heap.size w w1) => mayExpr_any e s.pe s.ce N w1 (Nat.le_trans hN hB.size) (hx.2.1.later (hB.mono hN) (Nat.le_refl N)))
  unfold Ex.val at He
  unfold Ex.val at Ha
  have HZr := Lib.hid (fun (w1 : World) (hB : Below w.heap.size w w1) => isZeroSt_any (St.mk 0 [] ns E0 E0 g lo hi bd el) rfl ⟨s.pn, none, none, s.pg, s.pb, s.pl, s.cn, 0, 0, s.cg, s.cb, s.cl⟩ N w1 (Nat.le_trans hN hB.size) (St.Ok.later (x := St.mk 0 [] ns E0 E0 g lo hi bd el) (s := ⟨s.pn, none, none, s.pg, s.pb, s.pl, s.cn, 0, 0, s.cg, s.cb, s.cl⟩) (show St.Ok w N (St.mk 0 [] ns E0 E0 g lo hi bd el) ⟨s.pn, none, none, s.pg, s.pb, s.pl, s.cn, 0, 0, s.cg, s.cb, s.cl⟩ from ⟨hx.1, E0_ok, E0_ok, hx.2.2.2.1, hx.2.2.2.2.1, hx.2.2.2.2.2.1, hx.2.2.2.2.2.2⟩) (hB.mono hN) (Nat.le_refl N)))
  unfold St.val at HZr
  rw [st_may_2]
  clear hx _hEv
  generalize nameB nm = znm at *
  generalize a.may = za at *
  generalize e.may = ze at *
  generalize (St.mk 0 [] ns E0 E0 g lo hi bd el).isZero = zz at *
  show Calls _ _ #[.agg #[.int .i64 2, .string (str nm), .slice s.pn ns.length s.cn, .int .i64 e.op, .int .u64 (e.word : Int), .string (str e.name), .slice s.pe e.args.len s.ce, .int .i64 a.op, .int .u64 (a.word : Int), .string (str a.name), .slice s.pa a.args.len s.ca, .slice s.pg g.len s.cg, .int .u64 (lo : Int), .int .u64 (hi : Int), .slice s.pb bd.len s.cb, .slice s.pl el.len s.cl]] w _
  rw [← hA1]
  have HA1 := Lib.hid hA1
  have HZz := Lib.hid hz1
  clear hB1 hA1 hz1 hz2
  go_enter Tryd.func72, Tryd.ntmps72
  go_upto_region 3 with (first | (refine wpl_load rfl 35 _ rfl w.heap.size 0 rfl A1 _ F2.out Tryd.underlying35 rfl HI1.out ?_) | (refine wpl_store_new rfl 35 _ _ rfl _ A1 _ rfl rfl (by rw [HZ1.out]; rfl) HI1.out HO1.out ?_; rw [hW2]))
  rw [HA1.out] at k10 k20
  clear HA1 hW1 hW2 HZ1 HO1 HI1 F2
  have K1 := Lib.hid k10
  have K2 := Lib.hid k20
  clear k10 k20
  go_upto_region 4 with (refine wpl_put rfl _ _ _ rfl rfl W1.heap.size _ _ rfl rfl _ _ K2.out (by exact Nat.le_of_ble_eq_true rfl) (by kernel_rfl) (by rfl) ?_; intro wq hk _hb; replace K1 := Lib.hid ((_hb.block _ (lt_of_block K1.out) (by have := HZz.out; omega)).trans K1.out); replace K2 := Lib.hid hk; replace HB2 := Lib.hid (_hb.below HB2.out (by have := HZz.out; omega) HB2.out.size); clear hk _hb)
  have d0 := cell_block K1.out (j := 0) (v := .int .i64 2) rfl
  have d1 := cell_block K1.out (j := 1) (v := .string (str nm)) rfl
  go_wp2_with fail
  refine (Hnm.out _).mono ?_
  rintro z w5 ⟨rfl, rfl⟩
  clear d1
  cases znm with
  | false =>
    go_wp2_with (refine wpl_put rfl _ _ _ rfl rfl W1.heap.size _ _ rfl rfl _ _ K2.out (by exact Nat.le_of_ble_eq_true rfl) (by kernel_rfl) (by rfl) ?_; intro wq hk _hb; replace K1 := Lib.hid ((_hb.block _ (lt_of_block K1.out) (by have := HZz.out; omega)).trans K1.out); replace K2 := Lib.hid hk; replace HB2 := Lib.hid (_hb.below HB2.out (by have := HZz.out; omega) HB2.out.size); clear hk _hb)
    go_ret
    exact ⟨by simp, HB2.out⟩
  | true =>
    have d7 := cell_block K1.out (j := 7) (v := .int .i64 a.op) rfl
    have d8 := cell_block K1.out (j := 8) (v := .int .u64 (a.word : Int)) rfl
    have d9 := cell_block K1.out (j := 9) (v := .string (str a.name)) rfl
    have d10 := cell_block K1.out (j := 10) (v := .slice s.pa a.args.len s.ca) rfl
    go_wp2_with fail
    refine (Ha.out _ HB2.out).mono ?_
    rintro z w5 ⟨rfl, hB⟩
    replace K1 := Lib.hid ((hB.block _ (lt_of_block K1.out)).trans K1.out)
    replace K2 := Lib.hid ((hB.block _ (lt_of_block K2.out)).trans K2.out)
    replace HB2 := Lib.hid (HB2.out.trans (hB.mono HB2.out.size))
    clear hB
    clear d7 d8 d9 d10
    cases za with
    | false =>
      go_wp2_with (refine wpl_put rfl _ _ _ rfl rfl W1.heap.size _ _ rfl rfl _ _ K2.out (by exact Nat.le_of_ble_eq_true rfl) (by kernel_rfl) (by rfl) ?_; intro wq hk _hb; replace K1 := Lib.hid ((_hb.block _ (lt_of_block K1.out) (by have := HZz.out; omega)).trans K1.out); replace K2 := Lib.hid hk; replace HB2 := Lib.hid (_hb.below HB2.out (by have := HZz.out; omega) HB2.out.size); clear hk _hb)
      go_ret
      exact ⟨by simp, HB2.out⟩
    | true =>
      have d3 := cell_block K1.out (j := 3) (v := .int .i64 e.op) rfl
      have d4 := cell_block K1.out (j := 4) (v := .int .u64 (e.word : Int)) rfl
      have d5 := cell_block K1.out (j := 5) (v := .string (str e.name)) rfl
      have d6 := cell_block K1.out (j := 6) (v := .slice s.pe e.args.len s.ce) rfl
      go_wp2_with fail
      refine (He.out _ HB2.out).mono ?_
      rintro z w5 ⟨rfl, hB⟩
      replace K1 := Lib.hid ((hB.block _ (lt_of_block K1.out)).trans K1.out)
      replace K2 := Lib.hid ((hB.block _ (lt_of_block K2.out)).trans K2.out)
      replace HB2 := Lib.hid (HB2.out.trans (hB.mono HB2.out.size))
      clear hB
      clear d3 d4 d5 d6
      cases ze with
      | false =>
        go_wp2_with (refine wpl_put rfl _ _ _ rfl rfl W1.heap.size _ _ rfl rfl _ _ K2.out (by exact Nat.le_of_ble_eq_true rfl) (by kernel_rfl) (by rfl) ?_; intro wq hk _hb; replace K1 := Lib.hid ((_hb.block _ (lt_of_block K1.out) (by have := HZz.out; omega)).trans K1.out); replace K2 := Lib.hid hk; replace HB2 := Lib.hid (_hb.below HB2.out (by have := HZz.out; omega) HB2.out.size); clear hk _hb)
        go_ret
        exact ⟨by simp, HB2.out⟩
      | true =>
        go_wp2_with (first | (refine wpl_load_if (by rfl) 35 _ rfl W1.heap.size 0 rfl ((St.mk 0 [] ns E0 E0 g lo hi bd el).cells ⟨s.pn, none, none, s.pg, s.pb, s.pl, s.cn, 0, 0, s.cg, s.cb, s.cl⟩) _ (range_block K2.out) Tryd.underlying35 rfl (infoSt.trans rfl) ?_) | (refine wpl_put rfl _ _ _ rfl rfl W1.heap.size _ _ rfl rfl _ _ K2.out (by exact Nat.le_of_ble_eq_true rfl) (by kernel_rfl) (by rfl) ?_; intro wq hk _hb; replace K1 := Lib.hid ((_hb.block _ (lt_of_block K1.out) (by have := HZz.out; omega)).trans K1.out); replace K2 := Lib.hid hk; replace HB2 := Lib.hid (_hb.below HB2.out (by have := HZz.out; omega) HB2.out.size); clear hk _hb))
        refine (HZr.out _ HB2.out).mono ?_
        rintro z w5 ⟨rfl, hB⟩
        replace HB2 := Lib.hid (HB2.out.trans (hB.mono HB2.out.size))
        go_wp2_with fail
        go_ret
        exact ⟨by simp, HB2.out⟩
set_option maxRecDepth 100000 in
set_option maxHeartbeats 6400000 in
theorem mayStmt_3 (n : Nat) (hEv : EvS n) (nm : List UInt8) (ns : List (List UInt8)) (e a : Ex) (g : Exs) (lo hi : Nat) (bd el : Sts) (hb : bd.size ≤ n) (hl : el.size ≤ n) (s : StP) (N : Nat) (w : World) (hN : N ≤ w.heap.size) (hx : (St.mk 3 nm ns e a g lo hi bd el).Ok w N s) :
    Calls Tryd.prog 72 #[(St.mk 3 nm ns e a g lo hi bd el).val s] w fun z w' => z = .returned (.bool (St.mk 3 nm ns e a g lo hi bd el).may) ∧ Below w.heap.size w w' := by
  obtain ⟨A1, hA1⟩ : ∃ A1, A1 = (#[.int .i64 3, .string (str nm), .slice s.pn ns.length s.cn, .int .i64 e.op, .int .u64 (e.word : Int), .string (str e.name), .slice s.pe e.args.len s.ce, .int .i64 a.op, .int .u64 (a.word : Int), .string (str a.name), .slice s.pa a.args.len s.ca, .slice s.pg g.len s.cg, .int .u64 (lo : Int), .int .u64 (hi : Int), .slice s.pb bd.len s.cb, .slice s.pl el.len s.cl] : Array Value) := ⟨_, rfl⟩
  obtain ⟨W1, hW1⟩ : ∃ W1, w.alloc (Obj.cells A1 35) = W1 := ⟨_, rfl⟩
  obtain ⟨W2, hW2⟩ : ∃ W2, W1.alloc (Obj.cells A1 35) = W2 := ⟨_, rfl⟩
  have hB1 : Below w.heap.size w W1 := by rw [← hW1]; exact (Below.refl _ w).alloc (Nat.le_refl _) _
  have hz1 : W1.heap.size = w.heap.size + 1 := by rw [← hW1]; simp
  have HZ1 := Lib.hid (show A1.size = 16 by rw [hA1]; rfl)
  have HO1 := Lib.hid (show A1.all (·.oneCell') = true by rw [hA1]; simp [Value.oneCell'])
  have HI1 := Lib.hid (infoSt.trans (by rw [HZ1.out]) : (Tryd.prog.info? 35).map (·.size) = some A1.size)
  have F2 := Lib.hid (show W1.rangeAt w.heap.size 0 A1.toList by rw [← hW1]; exact range_new w A1 _)
  have k10 : W2.heap[w.heap.size]? = some (.cells A1 35 (0, 0)) := by rw [← hW2, Below.heap_alloc _ _ _ (by omega), ← hW1]; exact heap_alloc_new w _
  have k20 : W2.heap[W1.heap.size]? = some (.cells A1 35 (0, 0)) := by rw [← hW2]; exact heap_alloc_new W1 _
  have HB2 := Lib.hid (show Below w.heap.size w W2 by rw [← hW2]; exact hB1.alloc (by omega) _)
  have hz2 : W2.heap.size = W1.heap.size + 1 := by rw [← hW2]; simp
  have He := Lib.hid (fun (w1 : World) (hB : Below w.heap.size w w1) => mayExpr_any e s.pe s.ce N w1 (Nat.le_trans hN hB.size) (hx.2.1.later (hB.mono hN) (Nat.le_refl N)))
  have Hbd := Lib.hid (fun (w1 : World) (hB : Below w.heap.size w w1) => hEv bd hb s.pb s.cb N w1 (Nat.le_trans hN hB.size) (hx.2.2.2.2.1.later (hB.mono hN) (Nat.le_refl N)))
  have Hel := Lib.hid (fun (w1 : World) (hB : Below w.heap.size w w1) => hEv el hl s.pl s.cl N w1 (Nat.le_trans hN hB.size) (hx.2.2.2.2.2.1.later (hB.mono hN) (Nat.le_refl N)))
  unfold Ex.val at He
  have HZr := Lib.hid (fun (w1 : World) (hB : Below w.heap.size w w1) => isZeroSt_any (St.mk 0 nm ns E0 a g lo hi .nil .nil) rfl ⟨s.pn, none, s.pa, s.pg, none, none, s.cn, 0, s.ca, s.cg, 0, 0⟩ N w1 (Nat.le_trans hN hB.size) (St.Ok.later (x := St.mk 0 nm ns E0 a g lo hi .nil .nil) (s := ⟨s.pn, none, s.pa, s.pg, none, none, s.cn, 0, s.ca, s.cg, 0, 0⟩) (show St.Ok w N (St.mk 0 nm ns E0 a g lo hi .nil .nil) ⟨s.pn, none, s.pa, s.pg, none, none, s.cn, 0, s.ca, s.cg, 0, 0⟩ from ⟨hx.1, E0_ok, hx.2.2.1, hx.2.2.2.1, nilIn, nilIn, hx.2.2.2.2.2.2⟩) (hB.mono hN) (Nat.le_refl N)))
  unfold St.val at HZr
  rw [st_may_3]
  clear hx hEv
  generalize e.may = ze at *
  generalize bd.may = zbd at *
  generalize el.may = zel at *
  generalize (St.mk 0 nm ns E0 a g lo hi .nil .nil).isZero = zz at *
  show Calls _ _ #[.agg #[.int .i64 3, .string (str nm), .slice s.pn ns.length s.cn, .int .i64 e.op, .int .u64 (e.word : Int), .string (str e.name), .slice s.pe e.args.len s.ce, .int .i64 a.op, .int .u64 (a.word : Int), .string (str a.name), .slice s.pa a.args.len s.ca, .slice s.pg g.len s.cg, .int .u64 (lo : Int), .int .u64 (hi : Int), .slice s.pb bd.len s.cb, .slice s.pl el.len s.cl]] w _
  rw [← hA1]
  have HA1 := Lib.hid hA1
  have HZz := Lib.hid hz1
  clear hB1 hA1 hz1 hz2
  go_enter Tryd.func72, Tryd.ntmps72
  go_upto_region 3 with (first | (refine wpl_load rfl 35 _ rfl w.heap.size 0 rfl A1 _ F2.out Tryd.underlying35 rfl HI1.out ?_) | (refine wpl_store_new rfl 35 _ _ rfl _ A1 _ rfl rfl (by rw [HZ1.out]; rfl) HI1.out HO1.out ?_; rw [hW2]))
  rw [HA1.out] at k10 k20
  clear HA1 hW1 hW2 HZ1 HO1 HI1 F2
  have K1 := Lib.hid k10
  have K2 := Lib.hid k20
  clear k10 k20
  go_upto_region 4 with (refine wpl_put rfl _ _ _ rfl rfl W1.heap.size _ _ rfl rfl _ _ K2.out (by exact Nat.le_of_ble_eq_true rfl) (by kernel_rfl) (by rfl) ?_; intro wq hk hb; replace K1 := Lib.hid ((hb.block _ (lt_of_block K1.out) (by have := HZz.out; omega)).trans K1.out); replace K2 := Lib.hid hk; replace HB2 := Lib.hid (hb.below HB2.out (by have := HZz.out; omega) HB2.out.size); clear hk hb)
  have d0 := cell_block K1.out (j := 0) (v := .int .i64 3) rfl
  have d3 := cell_block K1.out (j := 3) (v := .int .i64 e.op) rfl
  have d4 := cell_block K1.out (j := 4) (v := .int .u64 (e.word : Int)) rfl
  have d5 := cell_block K1.out (j := 5) (v := .string (str e.name)) rfl
  have d6 := cell_block K1.out (j := 6) (v := .slice s.pe e.args.len s.ce) rfl
  go_wp2_with fail
  refine (He.out _ HB2.out).mono ?_
  rintro z w5 ⟨rfl, hB⟩
  replace K1 := Lib.hid ((hB.block _ (lt_of_block K1.out)).trans K1.out)
  replace K2 := Lib.hid ((hB.block _ (lt_of_block K2.out)).trans K2.out)
  replace HB2 := Lib.hid (HB2.out.trans (hB.mono HB2.out.size))
  clear hB
  clear d3 d4 d5 d6
  cases ze with
  | false =>
    go_wp2_with (refine wpl_put rfl _ _ _ rfl rfl W1.heap.size _ _ rfl rfl _ _ K2.out (by exact Nat.le_of_ble_eq_true rfl) (by kernel_rfl) (by rfl) ?_; intro wq hk hb; replace K1 := Lib.hid ((hb.block _ (lt_of_block K1.out) (by have := HZz.out; omega)).trans K1.out); replace K2 := Lib.hid hk; replace HB2 := Lib.hid (hb.below HB2.out (by have := HZz.out; omega) HB2.out.size); clear hk hb)
    go_ret
    exact ⟨by simp, HB2.out⟩
  | true =>
    have d14 := cell_block K1.out (j := 14) (v := .slice s.pb bd.len s.cb) rfl
    go_wp2_with fail
    refine (Hbd.out _ HB2.out).mono ?_
    rintro z w5 ⟨rfl, hB⟩
    replace K1 := Lib.hid ((hB.block _ (lt_of_block K1.out)).trans K1.out)
    replace K2 := Lib.hid ((hB.block _ (lt_of_block K2.out)).trans K2.out)
    replace HB2 := Lib.hid (HB2.out.trans (hB.mono HB2.out.size))
    clear hB
    clear d14
    cases zbd with
    | false =>
      go_wp2_with (refine wpl_put rfl _ _ _ rfl rfl W1.heap.size _ _ rfl rfl _ _ K2.out (by exact Nat.le_of_ble_eq_true rfl) (by kernel_rfl) (by rfl) ?_; intro wq hk hb; replace K1 := Lib.hid ((hb.block _ (lt_of_block K1.out) (by have := HZz.out; omega)).trans K1.out); replace K2 := Lib.hid hk; replace HB2 := Lib.hid (hb.below HB2.out (by have := HZz.out; omega) HB2.out.size); clear hk hb)
      go_ret
      exact ⟨by simp, HB2.out⟩
    | true =>
      have d15 := cell_block K1.out (j := 15) (v := .slice s.pl el.len s.cl) rfl
      go_wp2_with fail
      refine (Hel.out _ HB2.out).mono ?_
      rintro z w5 ⟨rfl, hB⟩
      replace K1 := Lib.hid ((hB.block _ (lt_of_block K1.out)).trans K1.out)
      replace K2 := Lib.hid ((hB.block _ (lt_of_block K2.out)).trans K2.out)
      replace HB2 := Lib.hid (HB2.out.trans (hB.mono HB2.out.size))
      clear hB
      clear d15
      cases zel with
      | false =>
        go_wp2_with (refine wpl_put rfl _ _ _ rfl rfl W1.heap.size _ _ rfl rfl _ _ K2.out (by exact Nat.le_of_ble_eq_true rfl) (by kernel_rfl) (by rfl) ?_; intro wq hk hb; replace K1 := Lib.hid ((hb.block _ (lt_of_block K1.out) (by have := HZz.out; omega)).trans K1.out); replace K2 := Lib.hid hk; replace HB2 := Lib.hid (hb.below HB2.out (by have := HZz.out; omega) HB2.out.size); clear hk hb)
        go_ret
        exact ⟨by simp, HB2.out⟩
      | true =>
        go_wp2_with (first | (refine wpl_load_if (by rfl) 35 _ rfl W1.heap.size 0 rfl ((St.mk 0 nm ns E0 a g lo hi .nil .nil).cells ⟨s.pn, none, s.pa, s.pg, none, none, s.cn, 0, s.ca, s.cg, 0, 0⟩) _ (range_block K2.out) Tryd.underlying35 rfl (infoSt.trans rfl) ?_) | (refine wpl_put rfl _ _ _ rfl rfl W1.heap.size _ _ rfl rfl _ _ K2.out (by exact Nat.le_of_ble_eq_true rfl) (by kernel_rfl) (by rfl) ?_; intro wq hk hb; replace K1 := Lib.hid ((hb.block _ (lt_of_block K1.out) (by have := HZz.out; omega)).trans K1.out); replace K2 := Lib.hid hk; replace HB2 := Lib.hid (hb.below HB2.out (by have := HZz.out; omega) HB2.out.size); clear hk hb))
        refine (HZr.out _ HB2.out).mono ?_
        rintro z w5 ⟨rfl, hB⟩
        replace HB2 := Lib.hid (HB2.out.trans (hB.mono HB2.out.size))
        go_wp2_with fail
        go_ret
        exact ⟨by simp, HB2.out⟩
set_option maxRecDepth 100000 in
set_option maxHeartbeats 6400000 in
theorem mayStmt_4 (n : Nat) (hEv : EvS n) (nm : List UInt8) (ns : List (List UInt8)) (e a : Ex) (g : Exs) (lo hi : Nat) (bd el : Sts) (hb : bd.size ≤ n) (_hl : el.size ≤ n) (s : StP) (N : Nat) (w : World) (hN : N ≤ w.heap.size) (hx : (St.mk 4 nm ns e a g lo hi bd el).Ok w N s) :
    Calls Tryd.prog 72 #[(St.mk 4 nm ns e a g lo hi bd el).val s] w fun z w' => z = .returned (.bool (St.mk 4 nm ns e a g lo hi bd el).may) ∧ Below w.heap.size w w' := by
  obtain ⟨A1, hA1⟩ : ∃ A1, A1 = (#[.int .i64 4, .string (str nm), .slice s.pn ns.length s.cn, .int .i64 e.op, .int .u64 (e.word : Int), .string (str e.name), .slice s.pe e.args.len s.ce, .int .i64 a.op, .int .u64 (a.word : Int), .string (str a.name), .slice s.pa a.args.len s.ca, .slice s.pg g.len s.cg, .int .u64 (lo : Int), .int .u64 (hi : Int), .slice s.pb bd.len s.cb, .slice s.pl el.len s.cl] : Array Value) := ⟨_, rfl⟩
  obtain ⟨W1, hW1⟩ : ∃ W1, w.alloc (Obj.cells A1 35) = W1 := ⟨_, rfl⟩
  obtain ⟨W2, hW2⟩ : ∃ W2, W1.alloc (Obj.cells A1 35) = W2 := ⟨_, rfl⟩
  have hB1 : Below w.heap.size w W1 := by rw [← hW1]; exact (Below.refl _ w).alloc (Nat.le_refl _) _
  have hz1 : W1.heap.size = w.heap.size + 1 := by rw [← hW1]; simp
  have HZ1 := Lib.hid (show A1.size = 16 by rw [hA1]; rfl)
  have HO1 := Lib.hid (show A1.all (·.oneCell') = true by rw [hA1]; simp [Value.oneCell'])
  have HI1 := Lib.hid (infoSt.trans (by rw [HZ1.out]) : (Tryd.prog.info? 35).map (·.size) = some A1.size)
  have F2 := Lib.hid (show W1.rangeAt w.heap.size 0 A1.toList by rw [← hW1]; exact range_new w A1 _)
  have k10 : W2.heap[w.heap.size]? = some (.cells A1 35 (0, 0)) := by rw [← hW2, Below.heap_alloc _ _ _ (by omega), ← hW1]; exact heap_alloc_new w _
  have k20 : W2.heap[W1.heap.size]? = some (.cells A1 35 (0, 0)) := by rw [← hW2]; exact heap_alloc_new W1 _
  have HB2 := Lib.hid (show Below w.heap.size w W2 by rw [← hW2]; exact hB1.alloc (by omega) _)
  have hz2 : W2.heap.size = W1.heap.size + 1 := by rw [← hW2]; simp
  have He := Lib.hid (fun (w1 : World) (hB : Below w.heap.size w w1) => mayExpr_any e s.pe s.ce N w1 (Nat.le_trans hN hB.size) (hx.2.1.later (hB.mono hN) (Nat.le_refl N)))
  have Hbd := Lib.hid (fun (w1 : World) (hB : Below w.heap.size w w1) => hEv bd hb s.pb s.cb N w1 (Nat.le_trans hN hB.size) (hx.2.2.2.2.1.later (hB.mono hN) (Nat.le_refl N)))
  unfold Ex.val at He
  have HZr := Lib.hid (fun (w1 : World) (hB : Below w.heap.size w w1) => isZeroSt_any (St.mk 0 nm ns E0 a g lo hi .nil el) rfl ⟨s.pn, none, s.pa, s.pg, none, s.pl, s.cn, 0, s.ca, s.cg, 0, s.cl⟩ N w1 (Nat.le_trans hN hB.size) (St.Ok.later (x := St.mk 0 nm ns E0 a g lo hi .nil el) (s := ⟨s.pn, none, s.pa, s.pg, none, s.pl, s.cn, 0, s.ca, s.cg, 0, s.cl⟩) (show St.Ok w N (St.mk 0 nm ns E0 a g lo hi .nil el) ⟨s.pn, none, s.pa, s.pg, none, s.pl, s.cn, 0, s.ca, s.cg, 0, s.cl⟩ from ⟨hx.1, E0_ok, hx.2.2.1, hx.2.2.2.1, nilIn, hx.2.2.2.2.2.1, hx.2.2.2.2.2.2⟩) (hB.mono hN) (Nat.le_refl N)))
  unfold St.val at HZr
  rw [st_may_4]
  clear hx hEv
  generalize e.may = ze at *
  generalize bd.may = zbd at *
  generalize (St.mk 0 nm ns E0 a g lo hi .nil el).isZero = zz at *
  show Calls _ _ #[.agg #[.int .i64 4, .string (str nm), .slice s.pn ns.length s.cn, .int .i64 e.op, .int .u64 (e.word : Int), .string (str e.name), .slice s.pe e.args.len s.ce, .int .i64 a.op, .int .u64 (a.word : Int), .string (str a.name), .slice s.pa a.args.len s.ca, .slice s.pg g.len s.cg, .int .u64 (lo : Int), .int .u64 (hi : Int), .slice s.pb bd.len s.cb, .slice s.pl el.len s.cl]] w _
  rw [← hA1]
  have HA1 := Lib.hid hA1
  have HZz := Lib.hid hz1
  clear hB1 hA1 hz1 hz2
  go_enter Tryd.func72, Tryd.ntmps72
  go_upto_region 3 with (first | (refine wpl_load rfl 35 _ rfl w.heap.size 0 rfl A1 _ F2.out Tryd.underlying35 rfl HI1.out ?_) | (refine wpl_store_new rfl 35 _ _ rfl _ A1 _ rfl rfl (by rw [HZ1.out]; rfl) HI1.out HO1.out ?_; rw [hW2]))
  rw [HA1.out] at k10 k20
  clear HA1 hW1 hW2 HZ1 HO1 HI1 F2
  have K1 := Lib.hid k10
  have K2 := Lib.hid k20
  clear k10 k20
  go_upto_region 4 with (refine wpl_put rfl _ _ _ rfl rfl W1.heap.size _ _ rfl rfl _ _ K2.out (by exact Nat.le_of_ble_eq_true rfl) (by kernel_rfl) (by rfl) ?_; intro wq hk hb; replace K1 := Lib.hid ((hb.block _ (lt_of_block K1.out) (by have := HZz.out; omega)).trans K1.out); replace K2 := Lib.hid hk; replace HB2 := Lib.hid (hb.below HB2.out (by have := HZz.out; omega) HB2.out.size); clear hk hb)
  have d0 := cell_block K1.out (j := 0) (v := .int .i64 4) rfl
  have d3 := cell_block K1.out (j := 3) (v := .int .i64 e.op) rfl
  have d4 := cell_block K1.out (j := 4) (v := .int .u64 (e.word : Int)) rfl
  have d5 := cell_block K1.out (j := 5) (v := .string (str e.name)) rfl
  have d6 := cell_block K1.out (j := 6) (v := .slice s.pe e.args.len s.ce) rfl
  go_wp2_with fail
  refine (He.out _ HB2.out).mono ?_
  rintro z w5 ⟨rfl, hB⟩
  replace K1 := Lib.hid ((hB.block _ (lt_of_block K1.out)).trans K1.out)
  replace K2 := Lib.hid ((hB.block _ (lt_of_block K2.out)).trans K2.out)
  replace HB2 := Lib.hid (HB2.out.trans (hB.mono HB2.out.size))
  clear hB
  clear d3 d4 d5 d6
  cases ze with
  | false =>
    go_wp2_with (refine wpl_put rfl _ _ _ rfl rfl W1.heap.size _ _ rfl rfl _ _ K2.out (by exact Nat.le_of_ble_eq_true rfl) (by kernel_rfl) (by rfl) ?_; intro wq hk hb; replace K1 := Lib.hid ((hb.block _ (lt_of_block K1.out) (by have := HZz.out; omega)).trans K1.out); replace K2 := Lib.hid hk; replace HB2 := Lib.hid (hb.below HB2.out (by have := HZz.out; omega) HB2.out.size); clear hk hb)
    go_ret
    exact ⟨by simp, HB2.out⟩
  | true =>
    have d14 := cell_block K1.out (j := 14) (v := .slice s.pb bd.len s.cb) rfl
    go_wp2_with fail
    refine (Hbd.out _ HB2.out).mono ?_
    rintro z w5 ⟨rfl, hB⟩
    replace K1 := Lib.hid ((hB.block _ (lt_of_block K1.out)).trans K1.out)
    replace K2 := Lib.hid ((hB.block _ (lt_of_block K2.out)).trans K2.out)
    replace HB2 := Lib.hid (HB2.out.trans (hB.mono HB2.out.size))
    clear hB
    clear d14
    cases zbd with
    | false =>
      go_wp2_with (refine wpl_put rfl _ _ _ rfl rfl W1.heap.size _ _ rfl rfl _ _ K2.out (by exact Nat.le_of_ble_eq_true rfl) (by kernel_rfl) (by rfl) ?_; intro wq hk hb; replace K1 := Lib.hid ((hb.block _ (lt_of_block K1.out) (by have := HZz.out; omega)).trans K1.out); replace K2 := Lib.hid hk; replace HB2 := Lib.hid (hb.below HB2.out (by have := HZz.out; omega) HB2.out.size); clear hk hb)
      go_ret
      exact ⟨by simp, HB2.out⟩
    | true =>
      go_wp2_with (first | (refine wpl_load_if (by rfl) 35 _ rfl W1.heap.size 0 rfl ((St.mk 0 nm ns E0 a g lo hi .nil el).cells ⟨s.pn, none, s.pa, s.pg, none, s.pl, s.cn, 0, s.ca, s.cg, 0, s.cl⟩) _ (range_block K2.out) Tryd.underlying35 rfl (infoSt.trans rfl) ?_) | (refine wpl_put rfl _ _ _ rfl rfl W1.heap.size _ _ rfl rfl _ _ K2.out (by exact Nat.le_of_ble_eq_true rfl) (by kernel_rfl) (by rfl) ?_; intro wq hk hb; replace K1 := Lib.hid ((hb.block _ (lt_of_block K1.out) (by have := HZz.out; omega)).trans K1.out); replace K2 := Lib.hid hk; replace HB2 := Lib.hid (hb.below HB2.out (by have := HZz.out; omega) HB2.out.size); clear hk hb))
      refine (HZr.out _ HB2.out).mono ?_
      rintro z w5 ⟨rfl, hB⟩
      replace HB2 := Lib.hid (HB2.out.trans (hB.mono HB2.out.size))
      go_wp2_with fail
      go_ret
      exact ⟨by simp, HB2.out⟩
set_option maxRecDepth 100000 in
set_option maxHeartbeats 6400000 in
theorem mayStmt_5 (n : Nat) (hEv : EvS n) (nm : List UInt8) (ns : List (List UInt8)) (e a : Ex) (g : Exs) (lo hi : Nat) (bd el : Sts) (hb : bd.size ≤ n) (_hl : el.size ≤ n) (s : StP) (N : Nat) (w : World) (hN : N ≤ w.heap.size) (hx : (St.mk 5 nm ns e a g lo hi bd el).Ok w N s) :
    Calls Tryd.prog 72 #[(St.mk 5 nm ns e a g lo hi bd el).val s] w fun z w' => z = .returned (.bool (St.mk 5 nm ns e a g lo hi bd el).may) ∧ Below w.heap.size w w' := by
  obtain ⟨A1, hA1⟩ : ∃ A1, A1 = (#[.int .i64 5, .string (str nm), .slice s.pn ns.length s.cn, .int .i64 e.op, .int .u64 (e.word : Int), .string (str e.name), .slice s.pe e.args.len s.ce, .int .i64 a.op, .int .u64 (a.word : Int), .string (str a.name), .slice s.pa a.args.len s.ca, .slice s.pg g.len s.cg, .int .u64 (lo : Int), .int .u64 (hi : Int), .slice s.pb bd.len s.cb, .slice s.pl el.len s.cl] : Array Value) := ⟨_, rfl⟩
  obtain ⟨W1, hW1⟩ : ∃ W1, w.alloc (Obj.cells A1 35) = W1 := ⟨_, rfl⟩
  obtain ⟨W2, hW2⟩ : ∃ W2, W1.alloc (Obj.cells A1 35) = W2 := ⟨_, rfl⟩
  have hB1 : Below w.heap.size w W1 := by rw [← hW1]; exact (Below.refl _ w).alloc (Nat.le_refl _) _
  have hz1 : W1.heap.size = w.heap.size + 1 := by rw [← hW1]; simp
  have HZ1 := Lib.hid (show A1.size = 16 by rw [hA1]; rfl)
  have HO1 := Lib.hid (show A1.all (·.oneCell') = true by rw [hA1]; simp [Value.oneCell'])
  have HI1 := Lib.hid (infoSt.trans (by rw [HZ1.out]) : (Tryd.prog.info? 35).map (·.size) = some A1.size)
  have F2 := Lib.hid (show W1.rangeAt w.heap.size 0 A1.toList by rw [← hW1]; exact range_new w A1 _)
  have k10 : W2.heap[w.heap.size]? = some (.cells A1 35 (0, 0)) := by rw [← hW2, Below.heap_alloc _ _ _ (by omega), ← hW1]; exact heap_alloc_new w _
  have k20 : W2.heap[W1.heap.size]? = some (.cells A1 35 (0, 0)) := by rw [← hW2]; exact heap_alloc_new W1 _
  have HB2 := Lib.hid (show Below w.heap.size w W2 by rw [← hW2]; exact hB1.alloc (by omega) _)
  have hz2 : W2.heap.size = W1.heap.size + 1 := by rw [← hW2]; simp
  have Hnm := Lib.hid (fun w => name_any (str nm) w)
  rw [str_data] at Hnm
  have Hbd := Lib.hid (fun (w1 : World) (hB : Below w.heap.size w w1) => hEv bd hb s.pb s.cb N w1 (Nat.le_trans hN hB.size) (hx.2.2.2.2.1.later (hB.mono hN) (Nat.le_refl N)))
  have HZr := Lib.hid (fun (w1 : World) (hB : Below w.heap.size w w1) => isZeroSt_any (St.mk 0 [] ns e a g 0 0 .nil el) rfl ⟨s.pn, s.pe, s.pa, s.pg, none, s.pl, s.cn, s.ce, s.ca, s.cg, 0, s.cl⟩ N w1 (Nat.le_trans hN hB.size) (St.Ok.later (x := St.mk 0 [] ns e a g 0 0 .nil el) (s := ⟨s.pn, s.pe, s.pa, s.pg, none, s.pl, s.cn, s.ce, s.ca, s.cg, 0, s.cl⟩) (show St.Ok w N (St.mk 0 [] ns e a g 0 0 .nil el) ⟨s.pn, s.pe, s.pa, s.pg, none, s.pl, s.cn, s.ce, s.ca, s.cg, 0, s.cl⟩ from ⟨hx.1, hx.2.1, hx.2.2.1, hx.2.2.2.1, nilIn, hx.2.2.2.2.2.1, (show (0 : Nat) < 18446744073709551616 by decide), (show (0 : Nat) < 18446744073709551616 by decide)⟩) (hB.mono hN) (Nat.le_refl N)))
  unfold St.val at HZr
  rw [st_may_5]
  clear hx hEv
  generalize nameB nm = znm at *
  generalize bd.may = zbd at *
  generalize (St.mk 0 [] ns e a g 0 0 .nil el).isZero = zz at *
  show Calls _ _ #[.agg #[.int .i64 5, .string (str nm), .slice s.pn ns.length s.cn, .int .i64 e.op, .int .u64 (e.word : Int), .string (str e.name), .slice s.pe e.args.len s.ce, .int .i64 a.op, .int .u64 (a.word : Int), .string (str a.name), .slice s.pa a.args.len s.ca, .slice s.pg g.len s.cg, .int .u64 (lo : Int), .int .u64 (hi : Int), .slice s.pb bd.len s.cb, .slice s.pl el.len s.cl]] w _
  rw [← hA1]
  have HA1 := Lib.hid hA1
  have HZz := Lib.hid hz1
  clear hB1 hA1 hz1 hz2
  go_enter Tryd.func72, Tryd.ntmps72
  go_upto_region 3 with (first | (refine wpl_load rfl 35 _ rfl w.heap.size 0 rfl A1 _ F2.out Tryd.underlying35 rfl HI1.out ?_) | (refine wpl_store_new rfl 35 _ _ rfl _ A1 _ rfl rfl (by rw [HZ1.out]; rfl) HI1.out HO1.out ?_; rw [hW2]))
  rw [HA1.out] at k10 k20
  clear HA1 hW1 hW2 HZ1 HO1 HI1 F2
  have K1 := Lib.hid k10
  have K2 := Lib.hid k20
  clear k10 k20
  go_upto_region 4 with (refine wpl_put rfl _ _ _ rfl rfl W1.heap.size _ _ rfl rfl _ _ K2.out (by exact Nat.le_of_ble_eq_true rfl) (by kernel_rfl) (by rfl) ?_; intro wq hk hb; replace K1 := Lib.hid ((hb.block _ (lt_of_block K1.out) (by have := HZz.out; omega)).trans K1.out); replace K2 := Lib.hid hk; replace HB2 := Lib.hid (hb.below HB2.out (by have := HZz.out; omega) HB2.out.size); clear hk hb)
  have d0 := cell_block K1.out (j := 0) (v := .int .i64 5) rfl
  have d1 := cell_block K1.out (j := 1) (v := .string (str nm)) rfl
  go_wp2_with fail
  refine (Hnm.out _).mono ?_
  rintro z w5 ⟨rfl, rfl⟩
  clear d1
  cases znm with
  | false =>
    go_wp2_with (refine wpl_put rfl _ _ _ rfl rfl W1.heap.size _ _ rfl rfl _ _ K2.out (by exact Nat.le_of_ble_eq_true rfl) (by kernel_rfl) (by rfl) ?_; intro wq hk hb; replace K1 := Lib.hid ((hb.block _ (lt_of_block K1.out) (by have := HZz.out; omega)).trans K1.out); replace K2 := Lib.hid hk; replace HB2 := Lib.hid (hb.below HB2.out (by have := HZz.out; omega) HB2.out.size); clear hk hb)
    go_ret
    exact ⟨by simp, HB2.out⟩
  | true =>
    have d14 := cell_block K1.out (j := 14) (v := .slice s.pb bd.len s.cb) rfl
    go_wp2_with fail
    refine (Hbd.out _ HB2.out).mono ?_
    rintro z w5 ⟨rfl, hB⟩
    replace K1 := Lib.hid ((hB.block _ (lt_of_block K1.out)).trans K1.out)
    replace K2 := Lib.hid ((hB.block _ (lt_of_block K2.out)).trans K2.out)
    replace HB2 := Lib.hid (HB2.out.trans (hB.mono HB2.out.size))
    clear hB
    clear d14
    cases zbd with
    | false =>
      go_wp2_with (refine wpl_put rfl _ _ _ rfl rfl W1.heap.size _ _ rfl rfl _ _ K2.out (by exact Nat.le_of_ble_eq_true rfl) (by kernel_rfl) (by rfl) ?_; intro wq hk hb; replace K1 := Lib.hid ((hb.block _ (lt_of_block K1.out) (by have := HZz.out; omega)).trans K1.out); replace K2 := Lib.hid hk; replace HB2 := Lib.hid (hb.below HB2.out (by have := HZz.out; omega) HB2.out.size); clear hk hb)
      go_ret
      exact ⟨by simp, HB2.out⟩
    | true =>
      go_wp2_with (first | (refine wpl_load_if (by rfl) 35 _ rfl W1.heap.size 0 rfl ((St.mk 0 [] ns e a g 0 0 .nil el).cells ⟨s.pn, s.pe, s.pa, s.pg, none, s.pl, s.cn, s.ce, s.ca, s.cg, 0, s.cl⟩) _ (range_block K2.out) Tryd.underlying35 rfl (infoSt.trans rfl) ?_) | (refine wpl_put rfl _ _ _ rfl rfl W1.heap.size _ _ rfl rfl _ _ K2.out (by exact Nat.le_of_ble_eq_true rfl) (by kernel_rfl) (by rfl) ?_; intro wq hk hb; replace K1 := Lib.hid ((hb.block _ (lt_of_block K1.out) (by have := HZz.out; omega)).trans K1.out); replace K2 := Lib.hid hk; replace HB2 := Lib.hid (hb.below HB2.out (by have := HZz.out; omega) HB2.out.size); clear hk hb))
      refine (HZr.out _ HB2.out).mono ?_
      rintro z w5 ⟨rfl, hB⟩
      replace HB2 := Lib.hid (HB2.out.trans (hB.mono HB2.out.size))
      go_wp2_with fail
      go_ret
      exact ⟨by simp, HB2.out⟩
set_option maxRecDepth 100000 in
set_option maxHeartbeats 6400000 in
theorem mayStmt_6 (n : Nat) (_hEv : EvS n) (nm : List UInt8) (ns : List (List UInt8)) (e a : Ex) (g : Exs) (lo hi : Nat) (bd el : Sts) (_hb : bd.size ≤ n) (_hl : el.size ≤ n) (s : StP) (N : Nat) (w : World) (hN : N ≤ w.heap.size) (hx : (St.mk 6 nm ns e a g lo hi bd el).Ok w N s) :
    Calls Tryd.prog 72 #[(St.mk 6 nm ns e a g lo hi bd el).val s] w fun z w' => z = .returned (.bool (St.mk 6 nm ns e a g lo hi bd el).may) ∧ Below w.heap.size w w' := by
  obtain ⟨A1, hA1⟩ : ∃ A1, A1 = (#[.int .i64 6, .string (str nm), .slice s.pn ns.length s.cn, .int .i64 e.op, .int .u64 (e.word : Int), .string (str e.name), .slice s.pe e.args.len s.ce, .int .i64 a.op, .int .u64 (a.word : Int), .string (str a.name), .slice s.pa a.args.len s.ca, .slice s.pg g.len s.cg, .int .u64 (lo : Int), .int .u64 (hi : Int), .slice s.pb bd.len s.cb, .slice s.pl el.len s.cl] : Array Value) := ⟨_, rfl⟩
  obtain ⟨W1, hW1⟩ : ∃ W1, w.alloc (Obj.cells A1 35) = W1 := ⟨_, rfl⟩
  obtain ⟨W2, hW2⟩ : ∃ W2, W1.alloc (Obj.cells A1 35) = W2 := ⟨_, rfl⟩
  have hB1 : Below w.heap.size w W1 := by rw [← hW1]; exact (Below.refl _ w).alloc (Nat.le_refl _) _
  have hz1 : W1.heap.size = w.heap.size + 1 := by rw [← hW1]; simp
  have HZ1 := Lib.hid (show A1.size = 16 by rw [hA1]; rfl)
  have HO1 := Lib.hid (show A1.all (·.oneCell') = true by rw [hA1]; simp [Value.oneCell'])
  have HI1 := Lib.hid (infoSt.trans (by rw [HZ1.out]) : (Tryd.prog.info? 35).map (·.size) = some A1.size)
  have F2 := Lib.hid (show W1.rangeAt w.heap.size 0 A1.toList by rw [← hW1]; exact range_new w A1 _)
  have k10 : W2.heap[w.heap.size]? = some (.cells A1 35 (0, 0)) := by rw [← hW2, Below.heap_alloc _ _ _ (by omega), ← hW1]; exact heap_alloc_new w _
  have k20 : W2.heap[W1.heap.size]? = some (.cells A1 35 (0, 0)) := by rw [← hW2]; exact heap_alloc_new W1 _
  have HB2 := Lib.hid (show Below w.heap.size w W2 by rw [← hW2]; exact hB1.alloc (by omega) _)
  have hz2 : W2.heap.size = W1.heap.size + 1 := by rw [← hW2]; simp
  have Hnm := Lib.hid (fun w => name_any (str nm) w)
  rw [str_data] at Hnm
  have Hns := Lib.hid (fun (w1 : World) (hB : Below w.heap.size w w1) => everyStr_any ns s.pn s.cn N w1 (hx.1.2.imp (Nat.le_refl N) (StrAt.later (hB.mono hN))))
  have Hg := Lib.hid (fun (w1 : World) (hB : Below w.heap.size w w1) => everyEx_any g s.pg s.cg N w1 (Nat.le_trans hN hB.size) (hx.2.2.2.1.later (hB.mono hN) (Nat.le_refl N)))
  have HZr := Lib.hid (fun (w1 : World) (hB : Below w.heap.size w w1) => isZeroSt_any (St.mk 0 [] [] e a .nil lo hi bd el) rfl ⟨none, s.pe, s.pa, none, s.pb, s.pl, 0, s.ce, s.ca, 0, s.cb, s.cl⟩ N w1 (Nat.le_trans hN hB.size) (St.Ok.later (x := St.mk 0 [] [] e a .nil lo hi bd el) (s := ⟨none, s.pe, s.pa, none, s.pb, s.pl, 0, s.ce, s.ca, 0, s.cb, s.cl⟩) (show St.Ok w N (St.mk 0 [] [] e a .nil lo hi bd el) ⟨none, s.pe, s.pa, none, s.pb, s.pl, 0, s.ce, s.ca, 0, s.cb, s.cl⟩ from ⟨⟨Nat.zero_le _, nilRow⟩, hx.2.1, hx.2.2.1, nilExs, hx.2.2.2.2.1, hx.2.2.2.2.2.1, hx.2.2.2.2.2.2⟩) (hB.mono hN) (Nat.le_refl N)))
  unfold St.val at HZr
  rw [st_may_6]
  clear hx _hEv
  generalize nameB nm = znm at *
  generalize namesB ns = zns at *
  generalize g.may = zg at *
  generalize (St.mk 0 [] [] e a .nil lo hi bd el).isZero = zz at *
  show Calls _ _ #[.agg #[.int .i64 6, .string (str nm), .slice s.pn ns.length s.cn, .int .i64 e.op, .int .u64 (e.word : Int), .string (str e.name), .slice s.pe e.args.len s.ce, .int .i64 a.op, .int .u64 (a.word : Int), .string (str a.name), .slice s.pa a.args.len s.ca, .slice s.pg g.len s.cg, .int .u64 (lo : Int), .int .u64 (hi : Int), .slice s.pb bd.len s.cb, .slice s.pl el.len s.cl]] w _
  rw [← hA1]
  have HA1 := Lib.hid hA1
  have HZz := Lib.hid hz1
  clear hB1 hA1 hz1 hz2
  go_enter Tryd.func72, Tryd.ntmps72
  go_upto_region 3 with (first | (refine wpl_load rfl 35 _ rfl w.heap.size 0 rfl A1 _ F2.out Tryd.underlying35 rfl HI1.out ?_) | (refine wpl_store_new rfl 35 _ _ rfl _ A1 _ rfl rfl (by rw [HZ1.out]; rfl) HI1.out HO1.out ?_; rw [hW2]))
  rw [HA1.out] at k10 k20
  clear HA1 hW1 hW2 HZ1 HO1 HI1 F2
  have K1 := Lib.hid k10
  have K2 := Lib.hid k20
  clear k10 k20
  go_upto_region 4 with (refine wpl_put rfl _ _ _ rfl rfl W1.heap.size _ _ rfl rfl _ _ K2.out (by exact Nat.le_of_ble_eq_true rfl) (by kernel_rfl) (by rfl) ?_; intro wq hk _hb; replace K1 := Lib.hid ((_hb.block _ (lt_of_block K1.out) (by have := HZz.out; omega)).trans K1.out); replace K2 := Lib.hid hk; replace HB2 := Lib.hid (_hb.below HB2.out (by have := HZz.out; omega) HB2.out.size); clear hk _hb)
  have d0 := cell_block K1.out (j := 0) (v := .int .i64 6) rfl
  have d1 := cell_block K1.out (j := 1) (v := .string (str nm)) rfl
  go_wp2_with fail
  refine (Hnm.out _).mono ?_
  rintro z w5 ⟨rfl, rfl⟩
  clear d1
  cases znm with
  | false =>
    go_wp2_with (refine wpl_put rfl _ _ _ rfl rfl W1.heap.size _ _ rfl rfl _ _ K2.out (by exact Nat.le_of_ble_eq_true rfl) (by kernel_rfl) (by rfl) ?_; intro wq hk _hb; replace K1 := Lib.hid ((_hb.block _ (lt_of_block K1.out) (by have := HZz.out; omega)).trans K1.out); replace K2 := Lib.hid hk; replace HB2 := Lib.hid (_hb.below HB2.out (by have := HZz.out; omega) HB2.out.size); clear hk _hb)
    go_ret
    exact ⟨by simp, HB2.out⟩
  | true =>
    have d2 := cell_block K1.out (j := 2) (v := .slice s.pn ns.length s.cn) rfl
    go_wp2_with fail
    refine (Hns.out _ HB2.out).mono ?_
    rintro z w5 ⟨rfl, rfl⟩
    clear d2
    cases zns with
    | false =>
      go_wp2_with (refine wpl_put rfl _ _ _ rfl rfl W1.heap.size _ _ rfl rfl _ _ K2.out (by exact Nat.le_of_ble_eq_true rfl) (by kernel_rfl) (by rfl) ?_; intro wq hk _hb; replace K1 := Lib.hid ((_hb.block _ (lt_of_block K1.out) (by have := HZz.out; omega)).trans K1.out); replace K2 := Lib.hid hk; replace HB2 := Lib.hid (_hb.below HB2.out (by have := HZz.out; omega) HB2.out.size); clear hk _hb)
      go_ret
      exact ⟨by simp, HB2.out⟩
    | true =>
      have d11 := cell_block K1.out (j := 11) (v := .slice s.pg g.len s.cg) rfl
      go_wp2_with fail
      refine (Hg.out _ HB2.out).mono ?_
      rintro z w5 ⟨rfl, hB⟩
      replace K1 := Lib.hid ((hB.block _ (lt_of_block K1.out)).trans K1.out)
      replace K2 := Lib.hid ((hB.block _ (lt_of_block K2.out)).trans K2.out)
      replace HB2 := Lib.hid (HB2.out.trans (hB.mono HB2.out.size))
      clear hB
      clear d11
      cases zg with
      | false =>
        go_wp2_with (refine wpl_put rfl _ _ _ rfl rfl W1.heap.size _ _ rfl rfl _ _ K2.out (by exact Nat.le_of_ble_eq_true rfl) (by kernel_rfl) (by rfl) ?_; intro wq hk _hb; replace K1 := Lib.hid ((_hb.block _ (lt_of_block K1.out) (by have := HZz.out; omega)).trans K1.out); replace K2 := Lib.hid hk; replace HB2 := Lib.hid (_hb.below HB2.out (by have := HZz.out; omega) HB2.out.size); clear hk _hb)
        go_ret
        exact ⟨by simp, HB2.out⟩
      | true =>
        go_wp2_with (first | (refine wpl_load_if (by rfl) 35 _ rfl W1.heap.size 0 rfl ((St.mk 0 [] [] e a .nil lo hi bd el).cells ⟨none, s.pe, s.pa, none, s.pb, s.pl, 0, s.ce, s.ca, 0, s.cb, s.cl⟩) _ (range_block K2.out) Tryd.underlying35 rfl (infoSt.trans rfl) ?_) | (refine wpl_put rfl _ _ _ rfl rfl W1.heap.size _ _ rfl rfl _ _ K2.out (by exact Nat.le_of_ble_eq_true rfl) (by kernel_rfl) (by rfl) ?_; intro wq hk _hb; replace K1 := Lib.hid ((_hb.block _ (lt_of_block K1.out) (by have := HZz.out; omega)).trans K1.out); replace K2 := Lib.hid hk; replace HB2 := Lib.hid (_hb.below HB2.out (by have := HZz.out; omega) HB2.out.size); clear hk _hb))
        refine (HZr.out _ HB2.out).mono ?_
        rintro z w5 ⟨rfl, hB⟩
        replace HB2 := Lib.hid (HB2.out.trans (hB.mono HB2.out.size))
        go_wp2_with fail
        go_ret
        exact ⟨by simp, HB2.out⟩
set_option maxRecDepth 100000 in
set_option maxHeartbeats 6400000 in
theorem mayStmt_no (kd : Int) (hno : kd < 1 ∨ 6 < kd) (nm : List UInt8) (ns : List (List UInt8)) (e a : Ex) (g : Exs) (lo hi : Nat) (bd el : Sts) (s : StP) (w : World) :
    Calls Tryd.prog 72 #[(St.mk kd nm ns e a g lo hi bd el).val s] w fun z w' => z = .returned (.bool (St.mk kd nm ns e a g lo hi bd el).may) ∧ Below w.heap.size w w' := by
  obtain ⟨A1, hA1⟩ : ∃ A1, A1 = (#[.int .i64 kd, .string (str nm), .slice s.pn ns.length s.cn, .int .i64 e.op, .int .u64 (e.word : Int), .string (str e.name), .slice s.pe e.args.len s.ce, .int .i64 a.op, .int .u64 (a.word : Int), .string (str a.name), .slice s.pa a.args.len s.ca, .slice s.pg g.len s.cg, .int .u64 (lo : Int), .int .u64 (hi : Int), .slice s.pb bd.len s.cb, .slice s.pl el.len s.cl] : Array Value) := ⟨_, rfl⟩
  obtain ⟨W1, hW1⟩ : ∃ W1, w.alloc (Obj.cells A1 35) = W1 := ⟨_, rfl⟩
  obtain ⟨W2, hW2⟩ : ∃ W2, W1.alloc (Obj.cells A1 35) = W2 := ⟨_, rfl⟩
  have hB1 : Below w.heap.size w W1 := by rw [← hW1]; exact (Below.refl _ w).alloc (Nat.le_refl _) _
  have hz1 : W1.heap.size = w.heap.size + 1 := by rw [← hW1]; simp
  have HZ1 := Lib.hid (show A1.size = 16 by rw [hA1]; rfl)
  have HO1 := Lib.hid (show A1.all (·.oneCell') = true by rw [hA1]; simp [Value.oneCell'])
  have HI1 := Lib.hid (infoSt.trans (by rw [HZ1.out]) : (Tryd.prog.info? 35).map (·.size) = some A1.size)
  have F2 := Lib.hid (show W1.rangeAt w.heap.size 0 A1.toList by rw [← hW1]; exact range_new w A1 _)
  have k10 : W2.heap[w.heap.size]? = some (.cells A1 35 (0, 0)) := by rw [← hW2, Below.heap_alloc _ _ _ (by omega), ← hW1]; exact heap_alloc_new w _
  have k20 : W2.heap[W1.heap.size]? = some (.cells A1 35 (0, 0)) := by rw [← hW2]; exact heap_alloc_new W1 _
  have HB2 := Lib.hid (show Below w.heap.size w W2 by rw [← hW2]; exact hB1.alloc (by omega) _)
  have hz2 : W2.heap.size = W1.heap.size + 1 := by rw [← hW2]; simp
  rw [st_may_no kd hno]
  have q1 : (kd == 1) = false := by simp; omega
  have q2 : (kd == 2) = false := by simp; omega
  have q3 : (kd == 3) = false := by simp; omega
  have q4 : (kd == 4) = false := by simp; omega
  have q5 : (kd == 5) = false := by simp; omega
  have q6 : (kd == 6) = false := by simp; omega
  show Calls _ _ #[.agg #[.int .i64 kd, .string (str nm), .slice s.pn ns.length s.cn, .int .i64 e.op, .int .u64 (e.word : Int), .string (str e.name), .slice s.pe e.args.len s.ce, .int .i64 a.op, .int .u64 (a.word : Int), .string (str a.name), .slice s.pa a.args.len s.ca, .slice s.pg g.len s.cg, .int .u64 (lo : Int), .int .u64 (hi : Int), .slice s.pb bd.len s.cb, .slice s.pl el.len s.cl]] w _
  rw [← hA1]
  have HA1 := Lib.hid hA1
  have HZz := Lib.hid hz1
  clear hB1 hA1 hz1 hz2
  go_enter Tryd.func72, Tryd.ntmps72
  go_upto_region 3 with (first | (refine wpl_load rfl 35 _ rfl w.heap.size 0 rfl A1 _ F2.out Tryd.underlying35 rfl HI1.out ?_) | (refine wpl_store_new rfl 35 _ _ rfl _ A1 _ rfl rfl (by rw [HZ1.out]; rfl) HI1.out HO1.out ?_; rw [hW2]))
  rw [HA1.out] at k10 k20
  clear HA1 hW1 hW2 HZ1 HO1 HI1 F2
  have K1 := Lib.hid k10
  have K2 := Lib.hid k20
  clear k10 k20
  go_upto_region 4 with (refine wpl_put rfl _ _ _ rfl rfl W1.heap.size _ _ rfl rfl _ _ K2.out (by exact Nat.le_of_ble_eq_true rfl) (by kernel_rfl) (by rfl) ?_; intro wq hk hb; replace K1 := Lib.hid ((hb.block _ (lt_of_block K1.out) (by have := HZz.out; omega)).trans K1.out); replace K2 := Lib.hid hk; replace HB2 := Lib.hid (hb.below HB2.out (by have := HZz.out; omega) HB2.out.size); clear hk hb)
  have d0 := cell_block K1.out (j := 0) (v := .int .i64 kd) rfl
  go_wp2_with fail
  go_ret
  exact ⟨rfl, HB2.out⟩
theorem mayS_step (n : Nat) (ih : MayS n) : MayS (n + 1) := by
  intro x hsz s N w hN hx
  obtain ⟨kd, nm, ns, e, a, g, lo, hi, bd, el⟩ := x
  simp only [St.size] at hsz
  have hEv : EvS n := fun l hl p c N w hN h => everyS_step n ih l hl p c N w hN h
  have hno : kd < 1 ∨ 6 < kd ∨ kd = 1 ∨ kd = 2 ∨ kd = 3 ∨ kd = 4 ∨ kd = 5 ∨ kd = 6 := by omega
  rcases hno with h | h | rfl | rfl | rfl | rfl | rfl | rfl
  · exact mayStmt_no kd (.inl h) nm ns e a g lo hi bd el s w
  · exact mayStmt_no kd (.inr h) nm ns e a g lo hi bd el s w
  · exact mayStmt_1 n hEv nm ns e a g lo hi bd el (by omega) (by omega) s N w hN hx
  · exact mayStmt_2 n hEv nm ns e a g lo hi bd el (by omega) (by omega) s N w hN hx
  · exact mayStmt_3 n hEv nm ns e a g lo hi bd el (by omega) (by omega) s N w hN hx
  · exact mayStmt_4 n hEv nm ns e a g lo hi bd el (by omega) (by omega) s N w hN hx
  · exact mayStmt_5 n hEv nm ns e a g lo hi bd el (by omega) (by omega) s N w hN hx
  · exact mayStmt_6 n hEv nm ns e a g lo hi bd el (by omega) (by omega) s N w hN hx
theorem mayS_to : ∀ n, MayS n
  | 0 => fun _ h => absurd h (Nat.not_lt_zero _)
  | n + 1 => mayS_step n (mayS_to n)
theorem everySt_any (l : Sts) (p : Option Addr) (c N : Nat) (w : World) (hN : N ≤ w.heap.size) (h : l.In w N p) :
    Calls Tryd.prog 71 #[.slice p l.len c, .func (.func 72) #[] #[]] w fun e w' => e = .returned (.bool l.may) ∧ Below w.heap.size w w' :=
  everyS_step _ (mayS_to _) l (Nat.le_refl _) p c N w hN h
set_option maxHeartbeats 1600000 in
theorem mayBody_any (l : Sts) (hl6 : l.wt ≤ 1000000) (p : Option Addr) (c N : Nat) (w : World) (hN : N ≤ w.heap.size) (h : l.In w N p) :
    Calls Tryd.prog 46 #[.slice p l.len c] w fun e w' => e = .returned (.bool l.can) ∧ Below w.heap.size w w' := by
  have HD := Lib.hid (deepS_any l hl6 p c N w h hN)
  have HE := Lib.hid (fun (w1 : World) (hB : Below w.heap.size w w1) => everySt_any l p c N w1 (Nat.le_trans hN hB.size) (h.later (hB.mono hN) (Nat.le_refl N)))
  have hd := Sts.deep_le l
  unfold Sts.can
  clear h
  generalize l.deep = d at *
  generalize l.may = m at *
  go_enter Tryd.func46, Tryd.ntmps46
  go_wp2_with fail
  refine HD.out.mono ?_
  rintro e w1 ⟨rfl, hB⟩
  have HB := Lib.hid hB
  clear hB
  by_cases hd64 : d ≤ 64
  · go_wp2_with fail
    refine (HE.out _ HB.out).mono ?_
    rintro e w2 ⟨rfl, hB2⟩
    have HB2 := Lib.hid (HB.out.trans (hB2.mono HB.out.size))
    clear hB2
    go_wp2_with fail
    go_ret
    exact ⟨by simp [hd64], HB2.out⟩
  · go_wp2_with fail
    go_ret
    exact ⟨by simp, HB.out⟩
end Go.Proofs.YtkjhofnkgcjcoaaDoor
