/- LxG1, LxG2 as one. -/
import Derived.Test.YtchbnkepmeelkaaGreatDoorLC
import Derived.LaidEql
import Derived.Outline
import Derived.Stop.Asserts
import Derived.RowKitTokens
/- errors.Is of a place that is wrong. -/
namespace Go.Proofs.YtchbnkepmeelkaaGreatDoor.Lx
open Go.RowKit Go.Extern.Stop Go.Stop Go.Extern

theorem isTypeOf (v : Value) (w : World) : (Extern.ReflectliteType.typeOf #[.iface 27 v]).run Tryz.prog w = .ok (.iface 266 (.agg #[.pointer (some ⟨7, 27, none⟩)])) w := by kernel_rfl
theorem comparable_run : ∃ f : Array Value → Sem Value, (∀ (args : Array Value) (w : World), (callFunc 304 args).run Tryz.prog w = ((f args).run Tryz.prog w).andThen fun v w' => .ok (.value v) w') ∧
    ∀ w : World, (f #[.agg #[.pointer (some ⟨7, 27, none⟩)]]).run Tryz.prog w = .ok (.bool true) w :=
  ⟨Extern.ReflectliteType.method fun t => do Rtype.noPackHeld "Comparable" t; pure (.bool (← typeInfo t).comparable),
    @run_callFunc_extern Tryz.prog 304 _ _ Tryz.func304 (by kernel_rfl) (by kernel_rfl) (by kernel_rfl) (by kernel_rfl), fun w => by kernel_rfl⟩
theorem isMethodComparable (v : Value) (w : World) : (Go.method 448 266 v "Comparable").run Tryz.prog w = .ok (304, v) w := by kernel_rfl
theorem noIsE (v : Value) (xT : TypeId) (w : World) : (Instr.typeAssert (.iface 27 v) xT 278 true).run Tryz.prog w = .ok (.tuple #[.nilIface, .bool false]) w := run_typeAssert_lacksB Tryz.underlying278 (by kernel_rfl) (by kernel_rfl) v xT w
theorem noUnwrapE (v : Value) (xT : TypeId) (w : World) : (Instr.typeAssert (.iface 27 v) xT 273 true).run Tryz.prog w = .ok (.tuple #[.nilIface, .bool false]) w := run_typeAssert_lacksB Tryz.underlying273 (by kernel_rfl) (by kernel_rfl) v xT w
theorem noUnwrapsE (v : Value) (xT : TypeId) (w : World) : (Instr.typeAssert (.iface 27 v) xT 275 true).run Tryz.prog w = .ok (.tuple #[.nilIface, .bool false]) w := run_typeAssert_lacksB Tryz.underlying275 (by kernel_rfl) (by kernel_rfl) v xT w
theorem noIsW (v : Value) (xT : TypeId) (w : World) : (Instr.typeAssert (.iface 282 v) xT 278 true).run Tryz.prog w = .ok (.tuple #[.nilIface, .bool false]) w := run_typeAssert_lacksB Tryz.underlying278 (by kernel_rfl) (by kernel_rfl) v xT w
theorem hasUnwrapW (v : Value) (xT : TypeId) (w : World) : (Instr.typeAssert (.iface 282 v) xT 273 true).run Tryz.prog w = .ok (.tuple #[.iface 282 v, .bool true]) w := run_typeAssert_hasB Tryz.underlying273 (by kernel_rfl) v xT w
theorem methodUnwrap (v : Value) (w : World) : (Go.method 448 282 v "Unwrap").run Tryz.prog w = .ok (314, v) w := by kernel_rfl
theorem run_equalIn_iface_int {P : Program} (w : World) (d : Nat) {ti tn : TypeId} {ms : Array (String × TypeId)} {i : TypeInfo} {k : IntKind} (a b : Int)
    (hi : P.underlying ti = some (.interface ms)) (hn : P.underlying tn = some (.int k)) (hinfo : P.info? tn = some i) (hcomp : i.comparable = true) :
    (Op.equalIn (d + 2) ti (.iface tn (.int k a)) (.iface tn (.int k b))).run P w = .ok (a == b) w := by
  simp [Op.equalIn, run_underlying hi, run_underlying hn, typeInfo, hinfo, hcomp]
theorem compErrno : (Tryz.prog.info? 27).map (·.comparable) = some true := by kernel_rfl
theorem eqlErrno (x y : Int) (w : World) : (binOp .eql 124 (.iface 27 (.int .i64 x)) (.iface 27 (.int .i64 y))).run Tryz.prog w = .ok (.bool (x == y)) w := by
  obtain ⟨i, hi, hcmp⟩ := Option.map_eq_some_iff.1 compErrno
  simp only [binOp]
  simp [Op.equal, Op.maxDepth, run_equalIn_iface_int w 9998 x y Tryz.underlying124 Tryz.underlying27 hi hcmp]

theorem unwrap_any (a e : Int) (w : World) : Calls Tryz.prog 314 #[.agg #[.int .i64 a, .int .i64 e]] w fun en w' => en = .returned (.iface 27 (.int .i64 e)) ∧ Below w.heap.size w w' := by
  go_enter Tryz.func314, Tryz.ntmps314
  go_wp2
  go_ret
  exact ⟨rfl, (Below.refl _ _).alloc (Nat.le_refl _) _⟩

set_option maxHeartbeats 3200000 in
theorem is1_any (a e : Int) (w : World) :
    Calls Tryz.prog 212 #[.iface 282 (.agg #[.int .i64 a, .int .i64 e]), .iface 27 (.int .i64 3), .bool true] w fun en w' => en = .returned (.bool (e == 3)) ∧ Below w.heap.size w w' := by
  have nE := noIsE
  have uE := noUnwrapE
  have vE := noUnwrapsE
  have nW := noIsW
  have uW := hasUnwrapW
  have mU := methodUnwrap
  have heq := eqlErrno e 3
  have hty := run_eql_iface_types (P := Tryz.prog) 282 27 (.agg #[.int .i64 a, .int .i64 e]) (.int .i64 3) Tryz.underlying124 (by decide)
  cases he : (e == 3)
  all_goals
    rw [he] at heq
    go_enter Tryz.func212, Tryz.ntmps212
    go_wp2_with fail
    refine wp_loop_rounds 2 ?_
    rw [rounds_succ]
    go_wp2_with fail
    refine (unwrap_any a e _).mono ?_
    rintro en w1 ⟨rfl, hB1⟩
    go_wp2_with fail
    rw [rounds_succ]
    go_wp2_with fail
    go_ret
    exact ⟨rfl, hB1⟩
set_option maxHeartbeats 3200000 in
theorem is_any (a e : Int) (w : World) :
    Calls Tryz.prog 145 #[.iface 282 (.agg #[.int .i64 a, .int .i64 e]), .iface 27 (.int .i64 3)] w fun en w' => en = .returned (.bool (e == 3)) ∧ Below w.heap.size w w' := by
  have h8 := @run_callFunc_extern Tryz.prog 211 _ Extern.ReflectliteType.typeOf Tryz.func211 (by kernel_rfl) (by kernel_rfl) (by kernel_rfl) (by kernel_rfl)
  obtain ⟨fC, h32, cT⟩ := comparable_run
  have tT := isTypeOf
  have mR := isMethodComparable
  have HI := Lib.hid (fun w => is1_any a e w)
  go_enter Tryz.func145, Tryz.ntmps145
  go_wp2_with fail
  refine (HI.out _).mono ?_
  rintro en w1 ⟨rfl, hB1⟩
  go_wp2_with fail
  go_ret
  exact ⟨rfl, hB1⟩
end Go.Proofs.YtchbnkepmeelkaaGreatDoor.Lx
/- errors.As of a place that is wrong. -/
namespace Go.Proofs.YtchbnkepmeelkaaGreatDoor.Lx
open Go.RowKit Go.Extern.Stop Go.Stop Go.Extern

theorem valueOfP (t : Addr) (w : World) : (ReflectliteValue.unpack (.iface 289 (.pointer (some t)))).run Tryz.prog w
    = .ok (.agg #[.pointer (some ⟨7, 289, none⟩), .pointer (some ⟨w.heap.size, 0, none⟩), .int .u64 150]) (w.alloc (.cells #[.pointer (some t)] 289)) := by kernel_rfl
theorem typeP (a : Addr) (w : World) : (ReflectliteValue.methodAny (ReflectliteValue.valueError "reflectlite.Value.Type" 0) (fun t _ _ _ => ReflectliteType.toType t) #[.agg #[.pointer (some ⟨7, 289, none⟩), .pointer (some a), .int .u64 150]]).run Tryz.prog w
    = .ok (.iface 266 (.agg #[.pointer (some ⟨7, 289, none⟩)])) w := by kernel_rfl
theorem methodKind (h : Value) (w : World) : (Go.method 448 266 (.agg #[h]) "Kind").run Tryz.prog w = .ok (292, h) w := by kernel_rfl
theorem kindP (w : World) : ((ReflectliteType.abiMethod fun t => (fun a : Nat => Value.int IntKind.u8 (a : Int)) <$> Rtype.kind t) #[.pointer (some ⟨7, 289, none⟩)]).run Tryz.prog w = .ok (.int .u8 22) w := by kernel_rfl
theorem kindS (w : World) : ((ReflectliteType.abiMethod fun t => (fun a : Nat => Value.int IntKind.u8 (a : Int)) <$> Rtype.kind t) #[.pointer (some ⟨7, 282, none⟩)]).run Tryz.prog w = .ok (.int .u8 25) w := by kernel_rfl
theorem rlm (z : Sem Value) (f : TypeId → Addr → Nat → Nat → Sem Value) (v : Value) :
    ReflectliteValue.method z f #[v] = (do match ← ReflectliteValue.parts v with | none => z | some (t, a, fl) => f t a fl (fl % 32)) := rfl
theorem partsP (a : Addr) (w : World) : (ReflectliteValue.parts (.agg #[.pointer (some ⟨7, 289, none⟩), .pointer (some a), .int .u64 150])).run Tryz.prog w = .ok (some (289, a, 150)) w := by kernel_rfl
theorem isNilP (a p : Addr) (W : World) (ha : W.cell? a = some (.pointer (some p))) :
    (ReflectliteValue.method (ReflectliteValue.valueError "reflectlite.Value.IsNil" 0) ReflectliteValue.isNil #[.agg #[.pointer (some ⟨7, 289, none⟩), .pointer (some a), .int .u64 150]]).run Tryz.prog W = .ok (.bool false) W := by
  rw [rlm]
  simp only [Sem.run_bind, partsP, Result.andThen]
  simp [ReflectliteValue.isNil, loadVar, isAgg, underlying, Tryz.underlying289, ha, Result.andThen]
theorem methodElem (h : Value) (w : World) : (Go.method 448 266 (.agg #[h]) "Elem").run Tryz.prog w = .ok (305, .agg #[h]) w := by kernel_rfl
theorem methodImplements (h : Value) (w : World) : (Go.method 448 266 (.agg #[h]) "Implements").run Tryz.prog w = .ok (306, .agg #[h]) w := by kernel_rfl
theorem methodAssignableTo (h : Value) (w : World) : (Go.method 448 266 (.agg #[h]) "AssignableTo").run Tryz.prog w = .ok (303, .agg #[h]) w := by kernel_rfl
theorem elemP (w : World) : (ReflectliteType.method ReflectliteType.elem #[.agg #[.pointer (some ⟨7, 289, none⟩)]]).run Tryz.prog w = .ok (.iface 266 (.agg #[.pointer (some ⟨7, 282, none⟩)])) w := by kernel_rfl
theorem implementsS (w : World) : (ReflectliteType.relation "Implements" ReflectliteType.implements_ #[.agg #[.pointer (some ⟨7, 282, none⟩)], .iface 266 (.agg #[.pointer (some ⟨7, 124, none⟩)])]).run Tryz.prog w = .ok (.bool true) w := by kernel_rfl
theorem typeOfS (v : Value) (w : World) : (ReflectliteType.typeOf #[.iface 282 v]).run Tryz.prog w = .ok (.iface 266 (.agg #[.pointer (some ⟨7, 282, none⟩)])) w := by kernel_rfl
theorem assignableS (w : World) : (ReflectliteType.relation "AssignableTo" ReflectliteType.assignableTo #[.agg #[.pointer (some ⟨7, 282, none⟩)], .iface 266 (.agg #[.pointer (some ⟨7, 282, none⟩)])]).run Tryz.prog w = .ok (.bool true) w := by kernel_rfl
theorem valueOfS (a e : Int) (w : World) : (ReflectliteValue.unpack (.iface 282 (.agg #[.int .i64 a, .int .i64 e]))).run Tryz.prog w
    = .ok (.agg #[.pointer (some ⟨7, 282, none⟩), .pointer (some ⟨w.heap.size, 0, none⟩), .int .u64 153]) (w.alloc (.cells #[.int .i64 a, .int .i64 e] 282)) := by kernel_rfl
theorem elemOfP (w : World) : (Rtype.elem? 289).run Tryz.prog w = .ok (some 282) w := by kernel_rfl
theorem mkS (p : Addr) (w : World) : (ReflectliteValue.mk 282 p ReflectliteValue.flagAddr).run Tryz.prog w = .ok (.agg #[.pointer (some ⟨7, 282, none⟩), .pointer (some p), .int .u64 409]) w := by kernel_rfl
theorem elemVP (a p : Addr) (W : World) (ha : W.cell? a = some (.pointer (some p))) :
    (ReflectliteValue.method (ReflectliteValue.valueError "reflectlite.Value.Elem" 0) ReflectliteValue.elem #[.agg #[.pointer (some ⟨7, 289, none⟩), .pointer (some a), .int .u64 150]]).run Tryz.prog W
      = .ok (.agg #[.pointer (some ⟨7, 282, none⟩), .pointer (some p), .int .u64 409]) W := by
  rw [rlm]
  simp only [Sem.run_bind, partsP, Result.andThen]
  simp [ReflectliteValue.elem, loadVar, isAgg, underlying, Tryz.underlying289, ha, Result.andThen, elemOfP, mkS]
theorem rls (v x : Value) : ReflectliteValue.set #[v, x] = (do
    let (some (dst, a, fl), some (src, b, _)) := (← ReflectliteValue.parts v, ← ReflectliteValue.parts x)
      | unsupported (.noEntry "extern/(internal/reflectlite.Value).Set.zeroValue")
    if fl / ReflectliteValue.flagAddr % 2 == 0 then unsupported (.noEntry "extern/(internal/reflectlite.Value).Set.unaddressable")
    let val ← loadVar src b
    if ← Rtype.directlyAssignable dst src then storeVar dst a val
    else if ← Rtype.implements dst src then
      if (← Rtype.kind src) == 20 then
        match val with
        | .nilIface => unsupported (.noEntry "extern/reflectlite: a nil value of one interface type handed on as a value of another")
        | _ => storeVar dst a val
      else storeVar dst a (.iface src val)
    else panicString ("reflectlite.Set: value of type " ++ (← Rtype.spelt src) ++ " is not assignable to type " ++ (← Rtype.spelt dst))
    pure (.tuple #[])) := rfl
theorem partsSa (a : Addr) (w : World) : (ReflectliteValue.parts (.agg #[.pointer (some ⟨7, 282, none⟩), .pointer (some a), .int .u64 409])).run Tryz.prog w = .ok (some (282, a, 409)) w := by kernel_rfl
theorem partsS (a : Addr) (w : World) : (ReflectliteValue.parts (.agg #[.pointer (some ⟨7, 282, none⟩), .pointer (some a), .int .u64 153])).run Tryz.prog w = .ok (some (282, a, 153)) w := by kernel_rfl
theorem directS (w : World) : (Rtype.directlyAssignable 282 282).run Tryz.prog w = .ok true w := by kernel_rfl
theorem setS (tb _ta b : Nat) (a e : Int) (o0 o1 : Value) (W : World) (hb0 : W.cell? ⟨b, 0, none⟩ = some (.int .i64 a)) (hb1 : W.cell? ⟨b, 1, none⟩ = some (.int .i64 e)) (ht0 : W.cell? ⟨tb, 0, none⟩ = some o0) (ht1 : W.cell? ⟨tb, 1, none⟩ = some o1) (hf0 : W.frozen? ⟨tb, 0, none⟩ = false) (hf1 : W.frozen? ⟨tb, 1, none⟩ = false) :
    (ReflectliteValue.set #[.agg #[.pointer (some ⟨7, 282, none⟩), .pointer (some ⟨tb, 0, none⟩), .int .u64 409], .agg #[.pointer (some ⟨7, 282, none⟩), .pointer (some ⟨b, 0, none⟩), .int .u64 153]]).run Tryz.prog W
      = .ok (.tuple #[]) ((W.setCell ⟨tb, 0, none⟩ (.int .i64 a)).setCell ⟨tb, 1, none⟩ (.int .i64 e)) := by
  rw [rls]
  simp only [Sem.run_bind, partsSa, partsS, Result.andThen]
  have q1 := Tryz.sizeOf282
  have q2 := Tryz.isAgg282
  simp [go_sem, ReflectliteValue.flagAddr, loadVar, hb0, hb1, Result.andThen, directS, storeVar, Value.cells, storeCells, Addr.add, ht0, ht1, hf0, hf1, q1, q2]

set_option maxHeartbeats 4000000 in
theorem as_hit (a e : Int) (tb : Nat) (o0 o1 : Value) (w : World) (hG : Glob w) (ht0 : w.cell? ⟨tb, 0, none⟩ = some o0) (ht1 : w.cell? ⟨tb, 1, none⟩ = some o1) (hf0 : w.frozen? ⟨tb, 0, none⟩ = false) (hf1 : w.frozen? ⟨tb, 1, none⟩ = false) :
    Calls Tryz.prog 144 #[.iface 282 (.agg #[.int .i64 a, .int .i64 e]), .iface 289 (.pointer (some ⟨tb, 0, none⟩))] w fun ev w' => ev = .returned (.bool true) ∧ w' = (((((w.alloc (.cells #[.pointer (some ⟨tb, 0, none⟩)] 289)).alloc (.cells #[.pointer (some ⟨7, 289, none⟩), .pointer (some ⟨w.heap.size, 0, none⟩), .int .u64 150] 238)).alloc (.cells #[.pointer (some ⟨7, 289, none⟩), .pointer (some ⟨w.heap.size, 0, none⟩), .int .u64 150] 238)).alloc (.cells #[.int .i64 a, .int .i64 e] 282)).setCell ⟨tb, 0, none⟩ (.int .i64 a)).setCell ⟨tb, 1, none⟩ (.int .i64 e) := by
  obtain ⟨_, _, hg, h3w⟩ := hG
  have h70 := @run_callFunc_extern Tryz.prog 207 _ (fun args => ReflectliteValue.unpack (args.getD 0 (.tuple #[]))) Tryz.func207 (by kernel_rfl) (by kernel_rfl) (by kernel_rfl) (by kernel_rfl)
  have h71 := @run_callFunc_extern Tryz.prog 208 _ (ReflectliteValue.methodAny (ReflectliteValue.valueError "reflectlite.Value.Type" 0) (fun t _ _ _ => ReflectliteType.toType t)) Tryz.func208 (by kernel_rfl) (by kernel_rfl) (by kernel_rfl) (by kernel_rfl)
  have h72 := @run_callFunc_extern Tryz.prog 209 _ (ReflectliteValue.method (ReflectliteValue.valueError "reflectlite.Value.IsNil" 0) ReflectliteValue.isNil) Tryz.func209 (by kernel_rfl) (by kernel_rfl) (by kernel_rfl) (by kernel_rfl)
  have hK := @run_callFunc_extern Tryz.prog 292 _ (ReflectliteType.abiMethod fun t => do pure (.int .u8 (← Rtype.kind t))) Tryz.func292 (by kernel_rfl) (by kernel_rfl) (by kernel_rfl) (by kernel_rfl)
  have hE := @run_callFunc_extern Tryz.prog 305 _ (ReflectliteType.method ReflectliteType.elem) Tryz.func305 (by kernel_rfl) (by kernel_rfl) (by kernel_rfl) (by kernel_rfl)
  have hI := @run_callFunc_extern Tryz.prog 306 _ (ReflectliteType.relation "Implements" ReflectliteType.implements_) Tryz.func306 (by kernel_rfl) (by kernel_rfl) (by kernel_rfl) (by kernel_rfl)
  have h68 := @run_callFunc_extern Tryz.prog 211 _ ReflectliteType.typeOf Tryz.func211 (by kernel_rfl) (by kernel_rfl) (by kernel_rfl) (by kernel_rfl)
  have hA := @run_callFunc_extern Tryz.prog 303 _ (ReflectliteType.relation "AssignableTo" ReflectliteType.assignableTo) Tryz.func303 (by kernel_rfl) (by kernel_rfl) (by kernel_rfl) (by kernel_rfl)
  have h83 := @run_callFunc_extern Tryz.prog 239 _ (ReflectliteValue.method (ReflectliteValue.valueError "reflectlite.Value.Elem" 0) ReflectliteValue.elem) Tryz.func239 (by kernel_rfl) (by kernel_rfl) (by kernel_rfl) (by kernel_rfl)
  have h84 := @run_callFunc_extern Tryz.prog 240 _ ReflectliteValue.set Tryz.func240 (by kernel_rfl) (by kernel_rfl) (by kernel_rfl) (by kernel_rfl)
  have tO := typeOfS
  have mA := methodAssignableTo
  have aS := assignableS
  have vS := valueOfS
  have f6 := valueOfP
  have f7 := typeP
  have mK := methodKind
  have mE := methodElem
  have mI := methodImplements
  have kP := kindP
  have kS := kindS
  have eP := elemP
  have iS := implementsS
  have n8 := isNilP ⟨w.heap.size, 0, none⟩ ⟨tb, 0, none⟩ ((w.alloc (.cells #[.pointer (some ⟨tb, 0, none⟩)] 289)).alloc (.cells #[.pointer (some ⟨7, 289, none⟩), .pointer (some ⟨w.heap.size, 0, none⟩), .int .u64 150] 238)) (by simp)
  have hlt : 0 < w.heap.size := by omega
  have hg2 : ((w.alloc (.cells #[.pointer (some ⟨tb, 0, none⟩)] 289)).alloc (.cells #[.pointer (some ⟨7, 289, none⟩), .pointer (some ⟨w.heap.size, 0, none⟩), .int .u64 150] 238)).cell? ⟨0, 0, none⟩ = some (.iface 266 (.agg #[.pointer (some ⟨7, 124, none⟩)])) := by
    rw [World.cell?_alloc_lt _ _ ⟨0, 0, none⟩ (by simp), World.cell?_alloc_lt _ _ ⟨0, 0, none⟩ hlt]; exact hg
  have htl : tb < w.heap.size := World.block_lt_of_cell? w _ ht0
  have el := elemVP ⟨w.heap.size, 0, none⟩ ⟨tb, 0, none⟩ (((w.alloc (.cells #[.pointer (some ⟨tb, 0, none⟩)] 289)).alloc (.cells #[.pointer (some ⟨7, 289, none⟩), .pointer (some ⟨w.heap.size, 0, none⟩), .int .u64 150] 238)).alloc (.cells #[.pointer (some ⟨7, 289, none⟩), .pointer (some ⟨w.heap.size, 0, none⟩), .int .u64 150] 238)) (by rw [World.cell?_alloc_lt _ _ ⟨w.heap.size, 0, none⟩ (by simp; omega)]; simp)
  have s0 : ((((w.alloc (.cells #[.pointer (some ⟨tb, 0, none⟩)] 289)).alloc (.cells #[.pointer (some ⟨7, 289, none⟩), .pointer (some ⟨w.heap.size, 0, none⟩), .int .u64 150] 238)).alloc (.cells #[.pointer (some ⟨7, 289, none⟩), .pointer (some ⟨w.heap.size, 0, none⟩), .int .u64 150] 238)).alloc (.cells #[.int .i64 a, .int .i64 e] 282)).cell? ⟨tb, 0, none⟩ = some o0 := by rw [World.cell?_alloc_lt _ _ ⟨tb, 0, none⟩ (by simp; omega), World.cell?_alloc_lt _ _ ⟨tb, 0, none⟩ (by simp; omega), World.cell?_alloc_lt _ _ ⟨tb, 0, none⟩ (by simp; omega), World.cell?_alloc_lt _ _ ⟨tb, 0, none⟩ htl]; exact ht0
  have s1 : ((((w.alloc (.cells #[.pointer (some ⟨tb, 0, none⟩)] 289)).alloc (.cells #[.pointer (some ⟨7, 289, none⟩), .pointer (some ⟨w.heap.size, 0, none⟩), .int .u64 150] 238)).alloc (.cells #[.pointer (some ⟨7, 289, none⟩), .pointer (some ⟨w.heap.size, 0, none⟩), .int .u64 150] 238)).alloc (.cells #[.int .i64 a, .int .i64 e] 282)).cell? ⟨tb, 1, none⟩ = some o1 := by rw [World.cell?_alloc_lt _ _ ⟨tb, 1, none⟩ (by simp; omega), World.cell?_alloc_lt _ _ ⟨tb, 1, none⟩ (by simp; omega), World.cell?_alloc_lt _ _ ⟨tb, 1, none⟩ (by simp; omega), World.cell?_alloc_lt _ _ ⟨tb, 1, none⟩ htl]; exact ht1
  have z0 : ((((w.alloc (.cells #[.pointer (some ⟨tb, 0, none⟩)] 289)).alloc (.cells #[.pointer (some ⟨7, 289, none⟩), .pointer (some ⟨w.heap.size, 0, none⟩), .int .u64 150] 238)).alloc (.cells #[.pointer (some ⟨7, 289, none⟩), .pointer (some ⟨w.heap.size, 0, none⟩), .int .u64 150] 238)).alloc (.cells #[.int .i64 a, .int .i64 e] 282)).frozen? ⟨tb, 0, none⟩ = false := by rw [World.frozen?_alloc_old _ _ ⟨tb, 0, none⟩ (by simp; omega), World.frozen?_alloc_old _ _ ⟨tb, 0, none⟩ (by simp; omega), World.frozen?_alloc_old _ _ ⟨tb, 0, none⟩ (by simp; omega), World.frozen?_alloc_old _ _ ⟨tb, 0, none⟩ (Nat.ne_of_lt htl)]; exact hf0
  have z1 : ((((w.alloc (.cells #[.pointer (some ⟨tb, 0, none⟩)] 289)).alloc (.cells #[.pointer (some ⟨7, 289, none⟩), .pointer (some ⟨w.heap.size, 0, none⟩), .int .u64 150] 238)).alloc (.cells #[.pointer (some ⟨7, 289, none⟩), .pointer (some ⟨w.heap.size, 0, none⟩), .int .u64 150] 238)).alloc (.cells #[.int .i64 a, .int .i64 e] 282)).frozen? ⟨tb, 1, none⟩ = false := by rw [World.frozen?_alloc_old _ _ ⟨tb, 1, none⟩ (by simp; omega), World.frozen?_alloc_old _ _ ⟨tb, 1, none⟩ (by simp; omega), World.frozen?_alloc_old _ _ ⟨tb, 1, none⟩ (by simp; omega), World.frozen?_alloc_old _ _ ⟨tb, 1, none⟩ (Nat.ne_of_lt htl)]; exact hf1
  have st := setS tb 0 (w.heap.size + 1 + 1 + 1) a e o0 o1 ((((w.alloc (.cells #[.pointer (some ⟨tb, 0, none⟩)] 289)).alloc (.cells #[.pointer (some ⟨7, 289, none⟩), .pointer (some ⟨w.heap.size, 0, none⟩), .int .u64 150] 238)).alloc (.cells #[.pointer (some ⟨7, 289, none⟩), .pointer (some ⟨w.heap.size, 0, none⟩), .int .u64 150] 238)).alloc (.cells #[.int .i64 a, .int .i64 e] 282)) (by rw [World.cell?_alloc_at _ _ _ _ (by simp)]; rfl) (by rw [World.cell?_alloc_at _ _ _ _ (by simp)]; rfl) s0 s1 z0 z1
  go_enter Tryz.func144, Tryz.ntmps144
  go_wp2
  refine wp_loop_rounds 1 ?_
  rw [rounds_succ]
  go_wp2
  go_ret
  exact ⟨rfl, rfl⟩
end Go.Proofs.YtchbnkepmeelkaaGreatDoor.Lx
