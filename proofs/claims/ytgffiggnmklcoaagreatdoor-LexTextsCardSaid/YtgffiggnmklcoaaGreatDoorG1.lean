/- errors.Is of a place that is wrong. -/
import Derived.Test.YtgffiggnmklcoaaGreatDoorF3
import Derived.LaidEql
import Derived.Outline
import Derived.Stop.Asserts
import Derived.RowKitTokens
namespace Go.Proofs.YtgffiggnmklcoaaGreatDoor
open Go.RowKit Go.Extern.Stop Go.Stop Go.Extern

theorem isTypeOf (v : Value) (w : World) : (Extern.ReflectliteType.typeOf #[.iface 24 v]).run Tryz.prog w = .ok (.iface 118 (.agg #[.pointer (some ⟨7, 24, none⟩)])) w := by kernel_rfl
theorem comparable_run : ∃ f : Array Value → Sem Value, (∀ (args : Array Value) (w : World), (callFunc 138 args).run Tryz.prog w = ((f args).run Tryz.prog w).andThen fun v w' => .ok (.value v) w') ∧
    ∀ w : World, (f #[.agg #[.pointer (some ⟨7, 24, none⟩)]]).run Tryz.prog w = .ok (.bool true) w :=
  ⟨Extern.ReflectliteType.method fun t => do Rtype.noPackHeld "Comparable" t; pure (.bool (← typeInfo t).comparable),
    @run_callFunc_extern Tryz.prog 138 _ _ Tryz.func138 (by kernel_rfl) (by kernel_rfl) (by kernel_rfl) (by kernel_rfl), fun w => by kernel_rfl⟩
theorem isMethodComparable (v : Value) (w : World) : (Go.method 288 118 v "Comparable").run Tryz.prog w = .ok (138, v) w := by kernel_rfl
theorem noIsE (v : Value) (xT : TypeId) (w : World) : (Instr.typeAssert (.iface 24 v) xT 120 true).run Tryz.prog w = .ok (.tuple #[.nilIface, .bool false]) w := run_typeAssert_lacksB Tryz.underlying120 (by kernel_rfl) (by kernel_rfl) v xT w
theorem noUnwrapE (v : Value) (xT : TypeId) (w : World) : (Instr.typeAssert (.iface 24 v) xT 123 true).run Tryz.prog w = .ok (.tuple #[.nilIface, .bool false]) w := run_typeAssert_lacksB Tryz.underlying123 (by kernel_rfl) (by kernel_rfl) v xT w
theorem noUnwrapsE (v : Value) (xT : TypeId) (w : World) : (Instr.typeAssert (.iface 24 v) xT 125 true).run Tryz.prog w = .ok (.tuple #[.nilIface, .bool false]) w := run_typeAssert_lacksB Tryz.underlying125 (by kernel_rfl) (by kernel_rfl) v xT w
theorem noIsW (v : Value) (xT : TypeId) (w : World) : (Instr.typeAssert (.iface 75 v) xT 120 true).run Tryz.prog w = .ok (.tuple #[.nilIface, .bool false]) w := run_typeAssert_lacksB Tryz.underlying120 (by kernel_rfl) (by kernel_rfl) v xT w
theorem hasUnwrapW (v : Value) (xT : TypeId) (w : World) : (Instr.typeAssert (.iface 75 v) xT 123 true).run Tryz.prog w = .ok (.tuple #[.iface 75 v, .bool true]) w := run_typeAssert_hasB Tryz.underlying123 (by kernel_rfl) v xT w
theorem methodUnwrap (v : Value) (w : World) : (Go.method 288 75 v "Unwrap").run Tryz.prog w = .ok (128, v) w := by kernel_rfl
theorem run_equalIn_iface_int {P : Program} (w : World) (d : Nat) {ti tn : TypeId} {ms : Array (String × TypeId)} {i : TypeInfo} {k : IntKind} (a b : Int)
    (hi : P.underlying ti = some (.interface ms)) (hn : P.underlying tn = some (.int k)) (hinfo : P.info? tn = some i) (hcomp : i.comparable = true) :
    (Op.equalIn (d + 2) ti (.iface tn (.int k a)) (.iface tn (.int k b))).run P w = .ok (a == b) w := by
  simp [Op.equalIn, run_underlying hi, run_underlying hn, typeInfo, hinfo, hcomp]
theorem compErrno : (Tryz.prog.info? 24).map (·.comparable) = some true := by kernel_rfl
theorem eqlErrno (x y : Int) (w : World) : (binOp .eql 59 (.iface 24 (.int .i64 x)) (.iface 24 (.int .i64 y))).run Tryz.prog w = .ok (.bool (x == y)) w := by
  obtain ⟨i, hi, hcmp⟩ := Option.map_eq_some_iff.1 compErrno
  simp only [binOp]
  simp [Op.equal, Op.maxDepth, run_equalIn_iface_int w 9998 x y Tryz.underlying59 Tryz.underlying24 hi hcmp]

theorem unwrap_any (a e : Int) (w : World) : Calls Tryz.prog 128 #[.agg #[.int .i64 a, .int .i64 e]] w fun en w' => en = .returned (.iface 24 (.int .i64 e)) ∧ Below w.heap.size w w' := by
  go_enter Tryz.func128, Tryz.ntmps128
  go_wp2
  go_ret
  exact ⟨rfl, (Below.refl _ _).alloc (Nat.le_refl _) _⟩

set_option maxHeartbeats 3200000 in
theorem is1_any (a e : Int) (w : World) :
    Calls Tryz.prog 69 #[.iface 75 (.agg #[.int .i64 a, .int .i64 e]), .iface 24 (.int .i64 3), .bool true] w fun en w' => en = .returned (.bool (e == 3)) ∧ Below w.heap.size w w' := by
  have nE := noIsE
  have uE := noUnwrapE
  have vE := noUnwrapsE
  have nW := noIsW
  have uW := hasUnwrapW
  have mU := methodUnwrap
  have heq := eqlErrno e 3
  have hty := run_eql_iface_types (P := Tryz.prog) 75 24 (.agg #[.int .i64 a, .int .i64 e]) (.int .i64 3) Tryz.underlying59 (by decide)
  cases he : (e == 3)
  all_goals
    rw [he] at heq
    go_enter Tryz.func69, Tryz.ntmps69
    go_wp2_with fail
    refine wp_loop_rounds 2 ?_
    rw [rounds_succ]
    go_wp2_with fail
    refine (unwrap_any a e _).mono ?_
    rintro en w1 ⟨rfl, hB1⟩
    go_wp2_with fail
    rw [rounds_succ]
    go_wp2_with fail
    go_ret
    exact ⟨rfl, hB1⟩
set_option maxHeartbeats 3200000 in
theorem is_any (a e : Int) (w : World) :
    Calls Tryz.prog 55 #[.iface 75 (.agg #[.int .i64 a, .int .i64 e]), .iface 24 (.int .i64 3)] w fun en w' => en = .returned (.bool (e == 3)) ∧ Below w.heap.size w w' := by
  have h8 := @run_callFunc_extern Tryz.prog 68 _ Extern.ReflectliteType.typeOf Tryz.func68 (by kernel_rfl) (by kernel_rfl) (by kernel_rfl) (by kernel_rfl)
  obtain ⟨fC, h32, cT⟩ := comparable_run
  have tT := isTypeOf
  have mR := isMethodComparable
  have HI := Lib.hid (fun w => is1_any a e w)
  go_enter Tryz.func55, Tryz.ntmps55
  go_wp2_with fail
  refine (HI.out _).mono ?_
  rintro en w1 ⟨rfl, hB1⟩
  go_wp2_with fail
  go_ret
  exact ⟨rfl, hB1⟩
end Go.Proofs.YtgffiggnmklcoaaGreatDoor
