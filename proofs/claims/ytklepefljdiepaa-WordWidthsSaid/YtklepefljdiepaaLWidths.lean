/- For every input that law WordWidths may be handed, it returns true and leaves its arguments as they were. Conditions: none. -/
import Derived.Test.YtklepefljdiepaaRows
import Derived.Test.YtklepefljdiepaaFL
import Derived.WalkKit
import Derived.ProofKit
import Derived.OpenShut
import Derived.Test.YtklepefljdiepaaA1
namespace Go.Proofs.Ytklepefljdiepaa.wordWidths
open Go.ChangeShapes Go.WideShapes Go.ChangeAt Go.RowKit
set_option linter.unusedVariables false

theorem own : ownKnob Try.prog.godebug = none := by kernel_rfl

set_option maxHeartbeats 1000000 in
theorem walk (a0 : Int) (w0 : (Lit.int .i64 a0).wf = true) (a1 : Int) (w1 : (Lit.int .i64 a1).wf = true) (a2 : Int) (w2 : (Lit.int .u64 a2).wf = true) (a3 : Int) (w3 : (Lit.int .u64 a3).wf = true) (c4 z4 s4 o4 q4 : Bool) (w : World) :
    Calls Try.prog 10 #[.int .i64 a0, .int .i64 a1, .int .u64 a2, .int .u64 a3, .agg #[.bool c4, .bool z4, .bool s4, .bool o4, .bool q4]] w fun e w' => e = .returned (.bool true) ∧ Below w.heap.size w w' := by
  have hb2 : 0 ≤ a2 ∧ a2 < 18446744073709551616 := by simp [Lit.wf, IntKind.bits, IntKind.signed, IntKind.max, IntKind.min] at w2; omega
  have hb3 : 0 ≤ a3 ∧ a3 < 18446744073709551616 := by simp [Lit.wf, IntKind.bits, IntKind.signed, IntKind.max, IntKind.min] at w3; omega
  clear w0 w1 w2 w3
  obtain ⟨a, rfl⟩ := Int.eq_ofNat_of_zero_le hb2.1
  obtain ⟨b, rfl⟩ := Int.eq_ofNat_of_zero_le hb3.1
  clear hb2 hb3
  by_cases ho : a0 < 1 ∨ 8 < a0
  · have d1 := Lib.hid (fun wx => do_bad a0 a1 a b c4 z4 s4 o4 q4 wx (Or.inr ho))
    have d2 := Lib.hid (fun wx => do_bad a0 64 a b c4 z4 s4 o4 q4 wx (Or.inr ho))
    clear ho
    go_enter Try.func10, Try.ntmps10
    go_wp2_with fail
    refine (d1.out _).mono ?_
    rintro e v1 ⟨rfl, hb1⟩
    have hcl := fun o' v (h : (w.alloc (Obj.cells #[Value.bool c4, Value.bool z4, Value.bool s4, Value.bool o4, Value.bool q4] 36)).cell? ⟨w.heap.size, o', none⟩ = some v) => (show v1.cell? ⟨w.heap.size, o', none⟩ = some v by rw [hb1.cell (by simp)]; exact h)
    have hs1 : w.heap.size < v1.heap.size := by have := hb1.size; simp at this; omega
    have r0 := hcl 0 (.bool c4) (by go_simp)
    have r1 := hcl 1 (.bool z4) (by go_simp)
    have r2 := hcl 2 (.bool s4) (by go_simp)
    have r3 := hcl 3 (.bool o4) (by go_simp)
    have r4 := hcl 4 (.bool q4) (by go_simp)
    clear hcl
    go_wp2_with fail
    refine (d2.out _).mono ?_
    rintro e v2 ⟨rfl, hb2⟩
    clear r0 r1 r2 r3 r4
    go_wp2_with (go_at_call 16; refine (num_any _ _).mono ?_; rintro e w' ⟨rfl, rfl⟩)
    refine (known_any _).mono ?_
    rintro e v3 ⟨rfl, hb3⟩
    go_wp2_with fail
    go_ret
    exact ⟨rfl, bthen (bnew (bthen (bnew (bthen (bnew (Below.refl _ _) _) hb1) _) hb2) _) hb3⟩
  · cases hk : isW a1 with
    | false =>
      obtain ⟨op, rfl⟩ := Int.eq_ofNat_of_zero_le (show 0 ≤ a0 by omega)
      have d1 := Lib.hid (fun wx => do_bad op a1 a b c4 z4 s4 o4 q4 wx (Or.inl hk))
      have d2 := Lib.hid (fun wx => do_ok (op := op) (k := 64) (a := a) (b := b) (f := ⟨c4, z4, s4, o4, q4⟩) (by decide) (by omega) (by omega) rfl rfl wx)
      generalize WM.doX op 64 a b c4 = X2 at d2
      generalize WM.doF op 64 a b c4 = F2 at d2
      clear ho hk
      go_enter Try.func10, Try.ntmps10
      go_wp2_with fail
      refine (d1.out _).mono ?_
      rintro e v1 ⟨rfl, hb1⟩
      have hcl := fun o' v (h : (w.alloc (Obj.cells #[Value.bool c4, Value.bool z4, Value.bool s4, Value.bool o4, Value.bool q4] 36)).cell? ⟨w.heap.size, o', none⟩ = some v) => (show v1.cell? ⟨w.heap.size, o', none⟩ = some v by rw [hb1.cell (by simp)]; exact h)
      have hs1 : w.heap.size < v1.heap.size := by have := hb1.size; simp at this; omega
      have r0 := hcl 0 (.bool c4) (by go_simp)
      have r1 := hcl 1 (.bool z4) (by go_simp)
      have r2 := hcl 2 (.bool s4) (by go_simp)
      have r3 := hcl 3 (.bool o4) (by go_simp)
      have r4 := hcl 4 (.bool q4) (by go_simp)
      clear hcl
      go_wp2_with fail
      refine (d2.out _).mono ?_
      rintro e v2 ⟨rfl, hb2⟩
      clear r0 r1 r2 r3 r4
      go_wp2_with (go_at_call 16; refine (num_any _ _).mono ?_; rintro e w' ⟨rfl, rfl⟩)
      refine (known_any _).mono ?_
      rintro e v3 ⟨rfl, hb3⟩
      go_wp2_with fail
      go_ret
      exact ⟨rfl, bthen (bnew (bthen (bnew (bthen (bnew (Below.refl _ _) _) hb1) _) hb2) _) hb3⟩
    | true =>
      obtain ⟨op, rfl⟩ := Int.eq_ofNat_of_zero_le (show 0 ≤ a0 by omega)
      obtain ⟨k, rfl, hk4⟩ := isW_nat hk
      have d1 := Lib.hid (fun wx => do_ok (op := op) (k := k) (a := a) (b := b) (f := ⟨c4, z4, s4, o4, q4⟩) hk (by omega) (by omega) rfl rfl wx)
      have d2 := Lib.hid (fun wx => do_ok (op := op) (k := 64) (a := a) (b := b) (f := ⟨c4, z4, s4, o4, q4⟩) (by decide) (by omega) (by omega) rfl rfl wx)
      have e := WM.width_of64 op a b c4 hk4
      have d3 := Lib.hid (lowE_ok hk e.symm)
      clear e
      generalize WM.doX op k a b c4 = X1 at d1 d3
      generalize WM.doF op k a b c4 = F1 at d1
      generalize WM.doX op 64 a b c4 = X2 at d2 d3
      generalize WM.doF op 64 a b c4 = F2 at d2
      clear ho hk hk4
      go_enter Try.func10, Try.ntmps10
      go_wp2_with fail
      refine (d1.out _).mono ?_
      rintro e v1 ⟨rfl, hb1⟩
      have hcl := fun o' v (h : (w.alloc (Obj.cells #[Value.bool c4, Value.bool z4, Value.bool s4, Value.bool o4, Value.bool q4] 36)).cell? ⟨w.heap.size, o', none⟩ = some v) => (show v1.cell? ⟨w.heap.size, o', none⟩ = some v by rw [hb1.cell (by simp)]; exact h)
      have hs1 : w.heap.size < v1.heap.size := by have := hb1.size; simp at this; omega
      have r0 := hcl 0 (.bool c4) (by go_simp)
      have r1 := hcl 1 (.bool z4) (by go_simp)
      have r2 := hcl 2 (.bool s4) (by go_simp)
      have r3 := hcl 3 (.bool o4) (by go_simp)
      have r4 := hcl 4 (.bool q4) (by go_simp)
      clear hcl
      go_wp2_with fail
      refine (d2.out _).mono ?_
      rintro e v2 ⟨rfl, hb2⟩
      clear r0 r1 r2 r3 r4
      go_wp2_with (go_at_call 16; refine (num_any _ _).mono ?_; rintro e w' ⟨rfl, rfl⟩)
      refine (d3.out _).mono ?_
      rintro e w' ⟨rfl, rfl⟩
      go_wp2_with (go_at_call 16; refine (num_any _ _).mono ?_; rintro e w' ⟨rfl, rfl⟩)
      refine (known_any _).mono ?_
      rintro e v3 ⟨rfl, hb3⟩
      go_wp2_with fail
      go_ret
      exact ⟨rfl, bthen (bnew (bthen (bnew (bthen (bnew (Below.refl _ _) _) hb1) _) hb2) _) hb3⟩
set_option maxRecDepth 100000 in
theorem lifted (os : Os) (started : os.Started) (H : Type) (enc : TypeId × Value → H) :
    ReturnsInHanded {} Try.checked os 10 .any (Rows.wordWidthsSpec.pre6 enc Try.prog Try.f10 Rows.wordWidthsRow.domain false) (Rows.wordWidthsSpec.post enc Try.prog Try.f10 false true false false) := by
  refine returnsInHanded_of_change (C := Try.checked) own started (by kernel_rfl) Try.func10
    (ChangeSpec.witness6 (enc := enc) (C := Try.checked) false ⟨#[], #[.int .i64 0, .int .i64 0, .int .u64 0, .int .u64 0, .agg #[.bool false, .bool false, .bool false, .bool false, .bool false]], []⟩ 8 (by kernel_rfl) (by kernel_rfl) (by kernel_rfl) (by kernel_rfl)) ?_
  intro W base args ds gs before hval0 hW hcnd _
  have hval : ∀ (j : Nat) t v, Try.f10.params[j]? = some t → args[j]? = some v → Value.okWide Try.prog W .any base t v := hval0
  have hW' := hW
  obtain ⟨p, q, hA0, hV, rfl, hfz, hnd⟩ := hW
  have hA : DataW.TrodAll enc Try.prog W 0 (fun _ => true) true Try.f10.params.toList args.toList ds p := hA0
  rw [Try.params10] at hA hval
  obtain ⟨v0, vs0, d0, ds0, p0, k0, hargs, rfl, rfl, h0, r0⟩ := trodAll_cons hA
  obtain ⟨v1, vs1, d1, ds1, p1, k1, rfl, rfl, rfl, h1, r1⟩ := trodAll_cons r0
  obtain ⟨v2, vs2, d2, ds2, p2, k2, rfl, rfl, rfl, h2, r2⟩ := trodAll_cons r1
  obtain ⟨v3, vs3, d3, ds3, p3, k3, rfl, rfl, rfl, h3, r3⟩ := trodAll_cons r2
  obtain ⟨v4, vs4, d4, ds4, p4, k4, rfl, rfl, rfl, h4, r4⟩ := trodAll_cons r3
  obtain ⟨rfl, rfl, rfl⟩ := trodAll_nil r4
  obtain rfl : args = #[v0, v1, v2, v3, v4] := by cases args; simp_all
  obtain ⟨rfl, rfl⟩ := trodVars_none hV
  obtain ⟨a0, rfl, rfl, rfl, w0⟩ := open_int Try.underlying3 (hval 0 3 v0 rfl rfl) h0
  obtain ⟨a1, rfl, rfl, rfl, w1⟩ := open_int Try.underlying3 (hval 1 3 v1 rfl rfl) h1
  obtain ⟨a2, rfl, rfl, rfl, w2⟩ := open_int Try.underlying26 (hval 2 26 v2 rfl rfl) h2
  obtain ⟨a3, rfl, rfl, rfl, w3⟩ := open_int Try.underlying26 (hval 3 26 v3 rfl rfl) h3
  obtain ⟨c4, z4, s4, o4, q4, rfl, rfl, rfl⟩ := open_flags (hval 4 36 v4 rfl rfl) h4
  clear hA0 hval0
  simp only [List.append_nil] at hW'
  refine (walk a0 w0 a1 w1 a2 w2 a3 w3 c4 z4 s4 o4 q4 W).mono fun e W' ⟨he, hg⟩ => ?_
  subst he
  exact ⟨_, rfl, _, _, _, [], [], [], hW', (trodAll_cons_mk (shut_bool Try.underlying4 _) trodAll_mk0), (trodAll_cons_mk (shut_int Try.underlying3 w0) (trodAll_cons_mk (shut_int Try.underlying3 w1) (trodAll_cons_mk (shut_int Try.underlying26 w2) (trodAll_cons_mk (shut_int Try.underlying26 w3) (trodAll_cons_mk (shut_flags _ _ _ _ _) trodAll_mk0))))), rfl, hg.frame _, fun h => by cases h⟩

theorem over : Rows.wordWidthsRow.holds Try.pinned (OpenSpec.ofChange Rows.wordWidthsSpec) :=
  OpenClaim.holds_of_wide 10 Try.f10 rfl rfl rfl rfl rfl rfl rfl ⟨rfl, rfl, rfl, rfl, rfl⟩ rfl rfl rfl rfl rfl (by kernel_rfl) Try.func10 (by kernel_rfl)
    (of_decide_eq_true (by kernel_rfl)) (by unfold Func.isWrapper; first | (rw [if_pos (by decide +kernel)]; kernel_rfl) | (rw [if_neg (by decide +kernel)]; exact ⟨rfl, rfl⟩))
    (fun os started H enc _ => lifted os started H enc)

theorem proved : Rows.WordWidthsSaid :=
  over
end Go.Proofs.Ytklepefljdiepaa.wordWidths
