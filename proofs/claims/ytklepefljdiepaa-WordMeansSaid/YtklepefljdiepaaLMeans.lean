/- For every input that law WordMeans may be handed, it returns true and leaves its arguments as they were. Conditions: none. -/
import Derived.Test.YtklepefljdiepaaRows
import Derived.WalkKit
import Derived.ProofKit
import Derived.OpenShut
import Derived.Test.YtklepefljdiepaaA1
namespace Go.Proofs.Ytklepefljdiepaa.wordMeans
open Go.ChangeShapes Go.WideShapes Go.ChangeAt Go.RowKit
set_option linter.unusedVariables false

theorem own : ownKnob Try.prog.godebug = none := by kernel_rfl

theorem walk (a0 : Int) (a1 : Int) (a2 : Int) (a3 : Int) (w0 : (Lit.int .u64 a0).wf = true) (w1 : (Lit.int .u64 a1).wf = true) (w2 : (Lit.int .u64 a2).wf = true) (w3 : (Lit.int .u64 a3).wf = true) (w : World) :
    Calls Try.prog 9 #[.int .u64 a0, .int .u64 a1, .int .u64 a2, .int .u64 a3] w fun e w' => e = .returned (.bool true) ∧ Below w.heap.size w w' := by
  have hb0 : 0 ≤ a0 ∧ a0 < 18446744073709551616 := by simp [Lit.wf, IntKind.bits, IntKind.signed, IntKind.max, IntKind.min] at w0; omega
  have hb1 : 0 ≤ a1 ∧ a1 < 18446744073709551616 := by simp [Lit.wf, IntKind.bits, IntKind.signed, IntKind.max, IntKind.min] at w1; omega
  have hb2 : 0 ≤ a2 ∧ a2 < 18446744073709551616 := by simp [Lit.wf, IntKind.bits, IntKind.signed, IntKind.max, IntKind.min] at w2; omega
  have hb3 : 0 ≤ a3 ∧ a3 < 18446744073709551616 := by simp [Lit.wf, IntKind.bits, IntKind.signed, IntKind.max, IntKind.min] at w3; omega
  clear w0 w1 w2 w3
  obtain ⟨a, rfl⟩ := Int.eq_ofNat_of_zero_le hb0.1
  obtain ⟨b, rfl⟩ := Int.eq_ofNat_of_zero_le hb1.1
  obtain ⟨c, rfl⟩ := Int.eq_ofNat_of_zero_le hb2.1
  obtain ⟨d, rfl⟩ := Int.eq_ofNat_of_zero_le hb3.1
  have ha : a < 18446744073709551616 := by omega
  have hb : b < 18446744073709551616 := by omega
  have hc : c < 18446744073709551616 := by omega
  have hd : d < 18446744073709551616 := by omega
  clear hb0 hb1 hb2 hb3
  obtain ⟨X0, hX0⟩ : ∃ X, WM.doX 3 64 a b false = X := ⟨_, rfl⟩
  obtain ⟨F0, hF0⟩ : ∃ F, WM.doF 3 64 a b false = F := ⟨_, rfl⟩
  have tE : ((a : Int) == (b : Int)) = WM.holds 4 F0 := by
    have := WM.cmp_same a b ha hb
    rw [hF0] at this
    show _ = (F0.z != false)
    rw [this, Bool.bne_false, Bool.eq_iff_iff]; simp only [beq_iff_eq]; omega
  have tB : decide (a < b) = WM.holds 2 F0 := by
    have := WM.cmp_below a b ha hb
    rw [hF0] at this
    show _ = (F0.c != false)
    rw [this, Bool.bne_false]
  have tL : decide (wrap64 (a : Int) < wrap64 (b : Int)) = WM.holds 12 F0 := by
    have := WM.cmp_less a b ha hb
    rw [hF0] at this
    show _ = ((F0.s != F0.o) != false)
    rw [this, Bool.bne_false]
  obtain ⟨SE, hSE⟩ : ∃ S, WM.holds 4 F0 = S := ⟨_, rfl⟩
  obtain ⟨SB, hSB⟩ : ∃ S, WM.holds 2 F0 = S := ⟨_, rfl⟩
  obtain ⟨SL, hSL⟩ : ∃ S, WM.holds 12 F0 = S := ⟨_, rfl⟩
  rw [hSE] at tE
  rw [hSB] at tB
  rw [hSL] at tL
  have c31a := Lib.hid (holds_ok (c := 4) (by decide) hSE)
  have c31b := Lib.hid (holds_ok (c := 2) (by decide) hSB)
  have c31c := Lib.hid (holds_ok (c := 12) (by decide) hSL)
  clear hSE hSB hSL
  obtain ⟨X1, hX1⟩ : ∃ X, WM.doX 1 64 a b false = X := ⟨_, rfl⟩
  obtain ⟨F1, hF1⟩ : ∃ F, WM.doF 1 64 a b false = F := ⟨_, rfl⟩
  obtain ⟨X2, hX2⟩ : ∃ X, WM.doX 2 64 c d F1.c = X := ⟨_, rfl⟩
  obtain ⟨F2, hF2⟩ : ∃ F, WM.doF 2 64 c d F1.c = F := ⟨_, rfl⟩
  have eX1 : X1 = (a + b) % 18446744073709551616 := by rw [← hX1, WM.sum_low a b ha hb]
  have eC : F1.c = decide (18446744073709551616 ≤ a + b) := by rw [← hF1, WM.sum_carry a b ha hb]
  have eX2 : X2 = (c + d + WM.one F1.c) % 18446744073709551616 := by rw [← hX2, WM.sum_high c d _ hc hd]
  have wS : IntKind.u64.wrap ((a : Int) + (b : Int)) = (X1 : Int) := by rw [IntKind.wrap_u64, eX1]; omega
  obtain ⟨Y, hY⟩ : ∃ Y, (c + d) % 18446744073709551616 = Y := ⟨_, rfl⟩
  have wY : IntKind.u64.wrap ((c : Int) + (d : Int)) = (Y : Int) := by rw [IntKind.wrap_u64, ← hY]; omega
  have hY1 : Y < 18446744073709551616 := by omega
  obtain ⟨R, hR⟩ : ∃ R, WM.ev 15 a b 0 = R := ⟨_, rfl⟩
  have eR : R = WM.rotl a (b % 64) := by rw [← hR]; simp [WM.ev]
  have hR1 : R < 18446744073709551616 := by rw [eR]; exact WM.rotl_lt _ _ ha
  have bk1 : WM.ev 15 R (64 - b % 64) 0 = a := by
    rw [show WM.ev 15 R (64 - b % 64) 0 = WM.rotl R ((64 - b % 64) % 64) from by simp [WM.ev], eR]; exact WM.rotl_back ha
  have bk2 : WM.ev 16 R b 0 = a := by
    rw [show WM.ev 16 R b 0 = WM.rotl R ((64 - b % 64) % 64) from by simp [WM.ev], eR]; exact WM.rotl_back ha
  have c28 := Lib.hid (do_ok (op := 3) (k := 64) (f := ⟨false, false, false, false, false⟩) (by decide) (by decide) (by decide) hX0 hF0)
  have c28a := Lib.hid (do_ok (op := 1) (k := 64) (f := ⟨false, false, false, false, false⟩) (by decide) (by decide) (by decide) hX1 hF1)
  have c28b := Lib.hid (do_ok (op := 2) (k := 64) (f := F1) (by decide) (by decide) (by decide) hX2 hF2)
  have EV1 := Lib.hid hR
  have EV2 := Lib.hid bk1
  have EV3 := Lib.hid bk2
  have HA := Lib.hid ha
  have HB := Lib.hid hb
  have HR := Lib.hid hR1
  have e64 : ((64 : Int) - (b : Int) % 64) = ((64 - b % 64 : Nat) : Int) := by omega
  have E64 := Lib.hid e64
  clear e64
  have key : (X1 < a ∧ F1.c = true ∧ X2 = (Y + 1) % 18446744073709551616) ∨ (¬ X1 < a ∧ F1.c = false ∧ X2 = Y) := by
    by_cases h : 18446744073709551616 ≤ a + b
    · left
      rw [decide_eq_true h] at eC
      rw [eC] at eX2
      refine ⟨by omega, eC, ?_⟩
      rw [eX2]; simp only [WM.one, if_true]; omega
    · right
      rw [decide_eq_false h] at eC
      rw [eC] at eX2
      refine ⟨by omega, eC, ?_⟩
      rw [eX2]; simp [WM.one]; omega
  clear hX0 hF0 hX1 hF1 hX2 hF2 eX1 eC eX2 hY hR eR hR1 bk1 bk2 hc hd ha hb
  rcases key with ⟨k1, k2, k3⟩ | ⟨k1, k2, k3⟩
  · have t1 : decide (X1 < a) = true := decide_eq_true k1
    have wX : IntKind.u64.wrap ((Y : Int) + 1) = (X2 : Int) := by rw [IntKind.wrap_u64, k3]; omega
    clear k1 k2 k3
    go_enter Try.func9, Try.ntmps9
    go_wp2_with fail
    refine (known_any _).mono ?_
    rintro e v1 ⟨rfl, hb1⟩
    go_wp2_with fail
    refine (c28.out _).mono ?_
    rintro e v2 ⟨rfl, hb2⟩
    go_wp2_with fail
    refine (c31a.out _).mono ?_
    rintro e v3 ⟨rfl, hb3⟩
    have hcl := fun o' v (h : (v2.alloc (Obj.cells #[Value.bool F0.c, Value.bool F0.z, Value.bool F0.s, Value.bool F0.o, Value.bool F0.p] 36)).cell? ⟨v2.heap.size, o', none⟩ = some v) => (show v3.cell? ⟨v2.heap.size, o', none⟩ = some v by rw [hb3.cell (by simp)]; exact h)
    have r0 := hcl 0 (.bool F0.c) (by go_simp)
    have r1 := hcl 1 (.bool F0.z) (by go_simp)
    have r2 := hcl 2 (.bool F0.s) (by go_simp)
    have r3 := hcl 3 (.bool F0.o) (by go_simp)
    have r4 := hcl 4 (.bool F0.p) (by go_simp)
    clear hcl
    go_wp2_with fail
    refine (c31b.out _).mono ?_
    rintro e v4 ⟨rfl, hb4⟩
    have hs3 : v2.heap.size < v3.heap.size := by have := hb3.size; simp at this; omega
    have r0 := (hb4.cell (p := ⟨v2.heap.size, 0, none⟩) hs3).trans r0
    have r1 := (hb4.cell (p := ⟨v2.heap.size, 1, none⟩) hs3).trans r1
    have r2 := (hb4.cell (p := ⟨v2.heap.size, 2, none⟩) hs3).trans r2
    have r3 := (hb4.cell (p := ⟨v2.heap.size, 3, none⟩) hs3).trans r3
    have r4 := (hb4.cell (p := ⟨v2.heap.size, 4, none⟩) hs3).trans r4
    go_wp2_with fail
    refine (c31c.out _).mono ?_
    rintro e v5 ⟨rfl, hb5⟩
    clear r0 r1 r2 r3 r4
    go_wp2_with (go_at_call 16; refine (num_any _ _).mono ?_; rintro e w' ⟨rfl, rfl⟩)
    refine (c28a.out _).mono ?_
    rintro e v6 ⟨rfl, hb6⟩
    go_wp2_with fail
    refine (c28b.out _).mono ?_
    rintro e v7 ⟨rfl, hb7⟩
    go_wp2_with fail
    refine (eval_any 15 2 _ _ _ _ a b 0 _ rfl (by decide) HA.out HB.out EV1.out (by simp) (by go_simp) (fun _ => by go_simp) (fun h => by omega)).mono ?_
    rintro e v8 ⟨rfl, hb8⟩
    go_wp2_with fail
    rw [E64.out]
    refine (eval_any 15 2 _ _ _ _ R (64 - b % 64) 0 _ rfl (by decide) HR.out (by omega) EV2.out (by simp) (by go_simp) (fun _ => by go_simp) (fun h => by omega)).mono ?_
    rintro e v9 ⟨rfl, hb9⟩
    go_wp2_with fail
    refine (eval_any 16 2 _ _ _ _ R b 0 _ rfl (by decide) HR.out HB.out EV3.out (by simp) (by go_simp) (fun _ => by go_simp) (fun h => by omega)).mono ?_
    rintro e v10 ⟨rfl, hb10⟩
    go_wp2_with fail
    go_ret
    exact ⟨rfl, bthen (bnew (bthen (bnew (bthen (bnew (bnew (bthen (bnew (bthen (bthen (bthen (bthen (bnew (bthen hb1 hb2) _) hb3) hb4) hb5) hb6) _) hb7) _) _) hb8) _) hb9) _) hb10⟩
  · have t1 : decide (X1 < a) = false := decide_eq_false k1
    subst k3
    clear k1 k2
    go_enter Try.func9, Try.ntmps9
    go_wp2_with fail
    refine (known_any _).mono ?_
    rintro e v1 ⟨rfl, hb1⟩
    go_wp2_with fail
    refine (c28.out _).mono ?_
    rintro e v2 ⟨rfl, hb2⟩
    go_wp2_with fail
    refine (c31a.out _).mono ?_
    rintro e v3 ⟨rfl, hb3⟩
    have hcl := fun o' v (h : (v2.alloc (Obj.cells #[Value.bool F0.c, Value.bool F0.z, Value.bool F0.s, Value.bool F0.o, Value.bool F0.p] 36)).cell? ⟨v2.heap.size, o', none⟩ = some v) => (show v3.cell? ⟨v2.heap.size, o', none⟩ = some v by rw [hb3.cell (by simp)]; exact h)
    have r0 := hcl 0 (.bool F0.c) (by go_simp)
    have r1 := hcl 1 (.bool F0.z) (by go_simp)
    have r2 := hcl 2 (.bool F0.s) (by go_simp)
    have r3 := hcl 3 (.bool F0.o) (by go_simp)
    have r4 := hcl 4 (.bool F0.p) (by go_simp)
    clear hcl
    go_wp2_with fail
    refine (c31b.out _).mono ?_
    rintro e v4 ⟨rfl, hb4⟩
    have hs3 : v2.heap.size < v3.heap.size := by have := hb3.size; simp at this; omega
    have r0 := (hb4.cell (p := ⟨v2.heap.size, 0, none⟩) hs3).trans r0
    have r1 := (hb4.cell (p := ⟨v2.heap.size, 1, none⟩) hs3).trans r1
    have r2 := (hb4.cell (p := ⟨v2.heap.size, 2, none⟩) hs3).trans r2
    have r3 := (hb4.cell (p := ⟨v2.heap.size, 3, none⟩) hs3).trans r3
    have r4 := (hb4.cell (p := ⟨v2.heap.size, 4, none⟩) hs3).trans r4
    go_wp2_with fail
    refine (c31c.out _).mono ?_
    rintro e v5 ⟨rfl, hb5⟩
    clear r0 r1 r2 r3 r4
    go_wp2_with (go_at_call 16; refine (num_any _ _).mono ?_; rintro e w' ⟨rfl, rfl⟩)
    refine (c28a.out _).mono ?_
    rintro e v6 ⟨rfl, hb6⟩
    go_wp2_with fail
    refine (c28b.out _).mono ?_
    rintro e v7 ⟨rfl, hb7⟩
    go_wp2_with fail
    refine (eval_any 15 2 _ _ _ _ a b 0 _ rfl (by decide) HA.out HB.out EV1.out (by simp) (by go_simp) (fun _ => by go_simp) (fun h => by omega)).mono ?_
    rintro e v8 ⟨rfl, hb8⟩
    go_wp2_with fail
    rw [E64.out]
    refine (eval_any 15 2 _ _ _ _ R (64 - b % 64) 0 _ rfl (by decide) HR.out (by omega) EV2.out (by simp) (by go_simp) (fun _ => by go_simp) (fun h => by omega)).mono ?_
    rintro e v9 ⟨rfl, hb9⟩
    go_wp2_with fail
    refine (eval_any 16 2 _ _ _ _ R b 0 _ rfl (by decide) HR.out HB.out EV3.out (by simp) (by go_simp) (fun _ => by go_simp) (fun h => by omega)).mono ?_
    rintro e v10 ⟨rfl, hb10⟩
    go_wp2_with fail
    go_ret
    exact ⟨rfl, bthen (bnew (bthen (bnew (bthen (bnew (bnew (bthen (bnew (bthen (bthen (bthen (bthen (bnew (bthen hb1 hb2) _) hb3) hb4) hb5) hb6) _) hb7) _) _) hb8) _) hb9) _) hb10⟩

set_option maxRecDepth 100000 in
theorem lifted (os : Os) (started : os.Started) (H : Type) (enc : TypeId × Value → H) :
    ReturnsInHanded {} Try.checked os 9 .any (Rows.wordMeansSpec.pre6 enc Try.prog Try.f9 Rows.wordMeansRow.domain false) (Rows.wordMeansSpec.post enc Try.prog Try.f9 false true false false) := by
  refine returnsInHanded_of_change (C := Try.checked) own started (by kernel_rfl) Try.func9
    (ChangeSpec.witness6 (enc := enc) (C := Try.checked) false ⟨#[], #[.int .u64 0, .int .u64 0, .int .u64 0, .int .u64 0], []⟩ 8 (by kernel_rfl) (by kernel_rfl) (by kernel_rfl) (by kernel_rfl)) ?_
  intro W base args ds gs before hval0 hW hcnd _
  have hval : ∀ (j : Nat) t v, Try.f9.params[j]? = some t → args[j]? = some v → Value.okWide Try.prog W .any base t v := hval0
  have hW' := hW
  obtain ⟨p, q, hA0, hV, rfl, hfz, hnd⟩ := hW
  have hA : DataW.TrodAll enc Try.prog W 0 (fun _ => true) true Try.f9.params.toList args.toList ds p := hA0
  rw [Try.params9] at hA hval
  obtain ⟨v0, vs0, d0, ds0, p0, q0, hargs, rfl, rfl, h0, r0⟩ := trodAll_cons hA
  obtain ⟨v1, vs1, d1, ds1, p1, q1, rfl, rfl, rfl, h1, r1⟩ := trodAll_cons r0
  obtain ⟨v2, vs2, d2, ds2, p2, q2, rfl, rfl, rfl, h2, r2⟩ := trodAll_cons r1
  obtain ⟨v3, vs3, d3, ds3, p3, q3, rfl, rfl, rfl, h3, r3⟩ := trodAll_cons r2
  obtain ⟨rfl, rfl, rfl⟩ := trodAll_nil r3
  obtain rfl : args = #[v0, v1, v2, v3] := by cases args; simp_all
  obtain ⟨rfl, rfl⟩ := trodVars_none hV
  obtain ⟨a0, rfl, rfl, rfl, w0⟩ := open_int Try.underlying26 (hval 0 26 v0 rfl rfl) h0
  obtain ⟨a1, rfl, rfl, rfl, w1⟩ := open_int Try.underlying26 (hval 1 26 v1 rfl rfl) h1
  obtain ⟨a2, rfl, rfl, rfl, w2⟩ := open_int Try.underlying26 (hval 2 26 v2 rfl rfl) h2
  obtain ⟨a3, rfl, rfl, rfl, w3⟩ := open_int Try.underlying26 (hval 3 26 v3 rfl rfl) h3
  clear hA0 hval0
  simp only [List.append_nil] at hW'
  refine (walk a0 a1 a2 a3 w0 w1 w2 w3 W).mono fun e W' ⟨he, hg⟩ => ?_
  subst he
  exact ⟨_, rfl, _, _, _, [], [], [], hW', (trodAll_cons_mk (shut_bool Try.underlying4 _) trodAll_mk0), (trodAll_cons_mk (shut_int Try.underlying26 w0) (trodAll_cons_mk (shut_int Try.underlying26 w1) (trodAll_cons_mk (shut_int Try.underlying26 w2) (trodAll_cons_mk (shut_int Try.underlying26 w3) trodAll_mk0)))), rfl, hg.frame _, fun h => by cases h⟩

theorem over : Rows.wordMeansRow.holds Try.pinned (OpenSpec.ofChange Rows.wordMeansSpec) :=
  OpenClaim.holds_of_wide 9 Try.f9 rfl rfl rfl rfl rfl rfl rfl ⟨rfl, rfl, rfl, rfl, rfl⟩ rfl rfl rfl rfl rfl (by kernel_rfl) Try.func9 (by kernel_rfl)
    (of_decide_eq_true (by kernel_rfl)) (by unfold Func.isWrapper; first | (rw [if_pos (by decide +kernel)]; kernel_rfl) | (rw [if_neg (by decide +kernel)]; exact ⟨rfl, rfl⟩))
    (fun os started H enc _ => lifted os started H enc)

theorem proved : Rows.WordMeansSaid :=
  over
end Go.Proofs.Ytklepefljdiepaa.wordMeans
