/- For every input that law WordTurns may be handed, it returns true and leaves its arguments as they were. Conditions: none. -/
import Derived.Test.YtklepefljdiepaaRows
import Derived.WalkKit
import Derived.ProofKit
import Derived.OpenShut
import Derived.Test.YtklepefljdiepaaA1
namespace Go.Proofs.Ytklepefljdiepaa.wordTurns
open Go.ChangeShapes Go.WideShapes Go.ChangeAt Go.RowKit
set_option linter.unusedVariables false

theorem own : ownKnob Try.prog.godebug = none := by kernel_rfl

theorem walk (a0 : Int) (a1 : Int) (a2 : Int) (w0 : (Lit.int .i64 a0).wf = true) (w1 : (Lit.int .u64 a1).wf = true) (w2 : (Lit.int .u64 a2).wf = true) (w : World) :
    Calls Try.prog 11 #[.int .i64 a0, .int .u64 a1, .int .u64 a2] w fun e w' => e = .returned (.bool true) ∧ Below w.heap.size w w' := by
  have hb1 : 0 ≤ a1 ∧ a1 < 18446744073709551616 := by simp [Lit.wf, IntKind.bits, IntKind.signed, IntKind.max, IntKind.min] at w1; omega
  have hb2 : 0 ≤ a2 ∧ a2 < 18446744073709551616 := by simp [Lit.wf, IntKind.bits, IntKind.signed, IntKind.max, IntKind.min] at w2; omega
  clear w0 w1 w2
  cases hk : isW a0 with
  | false =>
    go_enter Try.func11, Try.ntmps11
    go_wp2_with fail
    refine (lowE_bad hk hb1.1 _).mono ?_
    rintro e w' ⟨rfl, rfl⟩
    go_wp2_with (first | (go_at_call 16; refine (num_any _ _).mono ?_; rintro e w' ⟨rfl, rfl⟩) | (go_at_call 12; refine (known_any _).mono ?_; rintro e w1 ⟨rfl, hb⟩))
    go_ret
    exact ⟨rfl, hb⟩
  | true =>
    obtain ⟨k, rfl, hk4⟩ := isW_nat hk
    obtain ⟨a, rfl⟩ := Int.eq_ofNat_of_zero_le hb1.1
    obtain ⟨n, rfl⟩ := Int.eq_ofNat_of_zero_le hb2.1
    have ha : a < 18446744073709551616 := by omega
    have hk8 : 8 ≤ k ∧ k ≤ 64 := by omega
    obtain ⟨L, hL⟩ : ∃ L, WM.low k a = L := ⟨_, rfl⟩
    obtain ⟨B, hB⟩ : ∃ B, WM.low k (WM.comp a) = B := ⟨_, rfl⟩
    have hC : WM.low k (WM.comp B) = L := by rw [← hB, WM.not_not a hk4 ha, hL]
    have hB1 : B < 18446744073709551616 := by rw [← hB]; exact WM.low_lt64 _ hk8.2
    obtain ⟨D, hD⟩ : ∃ D, WM.doX 3 k 0 a false = D := ⟨_, rfl⟩
    obtain ⟨F1, hF1⟩ : ∃ F, WM.doF 3 k 0 a false = F := ⟨_, rfl⟩
    have hE : WM.doX 3 k 0 D false = L := by rw [← hD, WM.neg_neg a hk4, hL]
    obtain ⟨F2, hF2⟩ : ∃ F, WM.doF 3 k 0 D false = F := ⟨_, rfl⟩
    obtain ⟨R, hR⟩ : ∃ R, WM.shiftX 4 k a n = R := ⟨_, rfl⟩
    obtain ⟨F3, hF3⟩ : ∃ F, WM.shiftF 4 k a n ⟨false, false, false, false, false⟩ = F := ⟨_, rfl⟩
    have hS : WM.shiftX 5 k R n = L := by rw [← hR, WM.shift_back a n hk8.1 hk8.2, hL]
    obtain ⟨F4, hF4⟩ : ∃ F, WM.shiftF 5 k R n ⟨false, false, false, false, false⟩ = F := ⟨_, rfl⟩
    have c18 := Lib.hid (lowE_ok hk hL)
    have c20 := Lib.hid (notE_ok hk ha hB)
    have c20b := Lib.hid (notE_ok hk hB1 hC)
    have c21 := Lib.hid (negE_ok hk hD hF1)
    have c21b := Lib.hid (negE_ok hk hE hF2)
    have c29 := Lib.hid (shift_ok (op := 4) hk (by decide) (by decide) hR hF3)
    have c29b := Lib.hid (shift_ok (op := 5) hk (by decide) (by decide) hS hF4)
    clear hL hB hC hD hF1 hE hF2 hR hF3 hS hF4 hB1 ha hb1 hb2 hk4 hk8 hk
    go_enter Try.func11, Try.ntmps11
    go_wp2_with fail
    refine (c18.out _).mono ?_
    rintro e w' ⟨rfl, rfl⟩
    go_wp2_with (go_at_call 16; refine (num_any _ _).mono ?_; rintro e w' ⟨rfl, rfl⟩)
    refine (c20.out _).mono ?_
    rintro e w' ⟨rfl, rfl⟩
    go_wp2_with fail
    refine (c20b.out _).mono ?_
    rintro e w' ⟨rfl, rfl⟩
    go_wp2_with fail
    refine (c21.out _).mono ?_
    rintro e w1 ⟨rfl, hb1⟩
    go_wp2_with fail
    refine (c21b.out _).mono ?_
    rintro e w2 ⟨rfl, hb2⟩
    go_wp2_with fail
    refine (c29.out _).mono ?_
    rintro e w3 ⟨rfl, hb3⟩
    go_wp2_with fail
    refine (c29b.out _).mono ?_
    rintro e w4 ⟨rfl, hb4⟩
    go_wp2_with (go_at_call 16; refine (num_any _ _).mono ?_; rintro e w' ⟨rfl, rfl⟩)
    refine (known_any _).mono ?_
    rintro e w5 ⟨rfl, hb5⟩
    go_wp2_with fail
    go_ret
    exact ⟨rfl, bthen (bnew (bthen (bnew (bthen (bnew (bthen (bnew hb1 _) hb2) _) hb3) _) hb4) _) hb5⟩

set_option maxRecDepth 100000 in
theorem lifted (os : Os) (started : os.Started) (H : Type) (enc : TypeId × Value → H) :
    ReturnsInHanded {} Try.checked os 11 .any (Rows.wordTurnsSpec.pre6 enc Try.prog Try.f11 Rows.wordTurnsRow.domain false) (Rows.wordTurnsSpec.post enc Try.prog Try.f11 false true false false) := by
  refine returnsInHanded_of_change (C := Try.checked) own started (by kernel_rfl) Try.func11
    (ChangeSpec.witness6 (enc := enc) (C := Try.checked) false ⟨#[], #[.int .i64 0, .int .u64 0, .int .u64 0], []⟩ 8 (by kernel_rfl) (by kernel_rfl) (by kernel_rfl) (by kernel_rfl)) ?_
  intro W base args ds gs before hval0 hW hcnd _
  have hval : ∀ (j : Nat) t v, Try.f11.params[j]? = some t → args[j]? = some v → Value.okWide Try.prog W .any base t v := hval0
  have hW' := hW
  obtain ⟨p, q, hA0, hV, rfl, hfz, hnd⟩ := hW
  have hA : DataW.TrodAll enc Try.prog W 0 (fun _ => true) true Try.f11.params.toList args.toList ds p := hA0
  rw [Try.params11] at hA hval
  obtain ⟨v0, vs0, d0, ds0, p0, q0, hargs, rfl, rfl, h0, r0⟩ := trodAll_cons hA
  obtain ⟨v1, vs1, d1, ds1, p1, q1, rfl, rfl, rfl, h1, r1⟩ := trodAll_cons r0
  obtain ⟨v2, vs2, d2, ds2, p2, q2, rfl, rfl, rfl, h2, r2⟩ := trodAll_cons r1
  obtain ⟨rfl, rfl, rfl⟩ := trodAll_nil r2
  obtain rfl : args = #[v0, v1, v2] := by cases args; simp_all
  obtain ⟨rfl, rfl⟩ := trodVars_none hV
  obtain ⟨a0, rfl, rfl, rfl, w0⟩ := open_int Try.underlying3 (hval 0 3 v0 rfl rfl) h0
  obtain ⟨a1, rfl, rfl, rfl, w1⟩ := open_int Try.underlying26 (hval 1 26 v1 rfl rfl) h1
  obtain ⟨a2, rfl, rfl, rfl, w2⟩ := open_int Try.underlying26 (hval 2 26 v2 rfl rfl) h2
  clear hA0 hval0
  simp only [List.append_nil] at hW'
  refine (walk a0 a1 a2 w0 w1 w2 W).mono fun e W' ⟨he, hg⟩ => ?_
  subst he
  exact ⟨_, rfl, _, _, _, [], [], [], hW', (trodAll_cons_mk (shut_bool Try.underlying4 _) trodAll_mk0), (trodAll_cons_mk (shut_int Try.underlying3 w0) (trodAll_cons_mk (shut_int Try.underlying26 w1) (trodAll_cons_mk (shut_int Try.underlying26 w2) trodAll_mk0))), rfl, hg.frame _, fun h => by cases h⟩

theorem over : Rows.wordTurnsRow.holds Try.pinned (OpenSpec.ofChange Rows.wordTurnsSpec) :=
  OpenClaim.holds_of_wide 11 Try.f11 rfl rfl rfl rfl rfl rfl rfl ⟨rfl, rfl, rfl, rfl, rfl⟩ rfl rfl rfl rfl rfl (by kernel_rfl) Try.func11 (by kernel_rfl)
    (of_decide_eq_true (by kernel_rfl)) (by unfold Func.isWrapper; first | (rw [if_pos (by decide +kernel)]; kernel_rfl) | (rw [if_neg (by decide +kernel)]; exact ⟨rfl, rfl⟩))
    (fun os started H enc _ => lifted os started H enc)

theorem proved : Rows.WordTurnsSaid :=
  over
end Go.Proofs.Ytklepefljdiepaa.wordTurns
