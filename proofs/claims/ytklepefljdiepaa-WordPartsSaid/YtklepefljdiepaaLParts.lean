/- For every input that law WordParts may be handed, it returns true and leaves its arguments as they were. Conditions: none. -/
import Derived.Test.YtklepefljdiepaaRows
import Derived.Test.YtklepefljdiepaaFL
import Derived.WalkKit
import Derived.ProofKit
import Derived.OpenShut
import Derived.Test.YtklepefljdiepaaA1
import Derived.Test.YtklepefljdiepaaR7
namespace Go.Proofs.Ytklepefljdiepaa.wordParts
open Go.ChangeShapes Go.WideShapes Go.ChangeAt Go.RowKit
set_option linter.unusedVariables false

theorem own : ownKnob Try.prog.godebug = none := by kernel_rfl

set_option maxHeartbeats 1000000 in
theorem walk (a0 : Int) (w0 : (Lit.int .i64 a0).wf = true) (a1 : Int) (w1 : (Lit.int .u64 a1).wf = true) (w : World) :
    Calls Try.prog 4 #[.int .i64 a0, .int .u64 a1] w fun e w' => e = .returned (.bool true) ∧ Below w.heap.size w w' := by
  have hb1 : 0 ≤ a1 ∧ a1 < 18446744073709551616 := by simp [Lit.wf, IntKind.bits, IntKind.signed, IntKind.max, IntKind.min] at w1; omega
  clear w0 w1
  cases hk : isW a0 with
  | false =>
    have c18 := Lib.hid (lowE_bad hk hb1.1)
    have c19 := Lib.hid (sigE_bad hk hb1.1)
    have c20 := Lib.hid (notE_bad hk hb1.1 hb1.2)
    have c21 := Lib.hid (fun wx => negE_bad a0 a1 wx hk)
    clear hb1
    go_enter Try.func4, Try.ntmps4
    go_wp2_with fail
    refine (c18.out _).mono ?_
    rintro e w' ⟨rfl, rfl⟩
    go_wp2_with fail
    refine (c19.out _).mono ?_
    rintro e w' ⟨rfl, rfl⟩
    go_wp2_with fail
    refine (c20.out _).mono ?_
    rintro e w' ⟨rfl, rfl⟩
    go_wp2_with fail
    refine (c21.out _).mono ?_
    rintro e v1 ⟨rfl, hb1⟩
    go_wp2_with (first | (go_at_call 16; refine (num_any _ _).mono ?_; rintro e w' ⟨rfl, rfl⟩) | (go_at_call 22; refine (mayW_any _ _).mono ?_; rintro e w' ⟨rfl, rfl⟩))
    refine (known_any _).mono ?_
    rintro e v2 ⟨rfl, hb2⟩
    go_wp2_with fail
    go_ret
    exact ⟨rfl, bthen (bnew hb1 _) hb2⟩
  | true =>
    obtain ⟨k, rfl, hk4⟩ := isW_nat hk
    obtain ⟨a, rfl⟩ := Int.eq_ofNat_of_zero_le hb1.1
    have ha : a < 18446744073709551616 := by omega
    obtain ⟨L, hL⟩ : ∃ L, WM.low k a = L := ⟨_, rfl⟩
    obtain ⟨S, hS⟩ : ∃ S, WM.sig k a = S := ⟨_, rfl⟩
    obtain ⟨N, hN⟩ : ∃ N, WM.low k (WM.comp a) = N := ⟨_, rfl⟩
    obtain ⟨X, hX⟩ : ∃ X, WM.doX 3 k 0 a false = X := ⟨_, rfl⟩
    obtain ⟨F, hF⟩ : ∃ F, WM.doF 3 k 0 a false = F := ⟨_, rfl⟩
    have c18 := Lib.hid (lowE_ok hk hL)
    have c19 := Lib.hid (sigE_ok hk hS)
    have c20 := Lib.hid (notE_ok hk ha hN)
    have c21 := Lib.hid (negE_ok hk hX hF)
    have d23 := fun wx => refDo_any 3 k 0 a ⟨false, false, false, false, false⟩ wx (by decide) (by decide) hk4 (by decide) ha
    rw [hX, hF] at d23
    have c23 := Lib.hid d23
    have d24 := fun wx => refLow_any k a wx hk4 ha
    rw [hL] at d24
    have c24 := Lib.hid d24
    have d25 := fun wx => refSig_any k a wx hk4 ha
    rw [hS] at d25
    have c25 := Lib.hid d25
    have d24b := fun wx => refLow_any k (WM.comp a) wx hk4 (WM.comp_lt a)
    rw [hN] at d24b
    have c24b := Lib.hid d24b
    have hx := WM.run_comp a ha
    clear hL hS hN hX hF d23 d24 d25 d24b hb1 ha hk4
    go_enter Try.func4, Try.ntmps4
    go_wp2_with fail
    refine (c18.out _).mono ?_
    rintro e w' ⟨rfl, rfl⟩
    go_wp2_with fail
    refine (c19.out _).mono ?_
    rintro e w' ⟨rfl, rfl⟩
    go_wp2_with fail
    refine (c20.out _).mono ?_
    rintro e w' ⟨rfl, rfl⟩
    go_wp2_with fail
    refine (c21.out _).mono ?_
    rintro e v1 ⟨rfl, hb1⟩
    go_wp2_with (go_at_call 22; refine (mayW_any _ _).mono ?_; rintro e w' ⟨rfl, rfl⟩)
    refine (c23.out _).mono ?_
    rintro e v2 ⟨rfl, hb2⟩
    have g0 : v2.cell? ⟨v1.heap.size, 0, none⟩ = some (.bool F.c) := by rw [hb2.cell (by simp)]; go_simp
    have g1 : v2.cell? ⟨v1.heap.size, 1, none⟩ = some (.bool F.z) := by rw [hb2.cell (by simp)]; go_simp
    have g2 : v2.cell? ⟨v1.heap.size, 2, none⟩ = some (.bool F.s) := by rw [hb2.cell (by simp)]; go_simp
    have g3 : v2.cell? ⟨v1.heap.size, 3, none⟩ = some (.bool F.o) := by rw [hb2.cell (by simp)]; go_simp
    have g4 : v2.cell? ⟨v1.heap.size, 4, none⟩ = some (.bool F.p) := by rw [hb2.cell (by simp)]; go_simp
    have hs2 : v1.heap.size < v2.heap.size := by have := hb2.size; simp at this; omega
    go_wp2_with fail
    refine (c24.out _).mono ?_
    rintro e w' ⟨rfl, rfl⟩
    go_wp2_with fail
    refine (c25.out _).mono ?_
    rintro e w' ⟨rfl, rfl⟩
    go_wp2_with fail
    refine (c24b.out _).mono ?_
    rintro e w' ⟨rfl, rfl⟩
    go_wp2_with (go_at_call 16; refine (num_any _ _).mono ?_; rintro e w' ⟨rfl, rfl⟩)
    refine (known_any _).mono ?_
    rintro e v3 ⟨rfl, hb3⟩
    go_wp2_with fail
    go_ret
    exact ⟨rfl, bthen (bnew (bthen (bnew hb1 _) hb2) _) hb3⟩
set_option maxRecDepth 100000 in
theorem lifted (os : Os) (started : os.Started) (H : Type) (enc : TypeId × Value → H) :
    ReturnsInHanded {} Try.checked os 4 .any (Rows.wordPartsSpec.pre6 enc Try.prog Try.f4 Rows.wordPartsRow.domain false) (Rows.wordPartsSpec.post enc Try.prog Try.f4 false true false false) := by
  refine returnsInHanded_of_change (C := Try.checked) own started (by kernel_rfl) Try.func4
    (ChangeSpec.witness6 (enc := enc) (C := Try.checked) false ⟨#[], #[.int .i64 0, .int .u64 0], []⟩ 8 (by kernel_rfl) (by kernel_rfl) (by kernel_rfl) (by kernel_rfl)) ?_
  intro W base args ds gs before hval0 hW hcnd _
  have hval : ∀ (j : Nat) t v, Try.f4.params[j]? = some t → args[j]? = some v → Value.okWide Try.prog W .any base t v := hval0
  have hW' := hW
  obtain ⟨p, q, hA0, hV, rfl, hfz, hnd⟩ := hW
  have hA : DataW.TrodAll enc Try.prog W 0 (fun _ => true) true Try.f4.params.toList args.toList ds p := hA0
  rw [Try.params4] at hA hval
  obtain ⟨v0, vs0, d0, ds0, p0, k0, hargs, rfl, rfl, h0, r0⟩ := trodAll_cons hA
  obtain ⟨v1, vs1, d1, ds1, p1, k1, rfl, rfl, rfl, h1, r1⟩ := trodAll_cons r0
  obtain ⟨rfl, rfl, rfl⟩ := trodAll_nil r1
  obtain rfl : args = #[v0, v1] := by cases args; simp_all
  obtain ⟨rfl, rfl⟩ := trodVars_none hV
  obtain ⟨a0, rfl, rfl, rfl, w0⟩ := open_int Try.underlying3 (hval 0 3 v0 rfl rfl) h0
  obtain ⟨a1, rfl, rfl, rfl, w1⟩ := open_int Try.underlying26 (hval 1 26 v1 rfl rfl) h1
  clear hA0 hval0
  simp only [List.append_nil] at hW'
  refine (walk a0 w0 a1 w1 W).mono fun e W' ⟨he, hg⟩ => ?_
  subst he
  exact ⟨_, rfl, _, _, _, [], [], [], hW', (trodAll_cons_mk (shut_bool Try.underlying4 _) trodAll_mk0), (trodAll_cons_mk (shut_int Try.underlying3 w0) (trodAll_cons_mk (shut_int Try.underlying26 w1) trodAll_mk0)), rfl, hg.frame _, fun h => by cases h⟩

theorem over : Rows.wordPartsRow.holds Try.pinned (OpenSpec.ofChange Rows.wordPartsSpec) :=
  OpenClaim.holds_of_wide 4 Try.f4 rfl rfl rfl rfl rfl rfl rfl ⟨rfl, rfl, rfl, rfl, rfl⟩ rfl rfl rfl rfl rfl (by kernel_rfl) Try.func4 (by kernel_rfl)
    (of_decide_eq_true (by kernel_rfl)) (by unfold Func.isWrapper; first | (rw [if_pos (by decide +kernel)]; kernel_rfl) | (rw [if_neg (by decide +kernel)]; exact ⟨rfl, rfl⟩))
    (fun os started H enc _ => lifted os started H enc)

theorem proved : Rows.WordPartsSaid :=
  over
end Go.Proofs.Ytklepefljdiepaa.wordParts
