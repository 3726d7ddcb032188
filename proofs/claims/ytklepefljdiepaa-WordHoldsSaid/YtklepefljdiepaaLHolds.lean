/- For every input that law WordHolds may be handed, it returns true and leaves its arguments as they were. Conditions: none. -/
import Derived.Test.YtklepefljdiepaaRows
import Derived.Test.YtklepefljdiepaaFL
import Derived.WalkKit
import Derived.ProofKit
import Derived.OpenShut
import Derived.Test.YtklepefljdiepaaA1
import Derived.Test.YtklepefljdiepaaR8
namespace Go.Proofs.Ytklepefljdiepaa.wordHolds
open Go.ChangeShapes Go.WideShapes Go.ChangeAt Go.RowKit
set_option linter.unusedVariables false

theorem own : ownKnob Try.prog.godebug = none := by kernel_rfl

set_option maxHeartbeats 1000000 in
theorem walk (a0 : Int) (w0 : (Lit.int .i64 a0).wf = true) (c1 z1 s1 o1 q1 : Bool) (w : World) :
    Calls Try.prog 8 #[.int .i64 a0, .agg #[.bool c1, .bool z1, .bool s1, .bool o1, .bool q1]] w fun e w' => e = .returned (.bool true) ∧ Below w.heap.size w w' := by
  clear w0
  by_cases ho : a0 < 0
  · have t1 : decide (a0 < 0) = true := decide_eq_true ho
    have hc : isC a0 = false := by
      unfold isC; rw [Bool.and_eq_false_iff]; simp only [decide_eq_false_iff_not]; omega
    have d31 := Lib.hid (fun wx => holds_bad a0 c1 z1 s1 o1 q1 wx hc)
    have d32 := fun wx => turned_any a0 wx
    rw [if_neg (show ¬ isC a0 = true by rw [hc]; decide), if_neg (show ¬ isC a0 = true by rw [hc]; decide)] at d32
    have c32 := Lib.hid d32
    clear hc d32 ho
    go_enter Try.func8, Try.ntmps8
    go_wp2_with fail
    refine (d31.out _).mono ?_
    rintro e v1 ⟨rfl, hb1⟩
    go_wp2_with fail
    refine (c32.out _).mono ?_
    rintro e w' ⟨rfl, rfl⟩
    go_wp2_with (go_at_call 16; refine (num_any _ _).mono ?_; rintro e w' ⟨rfl, rfl⟩)
    refine (known_any _).mono ?_
    rintro e v2 ⟨rfl, hb2⟩
    go_wp2_with fail
    go_ret
    exact ⟨rfl, bthen (bthen (bnew (Below.refl _ _) _) hb1) hb2⟩
  have t1 : decide (a0 < 0) = false := decide_eq_false ho
  obtain ⟨c, rfl⟩ := Int.eq_ofNat_of_zero_le (show 0 ≤ a0 by omega)
  clear ho
  by_cases ho : (15 : Int) < (c : Int)
  · have t2 : decide ((15 : Int) < (c : Int)) = true := decide_eq_true ho
    have hc : isC (c : Int) = false := by
      unfold isC; rw [Bool.and_eq_false_iff]; simp only [decide_eq_false_iff_not]; omega
    have d31 := Lib.hid (fun wx => holds_bad (c : Int) c1 z1 s1 o1 q1 wx hc)
    have d32 := fun wx => turned_any (c : Int) wx
    rw [if_neg (show ¬ isC (c : Int) = true by rw [hc]; decide), if_neg (show ¬ isC (c : Int) = true by rw [hc]; decide)] at d32
    have c32 := Lib.hid d32
    clear hc d32 ho
    go_enter Try.func8, Try.ntmps8
    go_wp2_with fail
    refine (d31.out _).mono ?_
    rintro e v1 ⟨rfl, hb1⟩
    go_wp2_with fail
    refine (c32.out _).mono ?_
    rintro e w' ⟨rfl, rfl⟩
    go_wp2_with (go_at_call 16; refine (num_any _ _).mono ?_; rintro e w' ⟨rfl, rfl⟩)
    refine (known_any _).mono ?_
    rintro e v2 ⟨rfl, hb2⟩
    go_wp2_with fail
    go_ret
    exact ⟨rfl, bthen (bthen (bnew (Below.refl _ _) _) hb1) hb2⟩
  have t2 : decide ((15 : Int) < (c : Int)) = false := decide_eq_false ho
  have hc15 : c ≤ 15 := by omega
  have hcc : isC (c : Int) = true := by unfold isC; rw [Bool.and_eq_true]; simp only [decide_eq_true_eq]; omega
  obtain ⟨t, ht⟩ : ∃ t : Nat, t = c + 1 - 2 * (c % 2) := ⟨_, rfl⟩
  have ht15 : t ≤ 15 := by omega
  have d32 := fun wx => turned_any (c : Int) wx
  rw [if_pos hcc, if_pos hcc, show ((c : Int) + 1 - 2 * ((c : Int) % 2)) = (t : Int) from by omega] at d32
  obtain ⟨S, hS⟩ : ∃ S, WM.holds c ⟨c1, z1, s1, o1, q1⟩ = S := ⟨_, rfl⟩
  have hS2 : WM.holds t ⟨c1, z1, s1, o1, q1⟩ = !S := by
    rw [← hS]; unfold WM.holds
    rw [show t - t % 2 = c - c % 2 from by omega]
    have : c % 2 = 0 ∨ c % 2 = 1 := by omega
    rcases this with h | h
    · rw [h, show t % 2 = 1 from by omega]; simp
    · rw [h, show t % 2 = 0 from by omega]; simp
  have c32 := Lib.hid d32
  have c31 := Lib.hid (holds_ok (f := ⟨c1, z1, s1, o1, q1⟩) hc15 hS)
  have c31b := Lib.hid (holds_ok (f := ⟨c1, z1, s1, o1, q1⟩) ht15 hS2)
  have d33 := fun wx => refHolds_any c c1 z1 s1 o1 q1 wx hc15
  rw [hS] at d33
  have c33 := Lib.hid d33
  clear hS hS2 hcc hc15 ht ht15 d32 d33 ho
  go_enter Try.func8, Try.ntmps8
  go_wp2_with fail
  refine (c31.out _).mono ?_
  rintro e v1 ⟨rfl, hb1⟩
  have hs1 : w.heap.size < v1.heap.size := by have := hb1.size; simp at this; omega
  have r0 : v1.cell? ⟨w.heap.size, 0, none⟩ = some (.bool c1) := by rw [hb1.cell (by simp)]; go_simp
  have r1 : v1.cell? ⟨w.heap.size, 1, none⟩ = some (.bool z1) := by rw [hb1.cell (by simp)]; go_simp
  have r2 : v1.cell? ⟨w.heap.size, 2, none⟩ = some (.bool s1) := by rw [hb1.cell (by simp)]; go_simp
  have r3 : v1.cell? ⟨w.heap.size, 3, none⟩ = some (.bool o1) := by rw [hb1.cell (by simp)]; go_simp
  have r4 : v1.cell? ⟨w.heap.size, 4, none⟩ = some (.bool q1) := by rw [hb1.cell (by simp)]; go_simp
  go_wp2_with fail
  refine (c32.out _).mono ?_
  rintro e w' ⟨rfl, rfl⟩
  go_wp2_with fail
  refine (c31b.out _).mono ?_
  rintro e v2 ⟨rfl, hb2⟩
  have hs2 : w.heap.size < v2.heap.size := by have := hb2.size; omega
  have r0 := (hb2.cell (p := ⟨w.heap.size, 0, none⟩) hs1).trans r0
  have r1 := (hb2.cell (p := ⟨w.heap.size, 1, none⟩) hs1).trans r1
  have r2 := (hb2.cell (p := ⟨w.heap.size, 2, none⟩) hs1).trans r2
  have r3 := (hb2.cell (p := ⟨w.heap.size, 3, none⟩) hs1).trans r3
  have r4 := (hb2.cell (p := ⟨w.heap.size, 4, none⟩) hs1).trans r4
  go_wp2_with fail
  refine (c33.out _).mono ?_
  rintro e v3 ⟨rfl, hb3⟩
  clear r0 r1 r2 r3 r4
  go_wp2_with (go_at_call 16; refine (num_any _ _).mono ?_; rintro e w' ⟨rfl, rfl⟩)
  refine (known_any _).mono ?_
  rintro e v4 ⟨rfl, hb4⟩
  go_wp2_with fail
  go_ret
  exact ⟨rfl, bthen (bthen (bthen (bthen (bnew (Below.refl _ _) _) hb1) hb2) hb3) hb4⟩
set_option maxRecDepth 100000 in
theorem lifted (os : Os) (started : os.Started) (H : Type) (enc : TypeId × Value → H) :
    ReturnsInHanded {} Try.checked os 8 .any (Rows.wordHoldsSpec.pre6 enc Try.prog Try.f8 Rows.wordHoldsRow.domain false) (Rows.wordHoldsSpec.post enc Try.prog Try.f8 false true false false) := by
  refine returnsInHanded_of_change (C := Try.checked) own started (by kernel_rfl) Try.func8
    (ChangeSpec.witness6 (enc := enc) (C := Try.checked) false ⟨#[], #[.int .i64 0, .agg #[.bool false, .bool false, .bool false, .bool false, .bool false]], []⟩ 8 (by kernel_rfl) (by kernel_rfl) (by kernel_rfl) (by kernel_rfl)) ?_
  intro W base args ds gs before hval0 hW hcnd _
  have hval : ∀ (j : Nat) t v, Try.f8.params[j]? = some t → args[j]? = some v → Value.okWide Try.prog W .any base t v := hval0
  have hW' := hW
  obtain ⟨p, q, hA0, hV, rfl, hfz, hnd⟩ := hW
  have hA : DataW.TrodAll enc Try.prog W 0 (fun _ => true) true Try.f8.params.toList args.toList ds p := hA0
  rw [Try.params8] at hA hval
  obtain ⟨v0, vs0, d0, ds0, p0, k0, hargs, rfl, rfl, h0, r0⟩ := trodAll_cons hA
  obtain ⟨v1, vs1, d1, ds1, p1, k1, rfl, rfl, rfl, h1, r1⟩ := trodAll_cons r0
  obtain ⟨rfl, rfl, rfl⟩ := trodAll_nil r1
  obtain rfl : args = #[v0, v1] := by cases args; simp_all
  obtain ⟨rfl, rfl⟩ := trodVars_none hV
  obtain ⟨a0, rfl, rfl, rfl, w0⟩ := open_int Try.underlying3 (hval 0 3 v0 rfl rfl) h0
  obtain ⟨c1, z1, s1, o1, q1, rfl, rfl, rfl⟩ := open_flags (hval 1 36 v1 rfl rfl) h1
  clear hA0 hval0
  simp only [List.append_nil] at hW'
  refine (walk a0 w0 c1 z1 s1 o1 q1 W).mono fun e W' ⟨he, hg⟩ => ?_
  subst he
  exact ⟨_, rfl, _, _, _, [], [], [], hW', (trodAll_cons_mk (shut_bool Try.underlying4 _) trodAll_mk0), (trodAll_cons_mk (shut_int Try.underlying3 w0) (trodAll_cons_mk (shut_flags _ _ _ _ _) trodAll_mk0)), rfl, hg.frame _, fun h => by cases h⟩

theorem over : Rows.wordHoldsRow.holds Try.pinned (OpenSpec.ofChange Rows.wordHoldsSpec) :=
  OpenClaim.holds_of_wide 8 Try.f8 rfl rfl rfl rfl rfl rfl rfl ⟨rfl, rfl, rfl, rfl, rfl⟩ rfl rfl rfl rfl rfl (by kernel_rfl) Try.func8 (by kernel_rfl)
    (of_decide_eq_true (by kernel_rfl)) (by unfold Func.isWrapper; first | (rw [if_pos (by decide +kernel)]; kernel_rfl) | (rw [if_neg (by decide +kernel)]; exact ⟨rfl, rfl⟩))
    (fun os started H enc _ => lifted os started H enc)

theorem proved : Rows.WordHoldsSaid :=
  over
end Go.Proofs.Ytklepefljdiepaa.wordHolds
