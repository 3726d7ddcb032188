/- For every input that law LeakSame may be handed, it returns true and leaves its arguments as they were. Conditions: what it reads is of bulk at most 1048576. -/
import Derived.Test.YtdigkdfkaikagaaRows
import Derived.WalkKit
import Derived.ProofKit
import Derived.OpenShut
import Derived.JoinedCond
import Derived.Test.YtdigkdfkaikagaaQ4
import Derived.Test.YtdigkdfkaikagaaQ7
namespace Go.Proofs.Ytdigkdfkaikagaa.leakSame
open Go.ChangeShapes Go.WideShapes Go.ChangeAt Go.RowKit

theorem own : ownKnob Try.prog.godebug = none := by kernel_rfl
theorem laid : laidOutB Try.prog = true := by kernel_rfl

theorem law_same (a b : Lf) (s : List S3) (n : Int) (xs : List Int) (pa pb ps pi : Option Addr) (ca cb cs ci : Nat) (w : World) (G : Given5 w a b s xs pa pb ps pi ca cb cs ci) :
    Calls Try.prog 5 #[.slice pa a.len ca, .slice pb b.len cb, .slice ps s.length cs, .int .i64 n, .slice pi xs.length ci] w fun e w' => e = .returned (.bool true) ∧ Below w.heap.size w w' := by
  cases h1 : smallB a with
  | false => exact same_a a b s n xs pa pb ps pi ca cb cs ci w G h1
  | true =>
    cases h2 : smallB b with
    | false => exact same_b a b s n xs pa pb ps pi ca cb cs ci w G h1 h2
    | true =>
      by_cases h3 : s.length ≤ 3000
      · by_cases h4 : xs.length ≤ 100
        · exact same_body a b s n xs pa pb ps pi ca cb cs ci w G h1 h2 h3 h4
        · exact same_i a b s n xs pa pb ps pi ca cb cs ci w G h1 h2 h3 (by omega)
      · exact same_s a b s n xs pa pb ps pi ca cb cs ci w G h1 h2 (by omega)

set_option maxRecDepth 100000 in
theorem lifted (os : Os) (started : os.Started) (H : Type) (enc : TypeId × Value → H) (F : Stop.Interp) :
    ReturnsInHanded {} Try.checked os 5 .any ((Rows.OpenSpec.upto Rows.leakSameSpec).pre6 enc Try.prog Try.f5 Rows.leakSameUptoRow.domain false) (((Rows.OpenSpec.upto Rows.leakSameSpec).at F).post enc Try.prog Try.f5 false true false false) := by
  refine returnsInHanded_of_cond (C := Try.checked) (s := Rows.OpenSpec.upto Rows.leakSameSpec) (k := Rows.uptoSmall) rfl own started (by kernel_rfl) Try.func5
    (OpenSpec.witness (enc := enc) (C := Try.checked) (s := Rows.OpenSpec.upto Rows.leakSameSpec) (k := Rows.uptoSmall) rfl false ⟨#[], #[.slice none 0 0, .slice none 0 0, .slice none 0 0, .int .i64 0, .slice none 0 0], []⟩ 8 (by kernel_rfl) (by kernel_rfl) (by kernel_rfl)
      (x := ([.nil, .nil, .nil, .lit (.int .i64 0), .nil], [], [])) (by kernel_rfl) rfl (by kernel_rfl)) ?_
  intro W base args ds gs before hval0 hW _ hk _
  have hval : ∀ (j : Nat) t v, Try.f5.params[j]? = some t → args[j]? = some v → Value.okWide Try.prog W .any base t v := hval0
  have hW' := hW
  obtain ⟨p, q, hA0, hV, rfl, hfz, hnd⟩ := hW
  have hA : DataW.TrodAll enc Try.prog W 0 (fun _ => true) true Try.f5.params.toList args.toList ds p := hA0
  rw [Try.params5] at hA hval
  obtain ⟨v0, vs0, d0, ds0, p0, k0, hargs, rfl, rfl, h0, r0⟩ := trodAll_cons hA
  obtain ⟨v1, vs1, d1, ds1, p1, k1, rfl, rfl, rfl, h1, r1⟩ := trodAll_cons r0
  obtain ⟨v2, vs2, d2, ds2, p2, k2, rfl, rfl, rfl, h2, r2⟩ := trodAll_cons r1
  obtain ⟨v3, vs3, d3, ds3, p3, k3, rfl, rfl, rfl, h3, r3⟩ := trodAll_cons r2
  obtain ⟨v4, vs4, d4, ds4, p4, k4, rfl, rfl, rfl, h4, r4⟩ := trodAll_cons r3
  obtain ⟨rfl, rfl, rfl⟩ := trodAll_nil r4
  obtain rfl : args = #[v0, v1, v2, v3, v4] := by cases args; simp_all
  obtain ⟨rfl, rfl⟩ := trodVars_none hV
  obtain ⟨a0, len0, cap0, rfl⟩ := okWide_slice Try.underlying25 (hval 0 25 v0 rfl rfl)
  obtain ⟨a1, len1, cap1, rfl⟩ := okWide_slice Try.underlying25 (hval 1 25 v1 rfl rfl)
  obtain ⟨a2, len2, cap2, rfl⟩ := okWide_slice Try.underlying39 (hval 2 39 v2 rfl rfl)
  obtain ⟨n, rfl, rfl, rfl, w3⟩ := open_int Try.underlying3 (hval 3 3 v3 rfl rfl) h3
  obtain ⟨a4, len4, cap4, rfl⟩ := okWide_slice Try.underlying40 (hval 4 40 v4 rfl rfl)
  have h0k := h0
  have h1k := h1
  have h2k := h2
  have h4k := h4
  obtain ⟨f0, hf0⟩ := h0
  obtain ⟨f1, hf1⟩ := h1
  obtain ⟨f2, hf2⟩ := h2
  obtain ⟨f4, hf4⟩ := h4
  clear hA0 hval0
  simp only [List.append_nil, List.nil_append] at hW' hk
  have hbulk : Rows.uptoBulkAll [d0, d1, d2, .lit (.int .i64 n), d4] ≤ 1048576 := of_decide_eq_true hk
  simp only [Rows.uptoBulkAll, Nat.add_zero] at hbulk
  have hlt : ∀ x ∈ p0 ++ (p1 ++ (p2 ++ p4)), x.block < W.heap.size := fun x hx => by simpa using hW'.lt x (by simpa using hx)
  have hback : ∀ (W' : World), Below W.heap.size W W' → DataW.Trod enc Try.prog W' 0 (fun b => decide (b < W.heap.size)) true 25 (.slice a0 len0 cap0) d0 p0 ∧ DataW.Trod enc Try.prog W' 0 (fun b => decide (b < W.heap.size)) true 25 (.slice a1 len1 cap1) d1 p1 ∧
      DataW.Trod enc Try.prog W' 0 (fun b => decide (b < W.heap.size)) true 39 (.slice a2 len2 cap2) d2 p2 ∧ DataW.Trod enc Try.prog W' 0 (fun b => decide (b < W.heap.size)) true 40 (.slice a4 len4 cap4) d4 p4 :=
    fun W' hn => ⟨Below.trod laid (by kernel_rfl) (of_decide_eq_true (by kernel_rfl)) h0k hn (fun x hx => hlt x (by simp [hx])), Below.trod laid (by kernel_rfl) (of_decide_eq_true (by kernel_rfl)) h1k hn (fun x hx => hlt x (by simp [hx])),
      Below.trod laid (by kernel_rfl) (of_decide_eq_true (by kernel_rfl)) h2k hn (fun x hx => hlt x (by simp [hx])), Below.trod laid (by kernel_rfl) (of_decide_eq_true (by kernel_rfl)) h4k hn (fun x hx => hlt x (by simp [hx]))⟩
  obtain ⟨na, _, _⟩ := slice_caps Try.underlying25 hf0
  obtain ⟨nb, _, _⟩ := slice_caps Try.underlying25 hf1
  obtain ⟨ns, hcs, hcm⟩ := slice_caps Try.underlying39 hf2
  obtain ⟨ni, _, _⟩ := slice_caps Try.underlying40 hf4
  obtain ⟨la, pa, ca, e0, ha, wa⟩ := open_leak f0 _ _ hf0 (by show Rows.uptoBulk d0 ≤ _; omega)
  obtain ⟨lb, pb, cb, e1, hb, wb⟩ := open_leak f1 _ _ hf1 (by show Rows.uptoBulk d1 ≤ _; omega)
  obtain ⟨s, ps, cs, e2, hs, _⟩ := open_seen hf2 (by show Rows.uptoBulk d2 ≤ _; omega)
  obtain ⟨xs, pi, ci, e4, hi, _⟩ := open_u64s hf4 (by show Rows.uptoBulk d4 ≤ _; omega)
  simp [Value.cells] at e0 e1 e2 e4
  obtain ⟨rfl, rfl, rfl⟩ := e0
  obtain ⟨rfl, rfl, rfl⟩ := e1
  obtain ⟨rfl, rfl, rfl⟩ := e2
  obtain ⟨rfl, rfl, rfl⟩ := e4
  have wa' : la.weight ≤ Rows.uptoBulk d0 := wa
  have wb' : lb.weight ≤ Rows.uptoBulk d1 := wb
  refine (law_same la lb s n xs a0 a1 a2 a4 cap0 cap1 cap2 cap4 W ⟨ha, hb, hs, hi, na, nb, ns, ni, hcs, hcm, by omega, by omega⟩).mono fun e W' ⟨he, hg⟩ => ?_
  subst he
  obtain ⟨b0, b1, b2, b4⟩ := hback W' hg
  have hta := trodAll_cons_mk b0 (trodAll_cons_mk b1 (trodAll_cons_mk b2 (trodAll_cons_mk (shut_int Try.underlying3 w3) (trodAll_cons_mk b4 trodAll_mk0))))
  simp only [List.append_nil, List.nil_append] at hta
  exact ⟨_, rfl, _, _, _, [], p0 ++ (p1 ++ (p2 ++ p4)), [], hW', (trodAll_cons_mk (shut_bool Try.underlying4 _) trodAll_mk0), hta, rfl, hg.frame _, fun h => by cases h⟩

theorem proved : Rows.LeakSameUptoSaid :=
  OpenClaim.holds_of_cond 5 Try.f5 rfl rfl rfl rfl rfl rfl rfl ⟨rfl, rfl, rfl, rfl, rfl⟩ rfl rfl rfl rfl rfl (by kernel_rfl) Try.func5 (by kernel_rfl)
    (of_decide_eq_true (by kernel_rfl)) (by unfold Func.isWrapper; first | (rw [if_pos (by decide +kernel)]; kernel_rfl) | (rw [if_neg (by decide +kernel)]; exact ⟨rfl, rfl⟩))
    (fun os started H enc _ F => lifted os started H enc F)
end Go.Proofs.Ytdigkdfkaikagaa.leakSame
