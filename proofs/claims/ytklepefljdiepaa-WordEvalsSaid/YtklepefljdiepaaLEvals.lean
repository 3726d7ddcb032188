/- For every input that law WordEvals may be handed, it returns true and leaves its arguments as they were. Conditions: none. -/
import Derived.Test.YtklepefljdiepaaRows
import Derived.WalkKit
import Derived.ProofKit
import Derived.OpenShut
import Derived.Test.YtklepefljdiepaaE2
namespace Go.Proofs.Ytklepefljdiepaa.wordEvals
open Go.ChangeShapes Go.WideShapes Go.ChangeAt Go.RowKit

theorem own : ownKnob Try.prog.godebug = none := by kernel_rfl
theorem laid : laidOutB Try.prog = true := by kernel_rfl
theorem cells26 : Try.prog.cellsOf 26 = 1 := by kernel_rfl

theorem walk (op : Int) (a : Addr) (len cap : Nat) (zs : List Int) (w : World) (hle : len ≤ zs.length)
    (hcell : ∀ i, i < zs.length → w.cell? (a.add i) = some (.int .u64 (zs.getD i 0))) (hwz : ∀ n ∈ zs, (Lit.int .u64 n).wf = true) :
    Calls Try.prog 3 #[.int .i64 op, .slice (some a) len cap] w fun e w' => e = .returned (.bool true) ∧ Below w.heap.size w w' := by
  by_cases hbig : 2000 < len
  · exact evals_big op (some a) len cap w hbig
  by_cases hz : argsZ op = (len : Int)
  · have hn0 : 1 ≤ len := by
      have h : argsZ op ≠ 0 := by unfold argsZ; split <;> (try split) <;> (try split) <;> decide
      omega
    obtain ⟨o, rfl⟩ : ∃ o : Nat, op = (o : Int) := by
      have := argsZ_args hz hn0
      exact Int.eq_ofNat_of_zero_le (by omega)
    have hword : ∀ i, i < zs.length → ∃ x : Nat, zs.getD i 0 = (x : Int) ∧ x < 18446744073709551616 := by
      intro i hi
      have hm : zs.getD i 0 ∈ zs := by
        rw [List.getD_eq_getElem?_getD, List.getElem?_eq_getElem hi]; exact List.getElem_mem hi
      have hw := hwz _ hm
      generalize zs.getD i 0 = z at hw
      have hb : 0 ≤ z ∧ z < 18446744073709551616 := by simp [Lit.wf, IntKind.bits, IntKind.signed, IntKind.max, IntKind.min] at hw; omega
      obtain ⟨x, rfl⟩ := Int.eq_ofNat_of_zero_le hb.1
      exact ⟨x, rfl, by omega⟩
    have hany : ∀ i, ∃ x : Nat, x < 18446744073709551616 ∧ (i < zs.length → w.cell? (a.add i) = some (.int .u64 (x : Int))) := by
      intro i
      by_cases hi : i < zs.length
      · obtain ⟨x, hx, hlt⟩ := hword i hi
        exact ⟨x, hlt, fun _ => by rw [← hx]; exact hcell i hi⟩
      · exact ⟨0, by decide, fun h => absurd h hi⟩
    obtain ⟨x, hx, c0⟩ := hany 0
    obtain ⟨y, hy, c1⟩ := hany 1
    obtain ⟨u, _, c2⟩ := hany 2
    obtain ⟨b, off, spot⟩ := a
    have hspot : spot = none := by simpa [Addr.add] using World.cell?_spot (c0 (by omega))
    subst hspot
    rw [add_plain] at c0 c1 c2
    have d0 := c0 (by omega)
    exact evals_ok o len b off cap x y u w hz hn0 hx hy (World.block_lt_of_cell? _ _ d0) d0 (fun h => c1 (by omega)) (fun h => c2 (by omega))
  · exact evals_refused op (some a) len cap w (by omega) hz

set_option maxRecDepth 100000 in
theorem lifted (os : Os) (started : os.Started) (H : Type) (enc : TypeId × Value → H) :
    ReturnsInHanded {} Try.checked os 3 .any (Rows.wordEvalsSpec.pre6 enc Try.prog Try.f3 Rows.wordEvalsRow.domain false) (Rows.wordEvalsSpec.post enc Try.prog Try.f3 false true false false) := by
  refine returnsInHanded_of_change (C := Try.checked) own started (by kernel_rfl) Try.func3
    (ChangeSpec.witness6 (enc := enc) (C := Try.checked) false ⟨#[], #[.int .i64 0, .slice none 0 0], []⟩ 8 (by kernel_rfl) (by kernel_rfl) (by kernel_rfl) (by kernel_rfl)) ?_
  intro W base args ds gs before hval0 hW hcnd _
  have hval : ∀ (j : Nat) t v, Try.f3.params[j]? = some t → args[j]? = some v → Value.okWide Try.prog W .any base t v := hval0
  have hW' := hW
  obtain ⟨p, q, hA0, hV, rfl, hfz, hnd⟩ := hW
  have hA : DataW.TrodAll enc Try.prog W 0 (fun _ => true) true Try.f3.params.toList args.toList ds p := hA0
  rw [Try.params3] at hA hval
  obtain ⟨v0, vs0, d0, ds0, p0, k0, hargs, rfl, rfl, h0, r0⟩ := trodAll_cons hA
  obtain ⟨v1, vs1, d1, ds1, p1, k1, rfl, rfl, rfl, h1, r1⟩ := trodAll_cons r0
  obtain ⟨rfl, rfl, rfl⟩ := trodAll_nil r1
  obtain rfl : args = #[v0, v1] := by cases args; simp_all
  obtain ⟨rfl, rfl⟩ := trodVars_none hV
  obtain ⟨a0, rfl, rfl, rfl, w0⟩ := open_int Try.underlying3 (hval 0 3 v0 rfl rfl) h0
  obtain ⟨v, len, cap, rfl⟩ := okWide_slice Try.underlying22 (hval 1 22 v1 rfl rfl)
  have h1k := h1
  obtain ⟨fuel, hf⟩ := h1
  clear hA0 hval0
  simp only [List.append_nil, List.nil_append] at hW'
  have hlt : ∀ x ∈ p1, x.block < W.heap.size := fun x hx => by simpa using hW'.lt x (by simpa using hx)
  have hback : ∀ (W' : World), Below W.heap.size W W' → DataW.Trod enc Try.prog W' 0 (fun b => decide (b < W.heap.size)) true 22 (.slice v len cap) d1 p1 :=
    fun W' hn => Below.trod laid (by kernel_rfl) (of_decide_eq_true (by kernel_rfl)) h1k hn hlt
  have hwalk : Calls Try.prog 3 #[.int .i64 a0, .slice v len cap] W fun e w' => e = .returned (.bool true) ∧ Below W.heap.size W w' := by
    rcases open_ints Try.underlying22 Try.underlying26 cells26 hf with ⟨hcs, _⟩ | ⟨a, len', cap', zs, hcs, _, hl, hm, hz, hx, hcell, hwz⟩
    · simp [Value.cells] at hcs
      obtain ⟨rfl, rfl, rfl⟩ := hcs
      exact evals_refused a0 none 0 0 W (by omega) (by unfold argsZ; split <;> (try split) <;> (try split) <;> decide)
    · simp [Value.cells] at hcs
      obtain ⟨rfl, rfl, rfl⟩ := hcs
      simp only [if_true] at hz
      exact walk a0 a len cap zs W (by omega) hcell hwz
  refine hwalk.mono fun e W' ⟨he, hg⟩ => ?_
  subst he
  exact ⟨_, rfl, _, _, _, [], p1, [], hW', (trodAll_cons_mk (shut_bool Try.underlying4 _) trodAll_mk0), (trodAll_mk2 (shut_int Try.underlying3 w0) (hback W' hg)), rfl, hg.frame _, fun h => by cases h⟩

theorem over : Rows.wordEvalsRow.holds Try.pinned (OpenSpec.ofChange Rows.wordEvalsSpec) :=
  OpenClaim.holds_of_wide 3 Try.f3 rfl rfl rfl rfl rfl rfl rfl ⟨rfl, rfl, rfl, rfl, rfl⟩ rfl rfl rfl rfl rfl (by kernel_rfl) Try.func3 (by kernel_rfl)
    (of_decide_eq_true (by kernel_rfl)) (by unfold Func.isWrapper; first | (rw [if_pos (by decide +kernel)]; kernel_rfl) | (rw [if_neg (by decide +kernel)]; exact ⟨rfl, rfl⟩))
    (fun os started H enc _ => lifted os started H enc)

theorem proved : Rows.WordEvalsSaid :=
  over
end Go.Proofs.Ytklepefljdiepaa.wordEvals
