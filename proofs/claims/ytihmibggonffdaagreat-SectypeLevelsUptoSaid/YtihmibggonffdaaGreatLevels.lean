/- For every program, function, expression and row of levels that law SectypeLevels may be handed, it returns true and leaves its arguments as they were. Conditions: what it reads is of bulk at most 1048576. -/
import Derived.Test.YtihmibggonffdaaGreatRows
import Derived.WalkKit
import Derived.ProofKit
import Derived.OpenShut
import Derived.JoinedCond
import Derived.Test.YtihmibggonffdaaGreatDH
import Derived.Test.YtihmibggonffdaaGreatLBD
namespace Go.Proofs.YtihmibggonffdaaGreat.sectypeLevels
open Go.ChangeShapes Go.WideShapes Go.ChangeAt Go.RowKit

theorem own : ownKnob Tryz.prog.godebug = none := by kernel_rfl
theorem laid : laidOutB Tryz.prog = true := by kernel_rfl
section
variable {H : Type} {enc : TypeId × Value → H} {w : World}
theorem cBool : Tryz.prog.cellsOf 4 = 1 := by kernel_rfl
theorem open_bools {fuel : Nat} {cs : List Value} {x : DataW H × List MemPlace} (h : DataW.trod enc Tryz.prog w 0 (fun _ => true) true fuel 28 cs = some x) (hw : Rows.uptoBulk x.1 ≤ 1048576) :
   ∃ (l : List Bool) (p : Option Addr) (c : Nat), cs = [.slice p l.length c] ∧ RowIn w.heap.size (BAt w) 1 l p := by
 obtain ⟨m, p, ks, cap, hn, rfl, hsm, hge, hlen, _, hel⟩ := slice_opb cBool (by decide) Tryz.underlying28 h hw
 rcases hel with h0 | ⟨bb, off, rfl, hbl, hel⟩
 · exact ⟨[], p, cap, by rw [h0]; rfl, by simp, .inl rfl⟩
 · obtain ⟨l, hl, hr, _⟩ := Row.ofB (A := BAt w) (f := fun _ => 0) (k := 1) (b := bb) ks off fun i m' hi => by
     obtain ⟨cs', y, hl, hc, hr, hy, hyb⟩ := hel i m' hi
     obtain ⟨z, rfl⟩ := opn_bool Tryz.underlying4 hr
     exact ⟨z, hc 0 (by decide), Nat.zero_le _⟩
   exact ⟨l, _, cap, by rw [hl], by omega, .inr ⟨bb, off, rfl, hbl, hr⟩⟩
end
set_option maxRecDepth 100000 in
theorem lifted (os : Os) (started : os.Started) (H : Type) (enc : TypeId × Value → H) (F : Stop.Interp) :
   ReturnsInHanded {} Tryz.checked os 4 .any ((Rows.OpenSpec.upto Rows.sectypeLevelsSpec).pre6 enc Tryz.prog Tryz.f4 Rows.sectypeLevelsUptoRow.domain false) (((Rows.OpenSpec.upto Rows.sectypeLevelsSpec).at F).post enc Tryz.prog Tryz.f4 false true false false) := by
 refine returnsInHanded_of_cond (C := Tryz.checked) (s := Rows.OpenSpec.upto Rows.sectypeLevelsSpec) (k := Rows.uptoSmall) rfl own started (by kernel_rfl) Tryz.func4
   (OpenSpec.witness (enc := enc) (C := Tryz.checked) (s := Rows.OpenSpec.upto Rows.sectypeLevelsSpec) (k := Rows.uptoSmall) rfl false ⟨#[], #[.agg #[.slice none 0 0, .slice none 0 0], .int .i64 0, .agg #[.int .i64 0, .int .u64 0, .string ⟨#[]⟩, .slice none 0 0], .slice none 0 0], []⟩ 8 (by kernel_rfl) (by kernel_rfl) (by kernel_rfl)
     (x := ([.agg [.nil, .nil], .lit (.int .i64 0), .agg [.lit (.int .i64 0), .lit (.int .u64 0), .lit (.string []), .nil], .nil], [], [])) (by kernel_rfl) rfl (by kernel_rfl)) ?_
 intro W base args ds gs before hval0 hW _ hk _
 have hval : ∀ (j : Nat) t v, Tryz.f4.params[j]? = some t → args[j]? = some v → Value.okWide Tryz.prog W .any base t v := hval0
 have hW' := hW
 obtain ⟨p, q, hA0, hV, rfl, hfz, hnd⟩ := hW
 have hA : DataW.TrodAll enc Tryz.prog W 0 (fun _ => true) true Tryz.f4.params.toList args.toList ds p := hA0
 rw [Tryz.params4] at hA hval
 obtain ⟨v0, vs0, d0, ds0, p0, k0, hargs, rfl, rfl, h0, r0⟩ := trodAll_cons hA
 obtain ⟨v1, vs1, d1, ds1, p1, k1, rfl, rfl, rfl, h1, r1⟩ := trodAll_cons r0
 obtain ⟨v2, vs2, d2, ds2, p2, k2, rfl, rfl, rfl, h2, r2⟩ := trodAll_cons r1
 obtain ⟨v3, vs3, d3, ds3, p3, k3, rfl, rfl, rfl, h3, r3⟩ := trodAll_cons r2
 obtain ⟨rfl, rfl, rfl⟩ := trodAll_nil r3
 obtain rfl : args = #[v0, v1, v2, v3] := by cases args; simp_all
 obtain ⟨rfl, rfl⟩ := trodVars_none hV
 obtain ⟨cs0, rfl, hsz0⟩ := okWide_struct Tryz.underlying25 (hval 0 25 v0 rfl rfl)
 have h0k := h0
 obtain ⟨f0, hf0⟩ := h0
 obtain ⟨n1, rfl, rfl, rfl, w1⟩ := open_int Tryz.underlying3 (hval 1 3 v1 rfl rfl) h1
 obtain ⟨cs2, rfl, hsz2⟩ := okWide_struct Tryz.underlying40 (hval 2 40 v2 rfl rfl)
 have h2k := h2
 obtain ⟨f2, hf2⟩ := h2
 obtain ⟨a3, len3, cap3, rfl⟩ := okWide_slice Tryz.underlying28 (hval 3 28 v3 rfl rfl)
 have h3k := h3
 obtain ⟨f3, hf3⟩ := h3
 clear hA0 hval0
 simp only [List.append_nil, List.nil_append] at hW' hk
 have hbulk : Rows.uptoBulkAll [d0, .lit (.int .i64 n1), d2, d3] ≤ 1048576 := of_decide_eq_true hk
 simp only [Rows.uptoBulkAll, Nat.add_zero] at hbulk
 have hb0 : Rows.uptoBulk d0 ≤ 1048576 := by omega
 have hb2 : Rows.uptoBulk d2 ≤ 1048576 := by omega
 have hb3 : Rows.uptoBulk d3 ≤ 1048576 := by omega
 have hlt : ∀ x ∈ p0 ++ (p2 ++ p3), x.block < W.heap.size := fun x hx => by simpa using hW'.lt x (by simpa using hx)
 have hback0 : ∀ (W' : World), Below W.heap.size W W' → DataW.Trod enc Tryz.prog W' 0 (fun b => decide (b < W.heap.size)) true 25 (.agg cs0) d0 p0 :=
   fun W' hn => Below.trod laid (by kernel_rfl) (of_decide_eq_true (by kernel_rfl)) h0k hn (fun x hx => hlt x (by simp [hx]))
 have hback2 : ∀ (W' : World), Below W.heap.size W W' → DataW.Trod enc Tryz.prog W' 0 (fun b => decide (b < W.heap.size)) true 40 (.agg cs2) d2 p2 :=
   fun W' hn => Below.trod laid (by kernel_rfl) (of_decide_eq_true (by kernel_rfl)) h2k hn (fun x hx => hlt x (by simp [hx]))
 have hback3 : ∀ (W' : World), Below W.heap.size W W' → DataW.Trod enc Tryz.prog W' 0 (fun b => decide (b < W.heap.size)) true 28 (.slice a3 len3 cap3) d3 p3 :=
   fun W' hn => Below.trod laid (by kernel_rfl) (of_decide_eq_true (by kernel_rfl)) h3k hn (fun x hx => hlt x (by simp [hx]))
 obtain ⟨x, pp, pq, pc, pd, hcs0, hok, hbig, hpc, hpd⟩ := open_prgB hf0 hb0
 obtain rfl : cs0 = #[.slice pp x.regs.length pc, .slice pq x.fns.length pd] := by cases cs0; simp_all [Value.cells]
 obtain ⟨e, pe, ce, hcs2, heo, hez⟩ := open_ex f2 _ _ hf2 hb2
 have hez' : e.size + 2 ≤ Rows.uptoBulk d2 := hez
 obtain rfl : cs2 = #[.int .i64 e.op, .int .u64 (e.word : Int), .string (str e.name), .slice pe e.args.len ce] := by cases cs2; simp_all [Value.cells]
 obtain ⟨l, pw, cw, hcs3, hrow⟩ := open_bools hf3 hb3
 simp [Value.cells] at hcs3
 obtain ⟨rfl, rfl, rfl⟩ := hcs3
 refine (law_levels x ⟨pp, pq, pc, pd⟩ n1 e pe ce l a3 cap3 W.heap.size W hok (Nat.le_refl _) hpc hpd (by omega) heo (by omega) hrow).mono fun e W' ⟨he, hg⟩ => ?_
 subst he
 have hta := trodAll_cons_mk (hback0 W' hg) (trodAll_cons_mk (shut_int Tryz.underlying3 w1) (trodAll_cons_mk (hback2 W' hg) (trodAll_cons_mk (hback3 W' hg) trodAll_mk0)))
 simp only [List.append_nil, List.nil_append] at hta
 exact ⟨_, rfl, _, _, _, [], p0 ++ (p2 ++ p3), [], hW', (trodAll_cons_mk (shut_bool Tryz.underlying4 _) trodAll_mk0), hta, rfl, hg.frame _, fun h => by cases h⟩

theorem proved : Rows.SectypeLevelsUptoSaid :=
 OpenClaim.holds_of_cond 4 Tryz.f4 rfl rfl rfl rfl rfl rfl rfl ⟨rfl, rfl, rfl, rfl, rfl⟩ rfl rfl rfl rfl rfl (by kernel_rfl) Tryz.func4 (by kernel_rfl)
   (of_decide_eq_true (by kernel_rfl)) (by unfold Func.isWrapper; first | (rw [if_pos (by decide +kernel)]; kernel_rfl) | (rw [if_neg (by decide +kernel)]; exact ⟨rfl, rfl⟩))
   (fun os started H enc _ F => lifted os started H enc F)
end Go.Proofs.YtihmibggonffdaaGreat.sectypeLevels
