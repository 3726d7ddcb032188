/- E6, VK, VL, VQ, E7, F1 as one. -/
import Derived.Test.YtihmibggonffdaaGreatE5
import Derived.Recover
import Derived.Deep.RegionLaw
import Derived.OrdersHeld
import Derived.Deep.RegionHeld
import Derived.WalkKit
import Derived.ProofKit
/- Size; what is done with a panic. -/
namespace Go.Proofs.YtihmibggonffdaaGreat
open Go.RowKit

def sumSc : List Fnc → Nat
 | [] => 0
 | f :: r => f.body.sc 1 + sumSc r
def Prg.total (x : Prg) : Nat := sumSc x.fns
structure PB (w : World) (N : Nat) (x : Prg) (pb : Nat) (p q : Option Addr) (c d : Nat) : Prop where
 cs : w.heap[pb]? = some (.cells #[.slice p x.regs.length c, .slice q x.fns.length d] 25 (0, 0))
 ok : x.Ok w N p q
theorem PB.but {w w' : World} {N : Nat} {x : Prg} {pb g : Nat} {p q : Option Addr} {c d : Nat} (h : PB w N x pb p q c d) (hB : But g w w') (hg : N ≤ g) (hN : N ≤ w.heap.size) (hp : pb ≠ g) : PB w' N x pb p q c d :=
 ⟨(hB.block _ (lt_blk h.cs) hp).trans h.cs, h.ok.later (hB.old hg hN) (Nat.le_refl N)⟩
theorem Fnc.At.bodyC {w : World} {N b o : Nat} {x : Fnc} (h : x.At w N b o) : ∃ p c, w.cell? ⟨b, o + 4, none⟩ = some (.slice p x.body.len c) ∧ x.body.In w N p := by
 obtain ⟨_, _, _, _, ⟨p, c, h1, h2⟩⟩ := h
 exact ⟨p, c, h1, h2⟩
theorem Row.start {α : Type} {N k : Nat} {A : α → Nat → Nat → Prop} {l : List α} {p : Option Addr} (h : RowIn N A k l p) : ∃ b o, (l.length = 0 ∨ p = some ⟨b, o, none⟩) ∧ (b < N ∨ l.length = 0) ∧ Row A k l b o := by
 rcases h.2 with h0 | ⟨b, o, hp, hb, ha⟩
 · exact ⟨0, 0, .inl h0, .inr h0, by cases l with | nil => trivial | cons => simp at h0⟩
 · exact ⟨b, o, .inr hp, .inl hb, ha⟩
theorem one_alloc (w : World) (o : Obj) : ∃ W, w.alloc o = W ∧ W.heap[w.heap.size]? = some o ∧ Below w.heap.size w W ∧ W.heap.size = w.heap.size + 1 :=
 ⟨_, rfl, heap_alloc_new w o, (Below.refl _ w).alloc (Nat.le_refl _) _, by simp⟩
set_option maxHeartbeats 3200000 in
theorem size1_any (x : Prg) (p q : Option Addr) (c d N pb g : Nat) (w : World) (hP : PB w N x pb p q c d) (hN : N ≤ w.heap.size) (hg : N ≤ g) (hC : Ct w g 0) (hpg : pb ≠ g) :
   Calls Tryz.prog 94 #[.pointer (some ⟨g, 0, none⟩), .pointer (some ⟨pb, 0, none⟩)] w (Cnt g 0 x.total w) := by
 obtain ⟨W0, hW0, k0, hB0, hz0⟩ := one_alloc w (.cells #[ctFn g] 1)
 have hgw : g < w.heap.size := lt_blk hC
 have HCb := Lib.hid (show Cb W0 g w.heap.size from ⟨k0, by omega⟩)
 have HB0 := Lib.hid (But.of_below (g := g) hB0)
 have HP := Lib.hid (hP.but HB0.out hg hN hpg)
 have HC := Lib.hid (hC.later hB0)
 have HN0 := Lib.hid (show N ≤ W0.heap.size by omega)
 have HW0 := Lib.hid hW0
 obtain ⟨hm, b, o, hq, hb, ha⟩ : x.fns.length ≤ 140737488355328 ∧ ∃ b o, (x.fns.length = 0 ∨ q = some ⟨b, o, none⟩) ∧ (b < N ∨ x.fns.length = 0) ∧ Row (Fnc.At W0 N) 5 x.fns b o := ⟨HP.out.ok.2.1, Row.start HP.out.ok.2⟩
 have Hb := Lib.hid hb
 have s1 : W0.cell? ⟨pb, 1, none⟩ = some (.slice q x.fns.length d) := cell_blk HP.out.cs (j := 1) rfl
 unfold ctFn at HW0
 unfold Prg.total
 clear hW0 k0 hB0 hz0 hP hC hb
 go_enter Tryz.func94, Tryz.ntmps94
 rw [← HW0.out] at s1
 go_wp2_with fail
 rw [HW0.out]
 clear HW0 s1
 go_loopw [8] (fun i wr => ∃ (k v : Nat) (r : List Fnc), i = .int .i64 k ∧ k + r.length = x.fns.length ∧ v ≤ 65536 ∧ Hid (Row (Fnc.At W0 N) 5 r b (o + k * 5)) ∧ Hid (Ct wr g v ∧ But g W0 wr) ∧ Hid (v + sumSc r = sumSc x.fns)) (fun i _ => x.fns.length - (intOf i).toNat)
 case atStart => exact ⟨0, 0, x.fns, rfl, by omega, by omega, Lib.hid (by rw [Nat.zero_mul]; exact ha), Lib.hid ⟨HC.out, But.refl _ _⟩, Lib.hid (by omega)⟩
 case round =>
   obtain ⟨k, v, r, rfl, hk, hv, hr, hCB, hE⟩ := hrel
   have s1r : wr.cell? ⟨pb, 1, none⟩ = some (.slice _ x.fns.length d) := cell_blk (HP.out.but hCB.out.2 hg HN0.out hpg).cs (j := 1) rfl
   cases r with
   | nil =>
     simp only [List.length_nil] at hk
     have hge : ¬ k < x.fns.length := by omega
     have hR := Lib.hid (show Cnt g 0 (sumSc x.fns) w (.returned (.tuple #[])) wr by
       have h := hE.out
       rw [sumSc, Nat.add_zero] at h
       subst h
       exact .ok (by omega) (by rw [Nat.zero_add]; exact hCB.out.1) (HB0.out.trans hCB.out.2))
     go_wp2_with fail
     go_end0
     exact hR.out
   | cons y r =>
     obtain ⟨hy, hr'⟩ := hr.out
     simp only [List.length_cons] at hk
     have hlt : k < x.fns.length := by omega
     rcases hq with h0 | rfl
     · omega
     have HEy := Lib.hid hE.out
     have HR := Lib.hid hr'
     obtain ⟨q4, c4, d4, hok4⟩ := Fnc.At.bodyC (Fnc.At.later (hCB.out.2.old hg HN0.out) (Nat.le_refl N) y b (o + k * 5) (by have := Hb.out; omega) hy)
     have hCl := Lib.hid (each_to _ y.body (Nat.lt_succ_self _) 1 (by omega) q4 c4 N wr v g w.heap.size hok4 (Nat.le_trans HN0.out hCB.out.2.size) hg (HCb.out.but hCB.out.2) hCB.out.1 hv)
     unfold seeFn at hCl
     rw [show ((1 : Nat) : Int) = 1 from rfl] at hCl
     clear hy hr' hr hE hok4
     go_wp2_with fail
     refine hCl.out.mono ?_
     intro z w3 hc
     rcases hc with ⟨h1, h2, h3⟩ | ⟨h1, h2, h3⟩
     rotate_left
     · have hR := Lib.hid (show Cnt g 0 (sumSc x.fns) w (Pn 13) w3 from .no (by have := HEy.out; rw [sumSc] at this; omega) h2 (HB0.out.trans (hCB.out.2.trans h3)))
       unfold Pn at hR ⊢
       clear h1 h2 h3
       go_wp2_with fail
       exact ⟨rfl, hR.out⟩
     have hCB2 := Lib.hid (And.intro h2 (hCB.out.2.trans h3))
     clear h2 h3
     go_wp2_with fail
     go_roundw
     case rel => exact ⟨k + 1, _, r, by go_num, by omega, h1, Lib.hid (by rw [show o + (k + 1) * 5 = o + k * 5 + 5 by omega]; exact HR.out), hCB2, Lib.hid (by have := HEy.out; rw [sumSc] at this; omega)⟩
     case measure => simp [intOf]; omega

theorem not_nilE (v : Value) (W : World) : (binOp .eql 20 (.iface 29 v) .nilIface).run Tryz.prog W = .ok (.bool false) W := by kernel_rfl
theorem is_errno (r : Int) (W : World) : (Instr.typeAssert (.iface 29 (.int .i64 r)) 20 29 true).run Tryz.prog W = .ok (.tuple #[.int .i64 r, .bool true]) W := by kernel_rfl
set_option maxHeartbeats 1600000 in
theorem idle_any (p : Addr) (w : World) :
   CallsD Tryz.prog 77 #[.pointer (some p)] .returning w fun e u' w' => e = .returned (.tuple #[]) ∧ u' = .returning ∧ w' = w := by
 refine callsD_of_wpS Tryz.func77 rfl fun c₀ cs hu => ?_
 apply wpS_seq
 apply wpS_region
 simp [wpOpsS, go_sem, recoverD, hu, Tryz.ntmps77, Exit.thenS]
 refine wpS_of_wp ?_
 go_wp2
 cases c₀
 simp_all [bodyPostS, results, Tryz.results77]
set_option maxHeartbeats 1600000 in
theorem caught1_any (g : Nat) (r : Int) (older : List PanicEntry) (w : World) (hg : w.heap[g]? = some (.cells #[.int .i64 0] 29 (0, 0))) :
   CallsD Tryz.prog 77 #[.pointer (some ⟨g, 0, none⟩)] (.panicking ({ v := .iface 29 (.int .i64 r), recovered := false } :: older)) w fun e u' w' =>
     e = .returned (.tuple #[]) ∧ u' = .panicking ({ v := .iface 29 (.int .i64 r), recovered := true } :: older) ∧ w' = w.setCell ⟨g, 0, none⟩ (.int .i64 r) := by
 have h1 := not_nilE
 have h2 := is_errno
 have d0 := cell_blk hg (j := 0) rfl
 have f0 : w.frozen? ⟨g, 0, none⟩ = false := by simp [World.frozen?, hg]
 refine callsD_of_wpS Tryz.func77 rfl fun c₀ cs hu => ?_
 apply wpS_seq
 apply wpS_region
 simp [wpOpsS, go_sem, recoverD, hu, Tryz.ntmps77, Exit.thenS]
 refine wpS_of_wp ?_
 clear hg
 go_wp2_with fail
 cases c₀
 simp_all [bodyPostS, results, Tryz.results77]
/- Taking an operation of a drawn region: its number and its value, the rest found. -/
open Go.RowKit

section
variable {P : Program} {md : Region.Mode} {ops : Array Oper} {Q : Exit → Act → World → Prop} {S : World → Prop}
theorem tk (i : Nat) (v : Value) {oi : Oper} {fuel : Nat} {listed : Array Bool} {a : Act} {w : World} (hi : ops.toList[i]? = some oi)
   (hy : YieldsIf P ops S oi v a) (h : wpAnyH P md ops Q S fuel (listed.setIfInBounds i true) (a.put oi.dst v) w)
   (hs : Region.noSelect ops = true := by kernel_rfl) (hf : Region.free md ops listed i = true := by kernel_rfl) (hr : (Region.ready md ops listed).contains i = true := by kernel_rfl)
   (hQ : ∀ c a w, Q (.panic c) (a.put oi.dst v) w → Q (.panic c) a w := by exact fun _ _ _ h => h) (hS : S w := by assumption) : wpAnyH P md ops Q S (fuel + 1) listed a w :=
 wpAnyH_take (Array.getElem?_toList.symm.trans hi) hs hf hr hQ hy hS h
theorem rdy {fuel : Nat} {listed : Array Bool} {a : Act} {w : World} {i : Nat} {o : Oper} {rs : List Nat} (ho : ops.toList[i]? = some o)
   (h : ∀ K' : Act → World → Prop, Shut (∀ a w, S w → (S w → wpAnyH P md ops Q S fuel (listed.setIfInBounds i true) a w) → K' a w) → if Region.wanted o (yielded ops a.tmps) = true then Oper.wp P o a w K' Q else K' (a.put o.dst undef) w)
   (hs : AllReadyH P md ops Q S fuel listed a w rs) : AllReadyH P md ops Q S fuel listed a w (i :: rs) :=
 AllReadyH.cons (Array.getElem?_toList.symm.trans ho) h hs
end
/- A drawn region whose stores hit what it loads: what its loads need holds till the first of them. -/
open Go.RowKit

section
variable {P : Program} {md : Region.Mode} {ops : Array Oper} {Q : Exit → Act → World → Prop} {k : Nat} {A : World → Prop}
def wpAnyK (P : Program) (md : Region.Mode) (ops : Array Oper) (Q : Exit → Act → World → Prop) (k : Nat) (A : World → Prop) : Nat → Array Bool → Act → World → Prop
 | 0, listed, a, w => Region.ready md ops listed = [] ∧ Q .normal a w
 | fuel + 1, listed, a, w =>
   (Region.ready md ops listed = [] → Q .normal a w) ∧
   ∀ i ∈ Region.ready md ops listed, wpOp P ops Q i (fun a' w' => ((listed.setIfInBounds i true).getD k true = false → A w') ∧ wpAnyK P md ops Q k A fuel (listed.setIfInBounds i true) a' w') a w
theorem wpAny_of_k : ∀ (fuel : Nat) (listed : Array Bool) (a : Act) (w : World), wpAnyK P md ops Q k A fuel listed a w → wpAny P md ops Q fuel listed a w
 | 0, _, _, _, h => h
 | fuel + 1, _, _, _, h => ⟨h.1, fun _ hi => wpOp_mono (fun a' w' h' => wpAny_of_k fuel _ a' w' h'.2) (h.2 _ hi)⟩
theorem wpAnyK_first {i : Nat} {oi ok : Oper} {v : Value} (hi : ops[i]? = some oi) (hk : ops[k]? = some ok) (hw : ∃ e ∈ ok.after, Region.binds md e = true ∧ e.on = i) (hsel : ∀ (j : Nat) (o : Oper) cs b, ops[j]? = some o → o.op ≠ .select cs b)
   (hQ : ∀ c a w, Q (.panic c) (a.put oi.dst v) w → Q (.panic c) a w) (hik : i ≠ k) :
   ∀ (fuel : Nat) (listed : Array Bool) (a : Act) (w : World),
     (∀ j oj, ops[j]? = some oj → j ≠ i → listed.getD j true = false → (∀ e ∈ oj.after, Region.binds md e = true → e.on ≠ i) → oi.apart ops oj = true) →
     i ∈ Region.ready md ops listed → listed.getD k true = false → YieldsIf P ops A oi v a → A w →
     wpAnyK P md ops Q k A fuel (listed.setIfInBounds i true) (a.put oi.dst v) w → wpAnyK P md ops Q k A (fuel + 1) listed a w := by
 intro fuel
 induction fuel with
 | zero =>
   intro listed a w _ hr _ hy hS H
   refine ⟨fun h => (by rw [h] at hr; cases hr), fun j hj => ?_⟩
   by_cases hji : j = i
   · subst hji; exact hy.wpOp hi hS ⟨fun _ => hS, H⟩
   · have := ready_mono hj hji
     rw [H.1] at this
     cases this
 | succ fuel ih =>
   intro listed a w hfree hr hkl hy hS H
   refine ⟨fun h => (by rw [h] at hr; cases hr), fun j hj => ?_⟩
   by_cases hji : j = i
   · subst hji; exact hy.wpOp hi hS ⟨fun _ => hS, H⟩
   · have h1 := H.2 j (ready_mono hj hji)
     obtain ⟨hjun, oj, hoj, hall⟩ := mem_ready.1 hj
     have hnot : ∀ e ∈ oj.after, Region.binds md e = true → e.on ≠ i := fun e he hb heq => by
       have h1 := hall e he hb
       have h0 := (mem_ready.1 hr).1
       rw [heq] at h1
       rcases Nat.lt_or_ge i listed.size with h' | h'
       · simp [h'] at h0 h1; rw [h0] at h1; cases h1
       · simp [Array.getElem?_eq_none h'] at h1
     have hjk : j ≠ k := fun e => by
       subst e
       rw [hk] at hoj
       obtain rfl : ok = oj := by injection hoj
       obtain ⟨e, he, hb, hon⟩ := hw
       exact hnot e he hb hon
     have h2 := wpOp_putIf hoj (hfree j oj hoj hji hjun hnot) (fun cs b => hsel i oi cs b hi) (fun cs b => hsel j oj cs b hoj) hQ hy h1
     have hfree' : ∀ k' ok', ops[k']? = some ok' → k' ≠ i → (listed.setIfInBounds j true).getD k' true = false →
         (∀ e ∈ ok'.after, Region.binds md e = true → e.on ≠ i) → oi.apart ops ok' = true := fun k' ok' hk' hki hun hno => by
       refine hfree k' ok' hk' hki ?_ hno
       by_cases hjk : j = k'
       · subst hjk; exact hjun
       · rw [getD_set_ne true hjk] at hun; exact hun
     refine wpOp_mono (fun a' w' h3 => ?_) h2
     have hA : A w' := h3.2.1 (by rw [getD_set_ne true hjk, getD_set_ne true hik]; exact hkl)
     refine ⟨fun _ => hA, ih (listed.setIfInBounds j true) a' w' hfree' (ready_mono hr (Ne.symm hji)) (by rw [getD_set_ne true hjk]; exact hkl) h3.1 hA ?_⟩
     rw [Array.setIfInBounds_comm _ _ hji]
     exact h3.2.2
theorem wpAnyK_first0 {i : Nat} {oi : Oper} {v : Value} (hi : ops[i]? = some oi) (hsel : ∀ (j : Nat) (o : Oper) cs b, ops[j]? = some o → o.op ≠ .select cs b)
   (hQ : ∀ c a w, Q (.panic c) (a.put oi.dst v) w → Q (.panic c) a w) (hik : i ≠ k) :
   ∀ (fuel : Nat) (listed : Array Bool) (a : Act) (w : World),
     (∀ j oj, ops[j]? = some oj → j ≠ i → listed.getD j true = false → (∀ e ∈ oj.after, Region.binds md e = true → e.on ≠ i) → oi.apart ops oj = true) →
     i ∈ Region.ready md ops listed → YieldsIf P ops (fun _ => True) oi v a → (listed.getD k true = false → A w) →
     wpAnyK P md ops Q k A fuel (listed.setIfInBounds i true) (a.put oi.dst v) w → wpAnyK P md ops Q k A (fuel + 1) listed a w := by
 intro fuel
 induction fuel with
 | zero =>
   intro listed a w _ hr hy hS H
   refine ⟨fun h => (by rw [h] at hr; cases hr), fun j hj => ?_⟩
   by_cases hji : j = i
   · subst hji; exact hy.wpOp hi trivial ⟨fun h => hS (by rw [getD_set_ne true hik] at h; exact h), H⟩
   · have := ready_mono hj hji
     rw [H.1] at this
     cases this
 | succ fuel ih =>
   intro listed a w hfree hr hy hS H
   refine ⟨fun h => (by rw [h] at hr; cases hr), fun j hj => ?_⟩
   by_cases hji : j = i
   · subst hji; exact hy.wpOp hi trivial ⟨fun h => hS (by rw [getD_set_ne true hik] at h; exact h), H⟩
   · have h1 := H.2 j (ready_mono hj hji)
     obtain ⟨hjun, oj, hoj, hall⟩ := mem_ready.1 hj
     have hnot : ∀ e ∈ oj.after, Region.binds md e = true → e.on ≠ i := fun e he hb heq => by
       have h1 := hall e he hb
       have h0 := (mem_ready.1 hr).1
       rw [heq] at h1
       rcases Nat.lt_or_ge i listed.size with h' | h'
       · simp [h'] at h0 h1; rw [h0] at h1; cases h1
       · simp [Array.getElem?_eq_none h'] at h1
     have h2 := wpOp_putIf hoj (hfree j oj hoj hji hjun hnot) (fun cs b => hsel i oi cs b hi) (fun cs b => hsel j oj cs b hoj) hQ hy h1
     have hfree' : ∀ k' ok', ops[k']? = some ok' → k' ≠ i → (listed.setIfInBounds j true).getD k' true = false →
         (∀ e ∈ ok'.after, Region.binds md e = true → e.on ≠ i) → oi.apart ops ok' = true := fun k' ok' hk' hki hun hno => by
       refine hfree k' ok' hk' hki ?_ hno
       by_cases hjk : j = k'
       · subst hjk; exact hjun
       · rw [getD_set_ne true hjk] at hun; exact hun
     refine wpOp_mono (fun a' w' h3 => ?_) h2
     have hA : (listed.setIfInBounds j true).getD k true = false → A w' := fun h => h3.2.1 (by
       rw [Array.setIfInBounds_comm _ _ (Ne.symm hji), getD_set_ne true hik]; exact h)
     refine ⟨hA, ih (listed.setIfInBounds j true) a' w' hfree' (ready_mono hr (Ne.symm hji)) h3.1 hA ?_⟩
     rw [Array.setIfInBounds_comm _ _ hji]
     exact h3.2.2
def waitsOn (md : Region.Mode) (ops : Array Oper) (k i : Nat) : Bool := match ops[k]? with | some o => o.after.any fun e => Region.binds md e && e.on == i | none => false
theorem waitsOn_spec {i : Nat} (h : waitsOn md ops k i = true) : ∃ ok, ops[k]? = some ok ∧ ∃ e ∈ ok.after, Region.binds md e = true ∧ e.on = i := by
 unfold waitsOn at h
 cases hk : ops[k]? with
 | none => rw [hk] at h; cases h
 | some ok =>
   rw [hk] at h
   obtain ⟨j, hj, he⟩ := Array.any_eq_true.1 h
   simp only [Bool.and_eq_true, beq_iff_eq] at he
   exact ⟨ok, rfl, _, Array.getElem_mem hj, he.1, he.2⟩
theorem tkl (i : Nat) (v : Value) {oi : Oper} {fuel : Nat} {listed : Array Bool} {a : Act} {w : World} (hi : ops.toList[i]? = some oi)
   (hy : YieldsIf P ops A oi v a) (h : wpAnyK P md ops Q k A fuel (listed.setIfInBounds i true) (a.put oi.dst v) w)
   (hs : Region.noSelect ops = true := by kernel_rfl) (hf : Region.free md ops listed i = true := by kernel_rfl) (hr : (Region.ready md ops listed).contains i = true := by kernel_rfl) (hw : waitsOn md ops k i = true := by kernel_rfl) (hik : i ≠ k := by decide) (hkl : listed.getD k true = false := by kernel_rfl)
   (hQ : ∀ c a w, Q (.panic c) (a.put oi.dst v) w → Q (.panic c) a w := by exact fun _ _ _ h => h) (hS : A w := by assumption) : wpAnyK P md ops Q k A (fuel + 1) listed a w := by
 obtain ⟨ok, hk, hw⟩ := waitsOn_spec hw
 exact wpAnyK_first (Array.getElem?_toList.symm.trans hi) hk hw (Region.noSelect_spec hs) hQ hik fuel listed a w (Region.free_spec (Array.getElem?_toList.symm.trans hi) hf) (by simpa using hr) hkl hy hS h
theorem tk0 (i : Nat) (v : Value) {oi : Oper} {fuel : Nat} {listed : Array Bool} {a : Act} {w : World} (hi : ops.toList[i]? = some oi)
   (hy : YieldsIf P ops (fun _ => True) oi v a) (h : wpAnyK P md ops Q k A fuel (listed.setIfInBounds i true) (a.put oi.dst v) w)
   (hs : Region.noSelect ops = true := by kernel_rfl) (hf : Region.free md ops listed i = true := by kernel_rfl) (hr : (Region.ready md ops listed).contains i = true := by kernel_rfl) (hik : i ≠ k := by decide)
   (hQ : ∀ c a w, Q (.panic c) (a.put oi.dst v) w → Q (.panic c) a w := by exact fun _ _ _ h => h) (hS : A w := by assumption) : wpAnyK P md ops Q k A (fuel + 1) listed a w :=
 wpAnyK_first0 (Array.getElem?_toList.symm.trans hi) (Region.noSelect_spec hs) hQ hik fuel listed a w (Region.free_spec (Array.getElem?_toList.symm.trans hi) hf) (by simpa using hr) hy (fun _ => hS) h
theorem tkb (i : Nat) (v : Value) {oi : Oper} {fuel : Nat} {listed : Array Bool} {a : Act} {w : World} (hi : ops.toList[i]? = some oi)
   (hy : YieldsIf P ops (fun _ => True) oi v a) (h : wpAnyK P md ops Q k A fuel (listed.setIfInBounds i true) (a.put oi.dst v) w)
   (hs : Region.noSelect ops = true := by kernel_rfl) (hf : Region.free md ops listed i = true := by kernel_rfl) (hr : (Region.ready md ops listed).contains i = true := by kernel_rfl) (hik : i ≠ k := by decide) (hkl : listed.getD k true = true := by kernel_rfl)
   (hQ : ∀ c a w, Q (.panic c) (a.put oi.dst v) w → Q (.panic c) a w := by exact fun _ _ _ h => h) : wpAnyK P md ops Q k A (fuel + 1) listed a w :=
 wpAnyK_first0 (Array.getElem?_toList.symm.trans hi) (Region.noSelect_spec hs) hQ hik fuel listed a w (Region.free_spec (Array.getElem?_toList.symm.trans hi) hf) (by simpa using hr) hy (fun h => by rw [hkl] at h; cases h) h
theorem rdk (i : Nat) {o : Oper} {fuel : Nat} {listed : Array Bool} {a : Act} {w : World} (ho : ops.toList[i]? = some o)
   (h : ∀ K' : Act → World → Prop, Shut (∀ a w, A w → (A w → wpAnyK P md ops Q k A fuel (listed.setIfInBounds i true) a w) → K' a w) → if Region.wanted o (yielded ops a.tmps) = true then Oper.wp P o a w K' Q else K' (a.put o.dst undef) w)
   (hr : Region.ready md ops listed = [i] := by kernel_rfl) : wpAnyK P md ops Q k A (fuel + 1) listed a w :=
 ⟨fun h0 => (by rw [hr] at h0; cases h0), fun j hj => by
   rw [hr] at hj
   obtain rfl : j = i := by simpa using hj
   exact wpOp_step (Array.getElem?_toList.symm.trans ho) (fun K' hK => h K' (fun a w hS hW => hK a w ⟨fun _ => hS, hW hS⟩))⟩
theorem rdb (i : Nat) {o : Oper} {fuel : Nat} {listed : Array Bool} {a : Act} {w : World} (ho : ops.toList[i]? = some o)
   (h : ∀ K' : Act → World → Prop, Shut (∀ a w, wpAnyK P md ops Q k A fuel (listed.setIfInBounds i true) a w → K' a w) → if Region.wanted o (yielded ops a.tmps) = true then Oper.wp P o a w K' Q else K' (a.put o.dst undef) w)
   (hr : Region.ready md ops listed = [i] := by kernel_rfl) (hkl : (listed.setIfInBounds i true).getD k true = true := by kernel_rfl) : wpAnyK P md ops Q k A (fuel + 1) listed a w :=
 ⟨fun h0 => (by rw [hr] at h0; cases h0), fun j hj => by
   rw [hr] at hj
   obtain rfl : j = i := by simpa using hj
   exact wpOp_step (Array.getElem?_toList.symm.trans ho) (fun K' hK => h K' (fun a w hW => hK a w ⟨fun h => (by rw [hkl] at h; cases h), hW⟩))⟩
theorem dnk {listed : Array Bool} {a : Act} {w : World} (h : Q .normal a w) (hr : Region.ready md ops listed = [] := by kernel_rfl) :
   ∀ fuel, wpAnyK P md ops Q k A fuel listed a w
 | 0 => ⟨hr, h⟩
 | _ + 1 => ⟨fun _ => h, by rw [hr]; simp⟩
theorem bgk (k : Nat) (A : World → Prop) {id : Nat} {a : Act} {w : World} (hS : A w.drew)
   (h : A w.drew → wpAnyK P .any ops Q k A ops.size (Array.replicate ops.size false) a w.drew) (hm : P.follows .mixedOrders = true := by kernel_rfl) : (Code.region id ops true).wp P Q a w :=
 wp_region_any hm (wpAny_of_k _ _ _ _ (h hS))
end
/- Taking an operation of a drawn region by its number alone. -/
open Go.RowKit

section
variable {P : Program} {md : Region.Mode} {ops : Array Oper} {Q : Exit → Act → World → Prop} {S : World → Prop}
theorem tq (i : Nat) {v : Value} {oi : Oper} {fuel : Nat} {listed : Array Bool} {a a' : Act} {w : World} (h : wpAnyH P md ops Q S fuel (listed.setIfInBounds i true) a' w)
   (hi : ops.toList[i]? = some oi := by rfl) (hy : YieldsIf P ops S oi v a := by (refine .inl ⟨by rfl, ?_⟩; intro w hSw; (try dsimp only at hSw); go_simp; try with_reducible rfl))
   (ha : a.put oi.dst v = a' := by ((try simp only [Act.put, List.setIfInBounds_toArray, List.set_cons_zero, List.set_cons_succ]); try rfl))
   (hs : Region.noSelect ops = true := by kernel_rfl) (hf : Region.free md ops listed i = true := by kernel_rfl) (hr : (Region.ready md ops listed).contains i = true := by kernel_rfl)
   (hQ : ∀ c a w, Q (.panic c) (a.put oi.dst v) w → Q (.panic c) a w := by exact fun _ _ _ h => h) (hS : S w := by assumption) : wpAnyH P md ops Q S (fuel + 1) listed a w :=
 wpAnyH_take (Array.getElem?_toList.symm.trans hi) hs hf hr hQ hy hS (ha ▸ h)
theorem sq (i : Nat) {oi : Oper} {fuel : Nat} {listed : Array Bool} {a a' : Act} {w : World} (h : wpAnyH P md ops Q S fuel (listed.setIfInBounds i true) a' w)
   (hi : ops.toList[i]? = some oi := by rfl) (hy : YieldsIf P ops S oi undef a := by exact .inr ⟨by rfl, rfl⟩)
   (ha : a.put oi.dst undef = a' := by ((try simp only [Act.put, List.setIfInBounds_toArray, List.set_cons_zero, List.set_cons_succ]); try rfl))
   (hs : Region.noSelect ops = true := by kernel_rfl) (hf : Region.free md ops listed i = true := by kernel_rfl) (hr : (Region.ready md ops listed).contains i = true := by kernel_rfl)
   (hQ : ∀ c a w, Q (.panic c) (a.put oi.dst undef) w → Q (.panic c) a w := by exact fun _ _ _ h => h) (hS : S w := by assumption) : wpAnyH P md ops Q S (fuel + 1) listed a w :=
 wpAnyH_take (Array.getElem?_toList.symm.trans hi) hs hf hr hQ hy hS (ha ▸ h)
end
section
variable {P : Program} {md : Region.Mode} {ops : Array Oper} {Q : Exit → Act → World → Prop} {k : Nat} {A : World → Prop}
theorem tz (i : Nat) {v : Value} {oi : Oper} {fuel : Nat} {listed : Array Bool} {a a' : Act} {w : World} (h : wpAnyK P md ops Q k A fuel (listed.setIfInBounds i true) a' w)
   (hi : ops.toList[i]? = some oi := by rfl) (hy : YieldsIf P ops (fun _ => True) oi v a := by (refine .inl ⟨by rfl, ?_⟩; intro w hSw; (try dsimp only at hSw); go_simp; try with_reducible rfl))
   (ha : a.put oi.dst v = a' := by ((try simp only [Act.put, List.setIfInBounds_toArray, List.set_cons_zero, List.set_cons_succ]); try rfl))
   (hs : Region.noSelect ops = true := by kernel_rfl) (hf : Region.free md ops listed i = true := by kernel_rfl) (hr : (Region.ready md ops listed).contains i = true := by kernel_rfl) (hik : i ≠ k := by decide)
   (hQ : ∀ c a w, Q (.panic c) (a.put oi.dst v) w → Q (.panic c) a w := by exact fun _ _ _ h => h) (hS : A w := by assumption) : wpAnyK P md ops Q k A (fuel + 1) listed a w :=
 tk0 i v hi hy (ha ▸ h) hs hf hr hik hQ hS
theorem tl (i : Nat) {v : Value} {oi : Oper} {fuel : Nat} {listed : Array Bool} {a a' : Act} {w : World} (h : wpAnyK P md ops Q k A fuel (listed.setIfInBounds i true) a' w)
   (hi : ops.toList[i]? = some oi := by rfl) (hy : YieldsIf P ops A oi v a := by (refine .inl ⟨by rfl, ?_⟩; intro w hSw; (try dsimp only at hSw); go_simp; try with_reducible rfl))
   (ha : a.put oi.dst v = a' := by ((try simp only [Act.put, List.setIfInBounds_toArray, List.set_cons_zero, List.set_cons_succ]); try rfl))
   (hs : Region.noSelect ops = true := by kernel_rfl) (hf : Region.free md ops listed i = true := by kernel_rfl) (hr : (Region.ready md ops listed).contains i = true := by kernel_rfl) (hw : waitsOn md ops k i = true := by kernel_rfl) (hik : i ≠ k := by decide) (hkl : listed.getD k true = false := by kernel_rfl)
   (hQ : ∀ c a w, Q (.panic c) (a.put oi.dst v) w → Q (.panic c) a w := by exact fun _ _ _ h => h) (hS : A w := by assumption) : wpAnyK P md ops Q k A (fuel + 1) listed a w :=
 tkl i v hi hy (ha ▸ h) hs hf hr hw hik hkl hQ hS
theorem tb (i : Nat) {v : Value} {oi : Oper} {fuel : Nat} {listed : Array Bool} {a a' : Act} {w : World} (h : wpAnyK P md ops Q k A fuel (listed.setIfInBounds i true) a' w)
   (hi : ops.toList[i]? = some oi := by rfl) (hy : YieldsIf P ops (fun _ => True) oi v a := by (refine .inl ⟨by rfl, ?_⟩; intro w hSw; (try dsimp only at hSw); go_simp; try with_reducible rfl))
   (ha : a.put oi.dst v = a' := by ((try simp only [Act.put, List.setIfInBounds_toArray, List.set_cons_zero, List.set_cons_succ]); try rfl))
   (hs : Region.noSelect ops = true := by kernel_rfl) (hf : Region.free md ops listed i = true := by kernel_rfl) (hr : (Region.ready md ops listed).contains i = true := by kernel_rfl) (hik : i ≠ k := by decide) (hkl : listed.getD k true = true := by kernel_rfl)
   (hQ : ∀ c a w, Q (.panic c) (a.put oi.dst v) w → Q (.panic c) a w := by exact fun _ _ _ h => h) : wpAnyK P md ops Q k A (fuel + 1) listed a w :=
 tkb i v hi hy (ha ▸ h) hs hf hr hik hkl hQ
theorem sz (i : Nat) {oi : Oper} {fuel : Nat} {listed : Array Bool} {a a' : Act} {w : World} (h : wpAnyK P md ops Q k A fuel (listed.setIfInBounds i true) a' w)
   (hi : ops.toList[i]? = some oi := by rfl) (hy : YieldsIf P ops (fun _ => True) oi undef a := by exact .inr ⟨by rfl, rfl⟩)
   (ha : a.put oi.dst undef = a' := by ((try simp only [Act.put, List.setIfInBounds_toArray, List.set_cons_zero, List.set_cons_succ]); try rfl))
   (hs : Region.noSelect ops = true := by kernel_rfl) (hf : Region.free md ops listed i = true := by kernel_rfl) (hr : (Region.ready md ops listed).contains i = true := by kernel_rfl) (hik : i ≠ k := by decide)
   (hQ : ∀ c a w, Q (.panic c) (a.put oi.dst undef) w → Q (.panic c) a w := by exact fun _ _ _ h => h) (hS : A w := by assumption) : wpAnyK P md ops Q k A (fuel + 1) listed a w :=
 tk0 i undef hi hy (ha ▸ h) hs hf hr hik hQ hS
theorem sb (i : Nat) {oi : Oper} {fuel : Nat} {listed : Array Bool} {a a' : Act} {w : World} (h : wpAnyK P md ops Q k A fuel (listed.setIfInBounds i true) a' w)
   (hi : ops.toList[i]? = some oi := by rfl) (hy : YieldsIf P ops (fun _ => True) oi undef a := by exact .inr ⟨by rfl, rfl⟩)
   (ha : a.put oi.dst undef = a' := by ((try simp only [Act.put, List.setIfInBounds_toArray, List.set_cons_zero, List.set_cons_succ]); try rfl))
   (hs : Region.noSelect ops = true := by kernel_rfl) (hf : Region.free md ops listed i = true := by kernel_rfl) (hr : (Region.ready md ops listed).contains i = true := by kernel_rfl) (hik : i ≠ k := by decide) (hkl : listed.getD k true = true := by kernel_rfl)
   (hQ : ∀ c a w, Q (.panic c) (a.put oi.dst undef) w → Q (.panic c) a w := by exact fun _ _ _ h => h) : wpAnyK P md ops Q k A (fuel + 1) listed a w :=
 tkb i undef hi hy (ha ▸ h) hs hf hr hik hkl hQ
end
/- Size, whole. -/
open Go.RowKit

def cap (t : Nat) : Nat := if t ≤ 65536 then t else 65537
theorem Cnt.cap {g t : Nat} {w w' : World} {z : Ending} (h : Cnt g 0 t w z w') : (z = .returned (.tuple #[]) ∨ z = Pn 13) ∧ Ct w' g (cap t) ∧ But g w w' := by
 rcases h with ⟨h1, h2, h3⟩ | ⟨h1, h2, h3⟩
 · rw [Nat.zero_add] at h1 h2
   exact ⟨.inl rfl, by rw [Proofs.YtihmibggonffdaaGreat.cap, if_pos h1]; exact h2, h3⟩
 · rw [Nat.zero_add] at h1
   exact ⟨.inr rfl, by rw [Proofs.YtihmibggonffdaaGreat.cap, if_neg (by omega)]; exact h2, h3⟩
set_option maxHeartbeats 3200000 in
theorem caughtSize_any (t pb g : Nat) (w : World) (hg : g < w.heap.size) (h : ∀ W, Below w.heap.size w W → Calls Tryz.prog 94 #[.pointer (some ⟨g, 0, none⟩), .pointer (some ⟨pb, 0, none⟩)] W (Cnt g 0 t W)) :
   Calls Tryz.prog 50 #[.func (.func 94) #[] #[.pointer (some ⟨g, 0, none⟩), .pointer (some ⟨pb, 0, none⟩)]] w fun z w' => (∃ r, z = .returned (.int .i64 r)) ∧ Ct w' g (cap t) ∧ But g w w' := by
 have hmf : ∀ (fn : Fn) (first cap : Array Value) (w : World), (Instr.makeFunc fn first cap).run Tryz.prog w = .ok (.func fn first cap) w := fun _ _ _ _ => rfl
 obtain ⟨W0, hW0, k0, hB0, hz0⟩ := one_alloc w (.cells #[.int .i64 0] 29)
 have HCl := Lib.hid (h W0 hB0)
 have HB0 := Lib.hid (But.of_below (g := g) hB0)
 have HK := Lib.hid k0
 have HW0 := Lib.hid hW0
 have hne : w.heap.size ≠ g := by omega
 clear hW0 k0 hB0 hz0 h
 go_enter_defers Tryz.func50, Tryz.ntmps50
 go_wp2_with fail
 rw [HW0.out]
 refine HCl.out.mono ?_
 intro z w1 hc
 obtain ⟨hz, h2, h3⟩ := hc.cap
 have k1 := (h3.block _ (lt_blk HK.out) hne).trans HK.out
 have H1 := Lib.hid (And.intro h2 (HB0.out.trans h3))
 have HK1 := Lib.hid k1
 clear hc h2 h3
 rcases hz with rfl | rfl
 · have c0 : w1.cell? ⟨w.heap.size, 0, none⟩ = some (.int .i64 0) := cell_blk k1 rfl
   have f0 : w1.frozen? ⟨w.heap.size, 0, none⟩ = false := by simp [World.frozen?, k1]
   have hF := heap_setCell_one k1 (.int .i64 0)
   have H2 := Lib.hid (show Ct (w1.setCell ⟨w.heap.size, 0, none⟩ (.int .i64 0)) g (cap t) ∧ But g w (w1.setCell ⟨w.heap.size, 0, none⟩ (.int .i64 0)) from ⟨(Below.heap_setCell w1 _ _ _ (Ne.symm hne)).trans H1.out.1, ⟨H1.out.2.os, H1.out.2.tape, H1.out.2.output, by simpa [World.setCell] using H1.out.2.size, fun k hk hn => (Below.heap_setCell w1 _ _ _ (Nat.ne_of_lt hk)).trans (H1.out.2.block k hk hn)⟩⟩)
   have HF := Lib.hid hF
   clear k1 hF
   go_wp2_with fail
   refine leaves_cons (f := 77) (args := #[.pointer (some ⟨w.heap.size, 0, none⟩)]) (by simp) (by simp [go_sem]) ?_
   refine (idle_any _ _).mono ?_
   rintro e u w9 ⟨rfl, rfl, rfl⟩
   have y0 := cell_blk HF.out (j := 0) rfl
   refine ⟨.int .i64 0, ?_, ⟨0, rfl⟩, H2.out⟩
   simp [results, Tryz.results50, go_sem, y0]
 · unfold Pn
   go_wp2_with fail
   refine leaves_cons (f := 77) (args := #[.pointer (some ⟨w.heap.size, 0, none⟩)]) (by simp) (by simp [go_sem]) ?_
   refine (caught1_any w.heap.size 13 [] w1 HK1.out).mono ?_
   rintro e u w9 ⟨rfl, rfl, rfl⟩
   have hF := heap_setCell_one HK1.out (.int .i64 13)
   have y0 := cell_blk hF (j := 0) rfl
   have H2 : Ct (w1.setCell ⟨w.heap.size, 0, none⟩ (.int .i64 13)) g (cap t) ∧ But g w (w1.setCell ⟨w.heap.size, 0, none⟩ (.int .i64 13)) := ⟨(Below.heap_setCell w1 _ _ _ (Ne.symm hne)).trans H1.out.1, ⟨H1.out.2.os, H1.out.2.tape, H1.out.2.output, by simpa [World.setCell] using H1.out.2.size, fun k hk hn => (Below.heap_setCell w1 _ _ _ (Nat.ne_of_lt hk)).trans (H1.out.2.block k hk hn)⟩⟩
   show Leaves _ _ _ _ [] (settle _) _
   refine ⟨.int .i64 13, ?_, ⟨13, rfl⟩, H2⟩
   simp [results, Tryz.results50, go_sem, y0]

theorem two_alloc (w : World) (o0 o1 : Obj) : ∃ W, (w.alloc o0).alloc o1 = W ∧ W.heap[w.heap.size]? = some o0 ∧ W.heap[w.heap.size + 1]? = some o1 ∧ Below w.heap.size w W ∧ W.heap.size = w.heap.size + 2 := by
 refine ⟨_, rfl, ?_, ?_, ((Below.refl _ w).alloc (Nat.le_refl _) _).alloc (by simp) _, by simp⟩
 · rw [Below.heap_alloc _ _ _ (by simp)]; exact heap_alloc_new w o0
 · have := heap_alloc_new (w.alloc o0) o1; simpa using this
structure PrgP where
 (p q : Option Addr) (c d : Nat)
def Prg.v (x : Prg) (s : PrgP) : Value := .agg #[.slice s.p x.regs.length s.c, .slice s.q x.fns.length s.d]
set_option maxHeartbeats 1600000 in
theorem size_any (x : Prg) (s : PrgP) (N : Nat) (w : World) (h : x.Ok w N s.p s.q) (hN : N ≤ w.heap.size) :
   Calls Tryz.prog 80 #[x.v s] w fun z w' => z = .returned (.int .i64 (cap x.total : Nat)) ∧ Below w.heap.size w w' := by
 obtain ⟨W0, hW0, k0, k1, hB0, hz0⟩ := two_alloc w (.cells #[.slice s.p x.regs.length s.c, .slice s.q x.fns.length s.d] 25) (.cells #[.int .i64 0] 3)
 have HCl := Lib.hid (caughtSize_any x.total w.heap.size (w.heap.size + 1) W0 (by omega) fun W hW => size1_any x s.p s.q s.c s.d N w.heap.size (w.heap.size + 1) W ⟨(hW.block _ (lt_blk k0)).trans k0, h.later ((hB0.trans (hW.mono (by omega))).mono hN) (Nat.le_refl N)⟩ (by have := hW.size; omega) (by omega) ((hW.block _ (lt_blk k1)).trans k1) (by omega))
 have HB0 := Lib.hid (show Below w.heap.size w W0 ∧ w.heap.size ≤ W0.heap.size from ⟨hB0, by omega⟩)
 have HW0 := Lib.hid hW0
 unfold Prg.v
 clear hW0 k0 k1 hB0 hz0 h
 go_enter Tryz.func80, Tryz.ntmps80
 go_wp2_with fail
 rw [HW0.out]
 refine HCl.out.mono ?_
 rintro z w1 ⟨⟨r, rfl⟩, h2, h3⟩
 have c0 : w1.cell? ⟨w.heap.size + 1, 0, none⟩ = some (.int .i64 (cap x.total : Nat)) := cell_blk h2 rfl
 have HB := Lib.hid (But.below HB0.out.1 h3 (by omega) HB0.out.2)
 clear h2 h3
 go_wp2_with fail
 go_ret
 exact ⟨rfl, HB.out⟩
/- How many parts a program has. -/
open Go.RowKit

theorem Chk.no' {r e : Nat} {w w' : World} (h : r = e) (he : e ≠ 0) (hB : Below w.heap.size w w') : Chk r w (Pn (e : Int)) w' := by subst h; exact .no he hB
theorem few_yes (n l m : Int) (w : World) (h : (decide (l ≤ n) && decide (n ≤ m)) = true) : Calls Tryz.prog 78 #[.int .i64 n, .int .i64 l, .int .i64 m] w fun z w' => z = .returned (.tuple #[]) ∧ w' = w := by
 simp only [Bool.and_eq_true] at h
 obtain ⟨h1, h2⟩ := h
 go_enter Tryz.func78, Tryz.ntmps78
 go_wp2_with (go_at_call 79; refine (must_yes 13 _).mono ?_; rintro e w' ⟨rfl, rfl⟩)
 go_end0
 exact ⟨rfl, rfl⟩
theorem few_no (n l m : Int) (w : World) (h : (decide (l ≤ n) && decide (n ≤ m)) = false) : Calls Tryz.prog 78 #[.int .i64 n, .int .i64 l, .int .i64 m] w fun z w' => z = Pn 13 ∧ w' = w := by
 cases h1 : decide (l ≤ n) with
 | false =>
   clear h
   go_enter Tryz.func78, Tryz.ntmps78
   go_wp2_with (go_at_call 79; refine (must_no 13 _).mono ?_; rintro e w' ⟨rfl, rfl⟩; unfold Pn)
   exact ⟨rfl, rfl, rfl⟩
 | true =>
   rw [h1, Bool.true_and] at h
   go_enter Tryz.func78, Tryz.ntmps78
   go_wp2_with (go_at_call 79; refine (must_no 13 _).mono ?_; rintro e w' ⟨rfl, rfl⟩; unfold Pn)
   exact ⟨rfl, rfl, rfl⟩
def fewB (n l m : Int) : Bool := decide (l ≤ n) && decide (n ≤ m)
theorem few_any (n l m : Int) (w : World) : Calls Tryz.prog 78 #[.int .i64 n, .int .i64 l, .int .i64 m] w fun z w' => ((fewB n l m = true ∧ z = .returned (.tuple #[])) ∨ (fewB n l m = false ∧ z = Pn 13)) ∧ w = w' := by
 cases h : fewB n l m with
 | true => exact (few_yes n l m w h).mono fun z w' hz => ⟨.inl ⟨rfl, hz.1⟩, hz.2.symm⟩
 | false => exact (few_no n l m w h).mono fun z w' hz => ⟨.inr ⟨rfl, hz.1⟩, hz.2.symm⟩
def Rgn.few (r : Rgn) : Bool := fewB r.size 1 512
def Vr.few (v : Vr) : Bool := !((v.kind == 2) || (v.kind == 3)) || fewB v.size 1 512
def Fnc.few (f : Fnc) : Bool := fewB ((f.params.length : Int) + (f.vars.length : Int)) 0 64 && fewB f.rets.length 0 64 && f.params.all Vr.few && f.vars.all Vr.few
def Prg.few (x : Prg) : Bool := fewB x.regs.length 0 16 && fewB x.fns.length 1 32 && x.regs.all Rgn.few && x.fns.all Fnc.few && fewB (cap x.total) 0 65536
end Go.Proofs.YtihmibggonffdaaGreat
