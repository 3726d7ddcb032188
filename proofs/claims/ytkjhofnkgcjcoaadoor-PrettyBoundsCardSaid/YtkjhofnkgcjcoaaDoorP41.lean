/- Taking an operation of a drawn region: its number and its value, the rest found. -/
import Derived.Test.YtkjhofnkgcjcoaaDoorP35
import Derived.Deep.RegionLaw
import Derived.OrdersHeld
import Derived.Deep.RegionHeld
import Derived.WalkKit
import Derived.ProofKit
import Derived.Test.YtkjhofnkgcjcoaaDoorP40
import Derived.Deep.Upon
import Derived.Test.YtkjhofnkgcjcoaaDoorP20
namespace Go.Proofs.YtkjhofnkgcjcoaaDoor
open Go.RowKit

section
variable {P : Program} {md : Region.Mode} {ops : Array Oper} {Q : Exit → Act → World → Prop} {S : World → Prop}
theorem tk (i : Nat) (v : Value) {oi : Oper} {fuel : Nat} {listed : Array Bool} {a : Act} {w : World} (hi : ops.toList[i]? = some oi)
    (hy : YieldsIf P ops S oi v a) (h : wpAnyH P md ops Q S fuel (listed.setIfInBounds i true) (a.put oi.dst v) w)
    (hs : Region.noSelect ops = true := by kernel_rfl) (hf : Region.free md ops listed i = true := by kernel_rfl) (hr : (Region.ready md ops listed).contains i = true := by kernel_rfl)
    (hQ : ∀ c a w, Q (.panic c) (a.put oi.dst v) w → Q (.panic c) a w := by exact fun _ _ _ h => h) (hS : S w := by assumption) : wpAnyH P md ops Q S (fuel + 1) listed a w :=
  wpAnyH_take (Array.getElem?_toList.symm.trans hi) hs hf hr hQ hy hS h
theorem rdy {fuel : Nat} {listed : Array Bool} {a : Act} {w : World} {i : Nat} {o : Oper} {rs : List Nat} (ho : ops.toList[i]? = some o)
    (h : ∀ K' : Act → World → Prop, Shut (∀ a w, S w → (S w → wpAnyH P md ops Q S fuel (listed.setIfInBounds i true) a w) → K' a w) → if Region.wanted o (yielded ops a.tmps) = true then Oper.wp P o a w K' Q else K' (a.put o.dst undef) w)
    (hs : AllReadyH P md ops Q S fuel listed a w rs) : AllReadyH P md ops Q S fuel listed a w (i :: rs) :=
  AllReadyH.cons (Array.getElem?_toList.symm.trans ho) h hs
end
end Go.Proofs.YtkjhofnkgcjcoaaDoor
/- A drawn region whose stores hit what it loads: what its loads need holds till the first of them. -/
namespace Go.Proofs.YtkjhofnkgcjcoaaDoor
open Go.RowKit

section
variable {P : Program} {md : Region.Mode} {ops : Array Oper} {Q : Exit → Act → World → Prop} {k : Nat} {A : World → Prop}
/-- whatever order is picked from here on, and till number k has come up A holds -/
def wpAnyK (P : Program) (md : Region.Mode) (ops : Array Oper) (Q : Exit → Act → World → Prop) (k : Nat) (A : World → Prop) : Nat → Array Bool → Act → World → Prop
  | 0, listed, a, w => Region.ready md ops listed = [] ∧ Q .normal a w
  | fuel + 1, listed, a, w =>
    (Region.ready md ops listed = [] → Q .normal a w) ∧
    ∀ i ∈ Region.ready md ops listed, wpOp P ops Q i (fun a' w' => ((listed.setIfInBounds i true).getD k true = false → A w') ∧ wpAnyK P md ops Q k A fuel (listed.setIfInBounds i true) a' w') a w
theorem wpAny_of_k : ∀ (fuel : Nat) (listed : Array Bool) (a : Act) (w : World), wpAnyK P md ops Q k A fuel listed a w → wpAny P md ops Q fuel listed a w
  | 0, _, _, _, h => h
  | fuel + 1, _, _, _, h => ⟨h.1, fun _ hi => wpOp_mono (fun a' w' h' => wpAny_of_k fuel _ a' w' h'.2) (h.2 _ hi)⟩
theorem wpAnyK_first {i : Nat} {oi ok : Oper} {v : Value} (hi : ops[i]? = some oi) (hk : ops[k]? = some ok) (hw : ∃ e ∈ ok.after, Region.binds md e = true ∧ e.on = i) (hsel : ∀ (j : Nat) (o : Oper) cs b, ops[j]? = some o → o.op ≠ .select cs b)
    (hQ : ∀ c a w, Q (.panic c) (a.put oi.dst v) w → Q (.panic c) a w) (hik : i ≠ k) :
    ∀ (fuel : Nat) (listed : Array Bool) (a : Act) (w : World),
      (∀ j oj, ops[j]? = some oj → j ≠ i → listed.getD j true = false → (∀ e ∈ oj.after, Region.binds md e = true → e.on ≠ i) → oi.apart ops oj = true) →
      i ∈ Region.ready md ops listed → listed.getD k true = false → YieldsIf P ops A oi v a → A w →
      wpAnyK P md ops Q k A fuel (listed.setIfInBounds i true) (a.put oi.dst v) w → wpAnyK P md ops Q k A (fuel + 1) listed a w := by
  intro fuel
  induction fuel with
  | zero =>
    intro listed a w _ hr _ hy hS H
    refine ⟨fun h => (by rw [h] at hr; cases hr), fun j hj => ?_⟩
    by_cases hji : j = i
    · subst hji; exact hy.wpOp hi hS ⟨fun _ => hS, H⟩
    · have := ready_mono hj hji
      rw [H.1] at this
      cases this
  | succ fuel ih =>
    intro listed a w hfree hr hkl hy hS H
    refine ⟨fun h => (by rw [h] at hr; cases hr), fun j hj => ?_⟩
    by_cases hji : j = i
    · subst hji; exact hy.wpOp hi hS ⟨fun _ => hS, H⟩
    · have h1 := H.2 j (ready_mono hj hji)
      obtain ⟨hjun, oj, hoj, hall⟩ := mem_ready.1 hj
      have hnot : ∀ e ∈ oj.after, Region.binds md e = true → e.on ≠ i := fun e he hb heq => by
        have h1 := hall e he hb
        have h0 := (mem_ready.1 hr).1
        rw [heq] at h1
        rcases Nat.lt_or_ge i listed.size with h' | h'
        · simp [h'] at h0 h1; rw [h0] at h1; cases h1
        · simp [Array.getElem?_eq_none h'] at h1
      have hjk : j ≠ k := fun e => by
        subst e
        rw [hk] at hoj
        obtain rfl : ok = oj := by injection hoj
        obtain ⟨e, he, hb, hon⟩ := hw
        exact hnot e he hb hon
      have h2 := wpOp_putIf hoj (hfree j oj hoj hji hjun hnot) (fun cs b => hsel i oi cs b hi) (fun cs b => hsel j oj cs b hoj) hQ hy h1
      have hfree' : ∀ k' ok', ops[k']? = some ok' → k' ≠ i → (listed.setIfInBounds j true).getD k' true = false →
          (∀ e ∈ ok'.after, Region.binds md e = true → e.on ≠ i) → oi.apart ops ok' = true := fun k' ok' hk' hki hun hno => by
        refine hfree k' ok' hk' hki ?_ hno
        by_cases hjk : j = k'
        · subst hjk; exact hjun
        · rw [getD_set_ne true hjk] at hun; exact hun
      refine wpOp_mono (fun a' w' h3 => ?_) h2
      have hA : A w' := h3.2.1 (by rw [getD_set_ne true hjk, getD_set_ne true hik]; exact hkl)
      refine ⟨fun _ => hA, ih (listed.setIfInBounds j true) a' w' hfree' (ready_mono hr (Ne.symm hji)) (by rw [getD_set_ne true hjk]; exact hkl) h3.1 hA ?_⟩
      rw [Array.setIfInBounds_comm _ _ hji]
      exact h3.2.2
theorem wpAnyK_first0 {i : Nat} {oi : Oper} {v : Value} (hi : ops[i]? = some oi) (hsel : ∀ (j : Nat) (o : Oper) cs b, ops[j]? = some o → o.op ≠ .select cs b)
    (hQ : ∀ c a w, Q (.panic c) (a.put oi.dst v) w → Q (.panic c) a w) (hik : i ≠ k) :
    ∀ (fuel : Nat) (listed : Array Bool) (a : Act) (w : World),
      (∀ j oj, ops[j]? = some oj → j ≠ i → listed.getD j true = false → (∀ e ∈ oj.after, Region.binds md e = true → e.on ≠ i) → oi.apart ops oj = true) →
      i ∈ Region.ready md ops listed → YieldsIf P ops (fun _ => True) oi v a → (listed.getD k true = false → A w) →
      wpAnyK P md ops Q k A fuel (listed.setIfInBounds i true) (a.put oi.dst v) w → wpAnyK P md ops Q k A (fuel + 1) listed a w := by
  intro fuel
  induction fuel with
  | zero =>
    intro listed a w _ hr hy hS H
    refine ⟨fun h => (by rw [h] at hr; cases hr), fun j hj => ?_⟩
    by_cases hji : j = i
    · subst hji; exact hy.wpOp hi trivial ⟨fun h => hS (by rw [getD_set_ne true hik] at h; exact h), H⟩
    · have := ready_mono hj hji
      rw [H.1] at this
      cases this
  | succ fuel ih =>
    intro listed a w hfree hr hy hS H
    refine ⟨fun h => (by rw [h] at hr; cases hr), fun j hj => ?_⟩
    by_cases hji : j = i
    · subst hji; exact hy.wpOp hi trivial ⟨fun h => hS (by rw [getD_set_ne true hik] at h; exact h), H⟩
    · have h1 := H.2 j (ready_mono hj hji)
      obtain ⟨hjun, oj, hoj, hall⟩ := mem_ready.1 hj
      have hnot : ∀ e ∈ oj.after, Region.binds md e = true → e.on ≠ i := fun e he hb heq => by
        have h1 := hall e he hb
        have h0 := (mem_ready.1 hr).1
        rw [heq] at h1
        rcases Nat.lt_or_ge i listed.size with h' | h'
        · simp [h'] at h0 h1; rw [h0] at h1; cases h1
        · simp [Array.getElem?_eq_none h'] at h1
      have h2 := wpOp_putIf hoj (hfree j oj hoj hji hjun hnot) (fun cs b => hsel i oi cs b hi) (fun cs b => hsel j oj cs b hoj) hQ hy h1
      have hfree' : ∀ k' ok', ops[k']? = some ok' → k' ≠ i → (listed.setIfInBounds j true).getD k' true = false →
          (∀ e ∈ ok'.after, Region.binds md e = true → e.on ≠ i) → oi.apart ops ok' = true := fun k' ok' hk' hki hun hno => by
        refine hfree k' ok' hk' hki ?_ hno
        by_cases hjk : j = k'
        · subst hjk; exact hjun
        · rw [getD_set_ne true hjk] at hun; exact hun
      refine wpOp_mono (fun a' w' h3 => ?_) h2
      have hA : (listed.setIfInBounds j true).getD k true = false → A w' := fun h => h3.2.1 (by
        rw [Array.setIfInBounds_comm _ _ (Ne.symm hji), getD_set_ne true hik]; exact h)
      refine ⟨hA, ih (listed.setIfInBounds j true) a' w' hfree' (ready_mono hr (Ne.symm hji)) h3.1 hA ?_⟩
      rw [Array.setIfInBounds_comm _ _ hji]
      exact h3.2.2
/-- does number k wait for number i? -/
def waitsOn (md : Region.Mode) (ops : Array Oper) (k i : Nat) : Bool := match ops[k]? with | some o => o.after.any fun e => Region.binds md e && e.on == i | none => false
theorem waitsOn_spec {i : Nat} (h : waitsOn md ops k i = true) : ∃ ok, ops[k]? = some ok ∧ ∃ e ∈ ok.after, Region.binds md e = true ∧ e.on = i := by
  unfold waitsOn at h
  cases hk : ops[k]? with
  | none => rw [hk] at h; cases h
  | some ok =>
    rw [hk] at h
    obtain ⟨j, hj, he⟩ := Array.any_eq_true.1 h
    simp only [Bool.and_eq_true, beq_iff_eq] at he
    exact ⟨ok, rfl, _, Array.getElem_mem hj, he.1, he.2⟩
/-- a load, ahead of the first store -/
theorem tkl (i : Nat) (v : Value) {oi : Oper} {fuel : Nat} {listed : Array Bool} {a : Act} {w : World} (hi : ops.toList[i]? = some oi)
    (hy : YieldsIf P ops A oi v a) (h : wpAnyK P md ops Q k A fuel (listed.setIfInBounds i true) (a.put oi.dst v) w)
    (hs : Region.noSelect ops = true := by kernel_rfl) (hf : Region.free md ops listed i = true := by kernel_rfl) (hr : (Region.ready md ops listed).contains i = true := by kernel_rfl) (hw : waitsOn md ops k i = true := by kernel_rfl) (hik : i ≠ k := by decide) (hkl : listed.getD k true = false := by kernel_rfl)
    (hQ : ∀ c a w, Q (.panic c) (a.put oi.dst v) w → Q (.panic c) a w := by exact fun _ _ _ h => h) (hS : A w := by assumption) : wpAnyK P md ops Q k A (fuel + 1) listed a w := by
  obtain ⟨ok, hk, hw⟩ := waitsOn_spec hw
  exact wpAnyK_first (Array.getElem?_toList.symm.trans hi) hk hw (Region.noSelect_spec hs) hQ hik fuel listed a w (Region.free_spec (Array.getElem?_toList.symm.trans hi) hf) (by simpa using hr) hkl hy hS h
/-- what hangs on no memory, ahead of the first store -/
theorem tk0 (i : Nat) (v : Value) {oi : Oper} {fuel : Nat} {listed : Array Bool} {a : Act} {w : World} (hi : ops.toList[i]? = some oi)
    (hy : YieldsIf P ops (fun _ => True) oi v a) (h : wpAnyK P md ops Q k A fuel (listed.setIfInBounds i true) (a.put oi.dst v) w)
    (hs : Region.noSelect ops = true := by kernel_rfl) (hf : Region.free md ops listed i = true := by kernel_rfl) (hr : (Region.ready md ops listed).contains i = true := by kernel_rfl) (hik : i ≠ k := by decide)
    (hQ : ∀ c a w, Q (.panic c) (a.put oi.dst v) w → Q (.panic c) a w := by exact fun _ _ _ h => h) (hS : A w := by assumption) : wpAnyK P md ops Q k A (fuel + 1) listed a w :=
  wpAnyK_first0 (Array.getElem?_toList.symm.trans hi) (Region.noSelect_spec hs) hQ hik fuel listed a w (Region.free_spec (Array.getElem?_toList.symm.trans hi) hf) (by simpa using hr) hy (fun _ => hS) h
/-- likewise, behind it -/
theorem tkb (i : Nat) (v : Value) {oi : Oper} {fuel : Nat} {listed : Array Bool} {a : Act} {w : World} (hi : ops.toList[i]? = some oi)
    (hy : YieldsIf P ops (fun _ => True) oi v a) (h : wpAnyK P md ops Q k A fuel (listed.setIfInBounds i true) (a.put oi.dst v) w)
    (hs : Region.noSelect ops = true := by kernel_rfl) (hf : Region.free md ops listed i = true := by kernel_rfl) (hr : (Region.ready md ops listed).contains i = true := by kernel_rfl) (hik : i ≠ k := by decide) (hkl : listed.getD k true = true := by kernel_rfl)
    (hQ : ∀ c a w, Q (.panic c) (a.put oi.dst v) w → Q (.panic c) a w := by exact fun _ _ _ h => h) : wpAnyK P md ops Q k A (fuel + 1) listed a w :=
  wpAnyK_first0 (Array.getElem?_toList.symm.trans hi) (Region.noSelect_spec hs) hQ hik fuel listed a w (Region.free_spec (Array.getElem?_toList.symm.trans hi) hf) (by simpa using hr) hy (fun h => by rw [hkl] at h; cases h) h
/-- the one that must come up next, ahead of the first store -/
theorem rdk (i : Nat) {o : Oper} {fuel : Nat} {listed : Array Bool} {a : Act} {w : World} (ho : ops.toList[i]? = some o)
    (h : ∀ K' : Act → World → Prop, Shut (∀ a w, A w → (A w → wpAnyK P md ops Q k A fuel (listed.setIfInBounds i true) a w) → K' a w) → if Region.wanted o (yielded ops a.tmps) = true then Oper.wp P o a w K' Q else K' (a.put o.dst undef) w)
    (hr : Region.ready md ops listed = [i] := by kernel_rfl) : wpAnyK P md ops Q k A (fuel + 1) listed a w :=
  ⟨fun h0 => (by rw [hr] at h0; cases h0), fun j hj => by
    rw [hr] at hj
    obtain rfl : j = i := by simpa using hj
    exact wpOp_step (Array.getElem?_toList.symm.trans ho) (fun K' hK => h K' (fun a w hS hW => hK a w ⟨fun _ => hS, hW hS⟩))⟩
/-- the one that must come up next, the first store or behind it -/
theorem rdb (i : Nat) {o : Oper} {fuel : Nat} {listed : Array Bool} {a : Act} {w : World} (ho : ops.toList[i]? = some o)
    (h : ∀ K' : Act → World → Prop, Shut (∀ a w, wpAnyK P md ops Q k A fuel (listed.setIfInBounds i true) a w → K' a w) → if Region.wanted o (yielded ops a.tmps) = true then Oper.wp P o a w K' Q else K' (a.put o.dst undef) w)
    (hr : Region.ready md ops listed = [i] := by kernel_rfl) (hkl : (listed.setIfInBounds i true).getD k true = true := by kernel_rfl) : wpAnyK P md ops Q k A (fuel + 1) listed a w :=
  ⟨fun h0 => (by rw [hr] at h0; cases h0), fun j hj => by
    rw [hr] at hj
    obtain rfl : j = i := by simpa using hj
    exact wpOp_step (Array.getElem?_toList.symm.trans ho) (fun K' hK => h K' (fun a w hW => hK a w ⟨fun h => (by rw [hkl] at h; cases h), hW⟩))⟩
theorem dnk {listed : Array Bool} {a : Act} {w : World} (h : Q .normal a w) (hr : Region.ready md ops listed = [] := by kernel_rfl) :
    ∀ fuel, wpAnyK P md ops Q k A fuel listed a w
  | 0 => ⟨hr, h⟩
  | _ + 1 => ⟨fun _ => h, by rw [hr]; simp⟩
/-- the beginning -/
theorem bgk (k : Nat) (A : World → Prop) {id : Nat} {a : Act} {w : World} (hS : A w.drew)
    (h : A w.drew → wpAnyK P .any ops Q k A ops.size (Array.replicate ops.size false) a w.drew) (hm : P.follows .mixedOrders = true := by kernel_rfl) : (Code.region id ops true).wp P Q a w :=
  wp_region_any hm (wpAny_of_k _ _ _ _ (h hS))
end
end Go.Proofs.YtkjhofnkgcjcoaaDoor
/- The loop of 7000 statements: what lies where, round by round. -/
namespace Go.Proofs.YtkjhofnkgcjcoaaDoor
open Go.RowKit

/-- the cells of x = 1000000 -/
def setC : List Value := [.int .i64 1, .string ⟨#[120]⟩, .slice none 0 0, .int .i64 1, .int .u64 1000000, .string ⟨#[]⟩, .slice none 0 0, .int .i64 0, .int .u64 0, .string ⟨#[]⟩, .slice none 0 0, .slice none 0 0, .int .u64 0, .int .u64 0, .slice none 0 0, .slice none 0 0]
/-- of no statement -/
def zerC : List Value := [.int .i64 0, .string ⟨#[]⟩, .slice none 0 0, .int .i64 0, .int .u64 0, .string ⟨#[]⟩, .slice none 0 0, .int .i64 0, .int .u64 0, .string ⟨#[]⟩, .slice none 0 0, .slice none 0 0, .int .u64 0, .int .u64 0, .slice none 0 0, .slice none 0 0]
theorem setC_one : ∀ u ∈ setC, u.oneCell' = true := by simp only [setC, List.forall_mem_cons]; simp [Value.oneCell']
theorem zerC_one : ∀ u ∈ zerC, u.oneCell' = true := by simp only [zerC, List.forall_mem_cons]; simp [Value.oneCell']
def repC : Nat → List Value
  | 0 => []
  | n + 1 => setC ++ repC n
theorem repC_len : ∀ n, (repC n).length = n * 16
  | 0 => rfl
  | n + 1 => by rw [repC, List.length_append, repC_len n, show setC.length = 16 from rfl]; omega
theorem repC_snoc : ∀ n, repC n ++ setC = repC (n + 1)
  | 0 => by simp [repC]
  | n + 1 => by rw [repC, List.append_assoc, repC_snoc n]; rfl
theorem set_at {w : World} {N b o : Nat} (h : ∀ j u, setC[j]? = some u → w.cell? ⟨b, o + j, none⟩ = some u) : St.At w N (stSet (xN 1000000)) b o := by
  have e0 : ∀ x : List UInt8, x = [] → str x = (⟨#[]⟩ : ByteArray) := by rintro _ rfl; rfl
  refine ⟨⟨h 0 _ rfl, h 1 _ rfl, h 12 _ rfl, h 13 _ rfl, by decide, by decide⟩, ⟨none, 0, h 2 _ rfl, Nat.le_refl _, Nat.zero_le _, .inl rfl⟩, ?_, ?_, ⟨none, 0, h 11 _ rfl, Nat.zero_le _, .inl rfl⟩, ⟨none, 0, h 14 _ rfl, Nat.zero_le _, .inl rfl⟩, ⟨none, 0, h 15 _ rfl, Nat.zero_le _, .inl rfl⟩⟩
  · exact ⟨⟨h 3 _ rfl, h 4 _ rfl, h 5 _ rfl, by decide⟩, ⟨none, 0, h 6 _ rfl, Nat.zero_le _, .inl rfl⟩⟩
  · exact ⟨⟨h 7 _ rfl, h 8 _ rfl, h 9 _ rfl, by decide⟩, ⟨none, 0, h 10 _ rfl, Nat.zero_le _, .inl rfl⟩⟩
theorem rep_at {w : World} {N b : Nat} : ∀ (n o : Nat), (∀ j u, (repC n)[j]? = some u → w.cell? ⟨b, o + j, none⟩ = some u) → Sts.At w N (rep n) b o
  | 0, _, _ => trivial
  | n + 1, o, h => by
    refine ⟨set_at fun j u hj => h j u ?_, rep_at n (o + 16) fun j u hj => ?_⟩
    · have hlt : j < setC.length := by
        rcases Nat.lt_or_ge j setC.length with h1 | h1
        · exact h1
        · rw [List.getElem?_eq_none h1] at hj; cases hj
      rw [repC, List.getElem?_append_left hlt]; exact hj
    · have h1 := h (16 + j) u (by
        rw [repC, List.getElem?_append_right (by rw [show setC.length = 16 from rfl]; omega), show setC.length = 16 from rfl, Nat.add_sub_cancel_left]; exact hj)
      rw [show o + 16 + j = o + (16 + j) by omega]; exact h1
theorem rep_in {w : World} {B n : Nat} {v : Value} (h : w.ownsRow B 35 16 v n (repC n)) (hn : n ≤ 7000) : ∃ p c, v = .slice p n c ∧ (rep n).In w w.heap.size p := by
  rcases h.2 with ⟨rfl, rfl⟩ | ⟨g, cap, cur, rfl, hb, hg, h1, h2, h3, h4⟩
  · exact ⟨none, 0, rfl, Nat.zero_le _, .inl rfl⟩
  · refine ⟨_, _, rfl, by rw [rep_len]; omega, .inr ⟨g, 0, rfl, blk_lt hg, rep_at n 0 fun j u hj => ?_⟩⟩
    have h5 := h.cells (g := g) rfl j u hj
    rw [show (⟨g, 0, none⟩ : Addr).add j = ⟨g, 0 + j, none⟩ by unfold Addr.add; split <;> simp_all] at h5
    exact h5
def fnC (v : Value) : Array Value := #[.string ⟨#[102]⟩, .slice none 0 0, .slice none 0 0, .slice none 0 0, v]
def pgC (F : Nat) : Array Value := #[.slice none 0 0, .slice (some ⟨F, 0, none⟩) 1 1]
/-- how things lie ahead of a round: of the program A nothing below block F has changed; the body v of the function at F is a row of the call's own -/
structure Lp (F pb : Nat) (A w : World) (k : Nat) (v : Value) (xs : List Value) : Prop where
  lo : Below F A w
  lt : F < pb
  pg : w.heap[pb]? = some (.cells (pgC F) 43 (0, 0))
  fn : w.heap[F]? = some (.cells (fnC v) 39 (0, 0))
  row : w.ownsRow (pb + 1) 35 16 v k xs
theorem Lp.later {F pb k : Nat} {A w w' : World} {v : Value} {xs : List Value} (h : Lp F pb A w k v xs) (hB : Below w.heap.size w w') : Lp F pb A w' k v xs :=
  ⟨h.lo.trans (hB.mono (Nat.le_of_lt (blk_lt h.fn))), h.lt, (hB.block _ (blk_lt h.pg)).trans h.pg, (hB.block _ (blk_lt h.fn)).trans h.fn,
    h.row.kept (row := none) ⟨hB.os, hB.tape, hB.output, hB.size, fun j hj _ => hB.block j hj⟩ (Classical.em _)⟩
theorem Lp.start {F pb : Nat} {A : World} (hlt : F < pb) (hp : A.heap[pb]? = some (.cells (pgC F) 43 (0, 0))) (hf : A.heap[F]? = some (.cells (fnC (.slice none 0 0)) 39 (0, 0))) : Lp F pb A A 0 (.slice none 0 0) (repC 0) :=
  ⟨Below.refl _ _, hlt, hp, hf, World.ownsRow_nil _ _ _ _⟩
theorem own_ge {w : World} {base k : Nat} {t : TypeId} {v : Value} {xs : List Value} (h : w.ownsRow base t 16 v k xs) {g : Nat} (hg : v.ownBlock = some g) : base ≤ g := by
  rcases h.2 with ⟨rfl, _⟩ | ⟨g', cap, cur, rfl, hb, _⟩
  · simp [Value.ownBlock] at hg
  · simp [Value.ownBlock] at hg; omega
/-- the row has grown; the new one is stored -/
theorem Lp.put {F pb k k' : Nat} {A w w' : World} {v v' : Value} {xs ys : List Value} (h : Lp F pb A w k v xs) (hg : w.grownBy w' v.ownBlock) (hr : w'.ownsRow (pb + 1) 35 16 v' k' ys) : Lp F pb A (w'.setCell ⟨F, 4, none⟩ v') k' v' ys := by
  have hF := blk_lt h.fn
  have hP := blk_lt h.pg
  have hlt := h.lt
  have nF : some F ≠ v.ownBlock := fun e => by have := own_ge h.row e.symm; omega
  have nP : some pb ≠ v.ownBlock := fun e => by have := own_ge h.row e.symm; omega
  have fF := (hg.block F hF nF).trans h.fn
  have fP := (hg.block pb hP nP).trans h.pg
  refine ⟨(h.lo.grown hg (Nat.le_of_lt hF) fun j hj => by have := own_ge h.row hj; omega).setCell (p := ⟨F, 4, none⟩) (Nat.le_refl _) _, h.lt, ?_, ?_, ?_⟩
  · exact (Below.heap_setCell _ ⟨F, 4, none⟩ _ _ (by show pb ≠ F; omega)).trans fP
  · simp only [World.setCell, Array.getElem?_modify]
    simp [fF, fnC]
  · refine hr.kept (row := some F) ⟨rfl, rfl, rfl, by simp [World.setCell], fun j hj hne => Below.heap_setCell _ ⟨F, 4, none⟩ _ _ (fun e => hne (by rw [e]))⟩ ?_
    refine .inr fun e => ?_
    have := own_ge hr e; omega
theorem Lp.cells {F pb k : Nat} {A w : World} {v : Value} {xs : List Value} (h : Lp F pb A w k v xs) : w.cell? ⟨pb, 1, none⟩ = some (.slice (some ⟨F, 0, none⟩) 1 1) ∧ w.cell? ⟨F, 4, none⟩ = some v := ⟨by simp [World.cell?, h.pg, pgC], by simp [World.cell?, h.fn, fnC]⟩
theorem Lp.grow {F pb k : Nat} {A w w' : World} {v : Value} {xs : List Value} (h : Lp F pb A w k v xs) (hg : w.grownBy w' v.ownBlock) : (w'.cell? ⟨pb, 1, none⟩ = some (.slice (some ⟨F, 0, none⟩) 1 1) ∧ w'.cell? ⟨F, 4, none⟩ = some v) ∧ w'.frozen? ⟨F, 4, none⟩ = false := by
  have hF := blk_lt h.fn
  have hP := blk_lt h.pg
  have hlt := h.lt
  have nF : some F ≠ v.ownBlock := fun e => by have := own_ge h.row e.symm; omega
  have nP : some pb ≠ v.ownBlock := fun e => by have := own_ge h.row e.symm; omega
  have fF := (hg.block F hF nF).trans h.fn
  have fP := (hg.block pb hP nP).trans h.pg
  exact ⟨⟨by simp [World.cell?, fP, pgC], by simp [World.cell?, fF, fnC]⟩, by simp [World.frozen?, fF]⟩
theorem own_form {w : World} {base k : Nat} {t : TypeId} {v : Value} {xs : List Value} (h : w.ownsRow base t 16 v (k + 1) xs) : ∃ g cap, v = .slice (some ⟨g, 0, none⟩) (k + 1) cap := by
  rcases h.2 with ⟨rfl, h0⟩ | ⟨g, cap, cur, rfl, hb, _⟩
  · omega
  · exact ⟨g, cap, rfl⟩
theorem own_len {w : World} {base k : Nat} {t : TypeId} {v : Value} {xs : List Value} (h : w.ownsRow base t 16 v k xs) : ∃ p c, v = .slice p k c := by
  rcases h.2 with ⟨rfl, h0⟩ | ⟨g, cap, cur, rfl, hb, _⟩
  · exact ⟨none, 0, by rw [h0]⟩
  · exact ⟨_, _, rfl⟩
theorem row_there {w : World} {base k g cap : Nat} {t : TypeId} {xs : List Value} (h : w.ownsRow base t 16 (.slice (some ⟨g, 0, none⟩) (k + 1) cap) (k + 1) xs) : w.there g (k * 16) 16 := by
  have h0 := h.1
  rcases h.2 with ⟨hv, _⟩ | ⟨g', cap', cur, hv, hb, hg, h1, h2, h3, h4⟩
  · cases hv
  · cases hv
    intro j hj
    refine ⟨?_, by simp [World.frozen?, hg]⟩
    have hl : k * 16 + j < cur.size := by
      have : (cur.toList.take ((k + 1) * 16)).length = (k + 1) * 16 := by rw [h4]; exact h0
      rw [List.length_take, Array.length_toList] at this
      omega
    rw [show w.cell? ⟨g, k * 16 + j, none⟩ = cur[k * 16 + j]? by simp [World.cell?, hg], Array.getElem?_eq_getElem hl]; rfl
theorem Lp.base {F pb k : Nat} {A w : World} {v : Value} {xs : List Value} (h : Lp F pb A w k v xs) : pb + 1 ≤ w.heap.size := blk_lt h.pg
theorem add_at (g j : Nat) : (⟨g, 0, none⟩ : Addr).add j = ⟨g, 0 + j, none⟩ := by unfold Addr.add; split <;> simp_all
theorem new_at (w : World) (t : TypeId) (xs : List Value) (j : Nat) (u : Value) (hj : xs[j]? = some u) : (w.alloc (.cells xs.toArray t)).cell? ((⟨w.heap.size, 0, none⟩ : Addr).add j) = some u := by
  rw [add_at, Nat.zero_add]
  have h0 := heap_alloc_new w (.cells xs.toArray t)
  generalize (w.alloc (.cells xs.toArray t)) = W at h0 ⊢
  simp [World.cell?, h0, hj]
theorem add_blk (g j : Nat) : ((⟨g, 0, none⟩ : Addr).add j).block = g := by rw [add_at]
section
variable {P : Program} {md : Region.Mode} {ops : Array Oper} {Q : Exit → Act → World → Prop} {k : Nat} {A : World → Prop}
/-- two that may come up next -/
theorem rdk2 (i j : Nat) {oi oj : Oper} {fuel : Nat} {listed : Array Bool} {a : Act} {w : World} (hoi : ops.toList[i]? = some oi) (hoj : ops.toList[j]? = some oj)
    (hi : ∀ K' : Act → World → Prop, Shut (∀ a w, A w → (A w → wpAnyK P md ops Q k A fuel (listed.setIfInBounds i true) a w) → K' a w) → if Region.wanted oi (yielded ops a.tmps) = true then Oper.wp P oi a w K' Q else K' (a.put oi.dst undef) w)
    (hj : ∀ K' : Act → World → Prop, Shut (∀ a w, A w → (A w → wpAnyK P md ops Q k A fuel (listed.setIfInBounds j true) a w) → K' a w) → if Region.wanted oj (yielded ops a.tmps) = true then Oper.wp P oj a w K' Q else K' (a.put oj.dst undef) w)
    (hr : Region.ready md ops listed = [i, j] := by kernel_rfl) : wpAnyK P md ops Q k A (fuel + 1) listed a w :=
  ⟨fun h0 => (by rw [hr] at h0; cases h0), fun x hx => by
    rw [hr] at hx
    have hx' : x = i ∨ x = j := by simpa using hx
    rcases hx' with rfl | rfl
    · exact wpOp_step (Array.getElem?_toList.symm.trans hoi) (fun K' hK => hi K' (fun a w hS hW => hK a w ⟨fun _ => hS, hW hS⟩))
    · exact wpOp_step (Array.getElem?_toList.symm.trans hoj) (fun K' hK => hj K' (fun a w hS hW => hK a w ⟨fun _ => hS, hW hS⟩))⟩
end
theorem setCells_keep {t : TypeId} {q : Nat × Nat} (b : Nat) : ∀ (vs pre mid suf : List Value) (w : World), mid.length = vs.length → w.heap[b]? = some (.cells (pre ++ mid ++ suf).toArray t q) → (w.setCells b pre.length vs).heap[b]? = some (.cells (pre ++ vs ++ suf).toArray t q)
  | [], pre, mid, suf, w, h, hk => by
    have : mid = [] := List.eq_nil_of_length_eq_zero h
    subst this; exact hk
  | v :: vs, pre, [], suf, w, h, hk => by simp at h
  | v :: vs, pre, x :: mid, suf, w, h, hk => by
    rw [World.setCells]
    have h1 : (w.setCell ⟨b, pre.length, none⟩ v).heap[b]? = some (.cells ((pre ++ [v]) ++ mid ++ suf).toArray t q) := by
      simp only [World.setCell, Array.getElem?_modify]
      simp [hk]
    have := setCells_keep b vs (pre ++ [v]) mid suf _ (by simpa using h) h1
    simp only [List.length_append, List.length_cons, List.length_nil] at this
    rw [this]
    simp
theorem setCells_else (b : Nat) : ∀ (vs : List Value) (o : Nat) (w : World) (i : Nat), i ≠ b → (w.setCells b o vs).heap[i]? = w.heap[i]?
  | [], _, _, _, _ => rfl
  | v :: vs, o, w, i, h => by rw [World.setCells, setCells_else b vs (o + 1) _ i h]; exact Below.heap_setCell _ ⟨b, o, none⟩ _ _ h
theorem setCells_below {N b : Nat} {a : World} (hb : N ≤ b) : ∀ (vs : List Value) (o : Nat) {w : World}, Below N a w → Below N a (w.setCells b o vs)
  | [], _, _, h => h
  | v :: vs, o, w, h => by rw [World.setCells]; exact setCells_below hb vs (o + 1) (h.setCell (p := ⟨b, o, none⟩) hb v)
/-- the new element, which is none yet, becomes a statement -/
theorem Lp.set {F pb k g cap : Nat} {A w : World} {xs : List Value} (h : Lp F pb A w (k + 1) (.slice (some ⟨g, 0, none⟩) (k + 1) cap) (xs ++ zerC)) (hx : xs.length = k * 16) : Lp F pb A (w.setCells g (k * 16) setC) (k + 1) (.slice (some ⟨g, 0, none⟩) (k + 1) cap) (xs ++ setC) := by
  have hgb : pb + 1 ≤ g := own_ge h.row rfl
  have hlt := h.lt
  refine ⟨setCells_below (by omega) _ _ h.lo, h.lt, (setCells_else g _ _ _ _ (by omega)).trans h.pg, (setCells_else g _ _ _ _ (by omega)).trans h.fn, ?_, ?_⟩
  · rw [List.length_append, hx, show setC.length = 16 from rfl]; omega
  · rcases h.row.2 with ⟨hv, _⟩ | ⟨g', cap', cur, hv, h0, h1, h2, h3, h4, h5⟩
    · cases hv
    · cases hv
      have hc : cur = (xs ++ zerC ++ cur.toList.drop ((k + 1) * 16)).toArray := by
        rw [← h5, List.take_append_drop]
      rw [hc] at h1
      have h6 := setCells_keep g setC xs zerC _ w rfl h1
      rw [hx] at h6
      refine .inr ⟨g, cap, _, rfl, h0, h6, h2, h3, ?_, ?_⟩
      · have hz : zerC.length = 16 := rfl
        rw [← h4, hc]
        simp [show setC.length = zerC.length from rfl]
        omega
      · rw [List.take_append_of_le_length (by rw [List.length_append, hx, show setC.length = 16 from rfl]; omega)]
        exact List.take_of_length_le (by rw [List.length_append, hx, show setC.length = 16 from rfl]; omega)
/-- the loop's end: the program lies there -/
theorem Lp.prg {F pb : Nat} {A w : World} {v : Value} (h : Lp F pb A w 7000 v (repC 7000)) : longP.Ok w w.heap.size none (some ⟨F, 0, none⟩) := by
  obtain ⟨p, c, rfl, hin⟩ := rep_in h.row (Nat.le_refl _)
  have hc : ∀ j u, (fnC (.slice p 7000 c))[j]? = some u → w.cell? ⟨F, 0 + j, none⟩ = some u := fun j u hj => by
    rw [Nat.zero_add]; simpa [World.cell?, h.fn] using hj
  refine ⟨⟨Nat.zero_le _, .inl rfl⟩, ⟨by decide, .inr ⟨F, 0, rfl, blk_lt h.fn, ?_, trivial⟩⟩⟩
  refine ⟨hc 0 _ rfl, ⟨none, 0, hc 1 _ rfl, Nat.zero_le _, .inl rfl⟩, ⟨none, 0, hc 2 _ rfl, Nat.zero_le _, .inl rfl⟩, ⟨none, 0, hc 3 _ rfl, Nat.le_refl _, Nat.zero_le _, .inl rfl⟩, ⟨p, c, ?_, hin⟩⟩
  rw [show longF.body.len = 7000 from rep_len 7000]
  exact hc 4 _ rfl
end Go.Proofs.YtkjhofnkgcjcoaaDoor
