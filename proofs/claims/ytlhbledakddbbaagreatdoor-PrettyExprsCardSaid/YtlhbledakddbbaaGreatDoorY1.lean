/- A loop over a function whose iterator keeps cells of its own, and whose body writes into buffers. Over any program. -/
import Derived.RangeFuncFrom
import Derived.RangeFuncCalls
import Derived.Test.YtlhbledakddbbaaGreatDoorA8
namespace Go.Proofs.YtlhbledakddbbaaGreatDoor
open Go Go.RowKit

/-- a block that only a loop's body writes into: bytes, a Builder -/
def isBuf : Obj → Prop
  | .cells _ t _ => t = 5 ∨ t = 85
  | _ => False
theorem buf_loop (s : Loop) : ¬ isBuf (.loop s) := fun h => h
theorem buf_def (d : Option (List Deferred)) : ¬ isBuf (.deferred d) := fun h => h
/-- what lies from n on lies as it lay, but buffers -/
structure Up (n : Nat) (A B : World) : Prop where
  size : A.heap.size ≤ B.heap.size
  same : ∀ (b : Nat) (o : Obj), A.heap[b]? = some o → n ≤ b → ¬ isBuf o → B.heap[b]? = some o
theorem Up.refl (n : Nat) (A : World) : Up n A A := ⟨Nat.le_refl _, fun _ _ h _ _ => h⟩
theorem Up.trans {n : Nat} {A B C : World} (h : Up n A B) (k : Up n B C) : Up n A C := ⟨Nat.le_trans h.size k.size, fun b o hb hn ho => k.same b o (h.same b o hb hn ho) hn ho⟩
theorem Up.mono {n m : Nat} {A B : World} (h : Up n A B) (hm : n ≤ m) : Up m A B := ⟨h.size, fun b o hb hn ho => h.same b o hb (Nat.le_trans hm hn) ho⟩
theorem Up.alloc {n : Nat} {A B : World} (h : Up n A B) (o : Obj) : Up n A (B.alloc o) :=
  ⟨Nat.le_trans h.size (by simp), fun b o' hb hn ho => (Below.heap_alloc _ _ _ (lt_of_block (h.same b o' hb hn ho))).trans (h.same b o' hb hn ho)⟩
theorem Up.setCell {n : Nat} {A B : World} (h : Up n A B) {p : Addr} (hp : p.block < n) (v : Value) : Up n A (B.setCell p v) :=
  ⟨Nat.le_trans h.size (by simp [World.setCell]), fun b o hb hn ho => (Below.heap_setCell _ _ _ _ (by omega)).trans (h.same b o hb hn ho)⟩
theorem Up.below {n : Nat} {A B C : World} (h : Up n A B) (hb : Below B.heap.size B C) : Up n A C :=
  ⟨Nat.le_trans h.size hb.size, fun b o ho hn hf => (hb.block b (lt_of_block (h.same b o ho hn hf))).trans (h.same b o ho hn hf)⟩
theorem Up.drew {n : Nat} {A B : World} (h : Up n A B) : Up n A B.drew := ⟨h.size, h.same⟩
/-- what an iterator may do: nothing below n, and no buffer -/
structure Rn (n : Nat) (A B : World) : Prop where
  bel : Below n A B
  buf : ∀ (b : Nat) (o : Obj), A.heap[b]? = some o → isBuf o → B.heap[b]? = some o
theorem Rn.refl (n : Nat) (A : World) : Rn n A A := ⟨Below.refl _ _, fun _ _ h _ => h⟩
theorem Rn.trans {n : Nat} {A B C : World} (h : Rn n A B) (k : Rn n B C) : Rn n A C := ⟨h.bel.trans k.bel, fun b o hb hf => k.buf b o (h.buf b o hb hf) hf⟩
theorem Rn.mono {n m : Nat} {A B : World} (h : Rn n A B) (hm : m ≤ n) : Rn m A B := ⟨h.bel.mono hm, h.buf⟩
theorem Rn.of_below {n : Nat} {A B : World} (h : Below A.heap.size A B) (hn : n ≤ A.heap.size) : Rn n A B := ⟨h.mono hn, fun b _ hb _ => (h.block b (lt_of_block hb)).trans hb⟩
theorem Rn.setCell {n : Nat} {A B : World} (h : Rn n A B) {p : Addr} {o : Obj} (hp : B.heap[p.block]? = some o) (ho : ¬ isBuf o) (hn : n ≤ p.block) (v : Value) : Rn n A (B.setCell p v) :=
  ⟨h.bel.setCell hn v, fun b o' hb hf => by
    have h1 := h.buf b o' hb hf
    rw [Below.heap_setCell _ _ _ _ (fun e => by subst e; rw [hp] at h1; cases h1; exact ho hf)]; exact h1⟩
theorem rn_put {n l : Nat} {W : World} {o' : Obj} (o : Obj) (h : n ≤ l) (hl : W.heap[l]? = some o') (hf : ¬ isBuf o') : Rn n W (W.putObj l o) :=
  ⟨⟨rfl, rfl, rfl, by simp, fun _ hk => World.putObj_heap_other (by omega)⟩, fun b o2 hb hb2 => by
    rw [World.putObj_heap_other (fun e => by subst e; rw [hl] at hb; cases hb; exact hf hb2)]; exact hb⟩
/-- all as it was but one block -/
structure But (g : Nat) (w w' : World) : Prop where
  os : w'.os = w.os
  tape : w'.tape = w.tape
  output : w'.output = w.output
  size : w.heap.size ≤ w'.heap.size
  block : ∀ k, k < w.heap.size → k ≠ g → w'.heap[k]? = w.heap[k]?
theorem but_put {l : Nat} {W : World} (o : Obj) : But l W (W.putObj l o) :=
  ⟨rfl, rfl, rfl, by simp, fun _ _ hn => World.putObj_heap_other hn⟩

/-- what an iterator does that hands on xs, one by one, and keeps cells of its own -/
def SeqOwn {α : Type} (G : World → Prop) (F : Fence) (n : Nat) (P : Program) (g : Nat) (lb : Array Value) (encs : α → Array Value) (xs : List α) (w : World) : Prop :=
  ∀ (l : Nat) (J Jx : Nat → World → Prop) (W : World), Below w.heap.size w W → (∀ k A B, J k A → Rn W.heap.size A B → J k B) → (∀ k A B, Jx k A → Rn W.heap.size A B → Jx k B) → (∀ k A, J k A → G A) →
    (∀ k x W1, xs[k]? = some x → J k W1 → YieldAt F (n - 1) P l (encs x) W1 fun e W' =>
      ((e = .returned (.bool true) ∧ J (k + 1) W') ∨ (e = .returned (.bool false) ∧ Jx (k + 1) W')) ∧ Up W.heap.size W1 W') →
    J 0 W →
    CallsIn F n P g (#[.func (.yield l) #[] #[]] ++ lb) W fun e W' => (∃ v, e = .returned v) ∧ (J xs.length W' ∨ ∃ k, k ≤ xs.length ∧ Jx k W')

/-- how a round's body may be left -/
def RoundPost (B : Nat) (I : Nat → World → Prop) (Ix : Code → Nat → World → Prop) (k : Nat) (W : World) : Exit → Act → World → Prop
  | .normal, _, W' => Up B W W' ∧ I k W'
  | .ret, _, W' => Up B W W' ∧ Ix .ret k W'
  | .exit id, _, W' => Up B W W' ∧ Ix (.exit id) k W'
  | .goto t, _, W' => Up B W W' ∧ Ix (.goto t) k W'
  | .panic _, _, _ => False
  | .outgrown, _, _ => False

theorem up_put {n l : Nat} {W : World} (o : Obj) (h : l < n) : Up n W (W.putObj l o) :=
  ⟨by simp, fun b o' hb hn _ => (World.putObj_heap_other (by omega)).trans hb⟩

variable {F : Fence} {n : Nat} {P : Program}
theorem range_own {α : Type} {g : Operand} {ps : Array Tmp} {assign body : Code} {Q : Exit → Act → World → Prop} {a : Act} {w : World}
    (hro : F.round = none) (h1 : 1 ≤ n) {gf : Nat} {lb : Array Value} (hg : a.eval g = .func (.func gf) #[] lb) (hFg : F.fn gf) (eg : ∀ args w, (callFunc gf args).run P w = .ok (.enter gf args) w)
    {encs : α → Array Value} {xs : List α} {w0 : World} {G : World → Prop} (hseq : SeqOwn G F (n - 1) P gf lb encs xs w0) (hb0 : Below w0.heap.size w0 w) (hps : ∀ x, (encs x).size = ps.size)
    (I : Nat → World → Prop) (Ix : Code → Nat → World → Prop) (hG : ∀ k A, I k A → G A) (hI : ∀ k A B, I k A → Rn w.heap.size A B → I k B) (hIx : ∀ c k A B, Ix c k A → Rn w.heap.size A B → Ix c k B) (h0 : I 0 w) (A₁ : α → Nat → World → Prop)
    (hA : ∀ x b A B, A₁ x b A → But (w.heap.size + 1) A B → A₁ x b B) (a₁ : α → Nat → Act)
    (hassign : ∀ (l k : Nat) (x : α) (W : World) (K : Act → World → Prop), xs[k]? = some x → I k W → w.heap.size + 1 < W.heap.size → (∀ b W', Below W.heap.size W W' → A₁ x b W' → K (a₁ x b) W') →
      assign.wpIn (F.inRound l) (n - 1 - 1) P (Exit.then K (fun _ _ _ => False)) { tmps := (ps.zip (encs x)).foldl (fun t (p, v) => t.setIfInBounds p v) a.tmps, defers := [] } W)
    (hbody : ∀ (l k : Nat) (x : α) (b : Nat) (W : World), xs[k]? = some x → I k W → A₁ x b W → w.heap.size < W.heap.size → body.wpIn (F.inRound l) (n - 1 - 1) P (RoundPost w.heap.size I Ix (k + 1) W) (a₁ x b) W)
    (hdone : ∀ (D : Nat) (W : World), w.heap.size ≤ D → I xs.length W → W.heap[D]? = some (.deferred (some [])) → Q .normal { a with defers := { target := .collected D, args := #[] } :: a.defers } W)
    (hstop : ∀ (D : Nat) (c : Code) (k : Nat) (W : World), w.heap.size ≤ D → k ≤ xs.length → Ix c k W → W.heap[D]? = some (.deferred (some [])) → c.wpIn F n P Q { a with defers := { target := .collected D, args := #[] } :: a.defers } W) :
    (Code.rangeFunc g ps assign body).wpIn F n P Q a w := by
  refine wpIn_rangeFunc ?_
  intro fn hfn
  rw [hro]
  obtain ⟨mk, hmk⟩ : ∃ mk : LoopState → Option Code → Loop, mk = fun st pe => { state := st, pending := pe, fn, tmps := a.tmps, params := ps, assign, body, defers := w.heap.size } := ⟨_, rfl⟩
  obtain ⟨V, hV⟩ : ∃ V, (w.alloc (.deferred (some []))).alloc (.loop (mk .ready none)) = V := ⟨_, rfl⟩
  have hBV : Below w.heap.size w V := by rw [← hV]; exact ((Below.refl _ w).alloc (Nat.le_refl _) _).alloc (by simp) _
  have hzV : V.heap.size = w.heap.size + 2 := by rw [← hV]; simp
  have hLV : V.heap[w.heap.size + 1]? = some (.loop (mk .ready none)) := by
    rw [← hV]; have h := World.alloc_heap_new (w.alloc (.deferred (some []))) (.loop (mk .ready none)); simpa using h
  have hDV : V.heap[w.heap.size]? = some (.deferred (some [])) := by
    rw [← hV, Below.heap_alloc _ _ _ (by simp)]; exact World.alloc_heap_new w _
  refine ⟨w.heap.size + 1, [{ target := .collected w.heap.size, args := #[] }], V, { target := .fn (.func gf) lb, args := #[.func (.yield (w.heap.size + 1)) #[] #[]] }, V, gf,
    #[.func (.yield (w.heap.size + 1)) #[] #[]] ++ lb, V, ?_, ?_, ?_, ?_, fun _ => h1, ?_⟩
  · rw [← hV, hmk]; exact run_enterLoop_outer _ _ _ _ _
  · simp only [resolve, hg]
    simp [go_sem]
  · intro f' hf'; simp [Target.leads] at hf'; subst hf'; exact hFg
  · simp [invoke, go_sem, eg]
  refine (hseq (w.heap.size + 1)
    (fun k W => I k W ∧ W.heap[w.heap.size + 1]? = some (.loop (mk .ready none)) ∧ W.heap[w.heap.size]? = some (.deferred (some [])))
    (fun k W => ∃ c, Ix c k W ∧ W.heap[w.heap.size + 1]? = some (.loop (mk .done (some c))) ∧ W.heap[w.heap.size]? = some (.deferred (some [])))
    V (hb0.trans (hBV.mono hb0.size)) ?_ ?_ (fun k A h => hG k A h.1) ?_ ⟨hI _ _ _ h0 (Rn.of_below hBV (Nat.le_refl _)), hLV, hDV⟩).mono ?_
  · rintro k A B ⟨hi, hl, hd⟩ hAB
    exact ⟨hI k A B hi (hAB.mono (by omega)), (hAB.bel.block _ (by omega)).trans hl, (hAB.bel.block _ (by omega)).trans hd⟩
  · rintro k A B ⟨c, hi, hl, hd⟩ hAB
    exact ⟨c, hIx c k A B hi (hAB.mono (by omega)), (hAB.bel.block _ (by omega)).trans hl, (hAB.bel.block _ (by omega)).trans hd⟩
  · rintro k x W hx ⟨hi, hl, hd⟩
    have hlW := lt_of_block hl
    have hy := run_yield (P := P) (args := encs x) hl (by rw [hmk]; exact hps x)
    rw [hmk] at hy
    refine ⟨fn, _, assign, body, hy, roundIn_of_wpIn hfn (hassign _ k x W _ hx hi (lt_of_block hl) fun a' W0 hW0 hA0 => ?_)⟩
    have hl0 := (hW0.block _ hlW).trans hl
    have hlW0 := lt_of_block hl0
    have hd0 := (hW0.block _ (lt_of_block hd)).trans hd
    refine ⟨_, run_beginRound hl0 (by rw [hmk]), ?_⟩
    obtain ⟨X, hX⟩ : ∃ X, W0.putObj (w.heap.size + 1) (.loop { mk .ready none with state := .busy }) = X := ⟨_, rfl⟩
    have hWX : Rn w.heap.size W X := by rw [← hX]; exact (Rn.of_below hW0 (by omega)).trans (rn_put _ (by omega) hl0 (buf_loop _))
    have hUX : Up V.heap.size W X := by rw [← hX]; exact ((Up.refl _ W).below hW0).trans (up_put _ (by omega))
    have hlX : X.heap[w.heap.size + 1]? = some (.loop { mk .ready none with state := .busy }) := by rw [← hX]; exact World.putObj_heap_same hlW0
    have hdX : X.heap[w.heap.size]? = some (.deferred (some [])) := by rw [← hX]; exact (World.putObj_heap_other (by omega)).trans hd0
    have hAX : A₁ x a' X := hA x a' W0 X hA0 (by rw [← hX]; exact but_put _)
    rw [hX]
    refine wpIn_mono (hbody _ k x a' X hx (hI _ _ _ hi hWX) hAX (by have := lt_of_block hlX; omega)) ?_
    have fin : ∀ (jump : Option Code) (Y : World), Up w.heap.size X Y →
        (Instr.endRound (w.heap.size + 1) jump).run P Y = .ok (.bool jump.isNone) (Y.putObj (w.heap.size + 1) (.loop (mk (if jump.isNone then .ready else .done) jump))) ∧
        (Y.putObj (w.heap.size + 1) (.loop (mk (if jump.isNone then .ready else .done) jump))).heap[w.heap.size + 1]? = some (.loop (mk (if jump.isNone then .ready else .done) jump)) ∧
        (Y.putObj (w.heap.size + 1) (.loop (mk (if jump.isNone then .ready else .done) jump))).heap[w.heap.size]? = some (.deferred (some [])) ∧
        Up V.heap.size W (Y.putObj (w.heap.size + 1) (.loop (mk (if jump.isNone then .ready else .done) jump))) := fun jump Y hY => by
      have hl3 := hY.same _ _ hlX (Nat.le_succ _) (buf_loop _)
      have hr := run_endRound (P := P) jump hl3
      rw [hmk] at hr ⊢
      refine ⟨hr, World.putObj_heap_same (lt_of_block hl3), (World.putObj_heap_other (by omega)).trans (hY.same _ _ hdX (Nat.le_refl _) (buf_def _)), ?_⟩
      exact (hUX.trans (hY.mono (by omega))).trans (up_put _ (by omega))
    rintro e a3 Y hp
    cases e with
    | normal =>
      obtain ⟨hU, hi3⟩ := hp
      obtain ⟨hr, hl4, hd4, hU4⟩ := fin none Y hU
      exact ⟨_, _, hr, .inl ⟨rfl, hI _ _ _ hi3 (rn_put _ (Nat.le_succ _) (hU.same _ _ hlX (Nat.le_succ _) (buf_loop _)) (buf_loop _)), hl4, hd4⟩, hU4⟩
    | ret =>
      obtain ⟨hU, hi3⟩ := hp
      obtain ⟨hr, hl4, hd4, hU4⟩ := fin (some .ret) Y hU
      exact ⟨_, _, hr, .inr ⟨rfl, .ret, hIx _ _ _ _ hi3 (rn_put _ (Nat.le_succ _) (hU.same _ _ hlX (Nat.le_succ _) (buf_loop _)) (buf_loop _)), hl4, hd4⟩, hU4⟩
    | exit id =>
      obtain ⟨hU, hi3⟩ := hp
      obtain ⟨hr, hl4, hd4, hU4⟩ := fin (some (.exit id)) Y hU
      exact ⟨_, _, hr, .inr ⟨rfl, .exit id, hIx _ _ _ _ hi3 (rn_put _ (Nat.le_succ _) (hU.same _ _ hlX (Nat.le_succ _) (buf_loop _)) (buf_loop _)), hl4, hd4⟩, hU4⟩
    | goto t =>
      obtain ⟨hU, hi3⟩ := hp
      obtain ⟨hr, hl4, hd4, hU4⟩ := fin (some (.goto t)) Y hU
      exact ⟨_, _, hr, .inr ⟨rfl, .goto t, hIx _ _ _ _ hi3 (rn_put _ (Nat.le_succ _) (hU.same _ _ hlX (Nat.le_succ _) (buf_loop _)) (buf_loop _)), hl4, hd4⟩, hU4⟩
    | panic ch => exact hp.elim
    | outgrown => exact hp.elim
  · rintro e W2 ⟨⟨v, rfl⟩, (⟨hi, hl, hd⟩ | ⟨k, hk, c, hi, hl, hd⟩)⟩
    · have hr := run_endLoop (P := P) hl (by rw [hmk]; simp)
      rw [hmk] at hr
      exact ⟨none, _, hr, hdone _ _ (Nat.le_refl _) (hI _ _ _ hi (rn_put _ (Nat.le_succ _) hl (buf_loop _))) ((World.putObj_heap_other (by omega)).trans hd)⟩
    · have hr := run_endLoop (P := P) hl (by rw [hmk]; simp)
      rw [hmk] at hr
      exact ⟨some c, _, hr, hstop _ c k _ (Nat.le_refl _) hk (hIx _ _ _ _ hi (rn_put _ (Nat.le_succ _) hl (buf_loop _))) ((World.putObj_heap_other (by omega)).trans hd)⟩
end Go.Proofs.YtlhbledakddbbaaGreatDoor
