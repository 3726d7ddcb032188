/- The text of an expression that may be: the document's Expr. -/
import Derived.Test.YtkjhofnkgcjcoaaDoorP11
import Derived.Laws.Concat
import Derived.RangeFuncFrom
import Derived.RangeFuncCalls
import Derived.Test.YtkjhofnkgcjcoaaDoorP07
namespace Go.Proofs.YtkjhofnkgcjcoaaDoor
open Go.RowKit

theorem ret_strE {a b : ByteArray} (h : a = b) : Ending.returned (.string a) = .returned (.string b) := by rw [h]
theorem str_app (a b : List UInt8) : str a ++ str b = str (a ++ b) := ByteArray.mk_append_mk _ _
theorem add_str (a b : List UInt8) (h : a.length + b.length ≤ 9000000) (w : World) : (Op.stringOp .add (str a) (str b)).run Tryd.prog w = .ok (.string (str (a ++ b))) w := by
  rw [run_string_add_sum w _ _ (by rw [size_str, size_str]; omega), str_app]
end Go.Proofs.YtkjhofnkgcjcoaaDoor
/- A loop over a function whose iterator keeps cells of its own, and whose body writes into buffers. Over any program. -/
namespace Go.Proofs.YtkjhofnkgcjcoaaDoor
open Go Go.RowKit

/-- a block that only a loop's body writes into: bytes, a Builder -/
def isBuf : Obj → Prop
  | .cells _ t _ => t = 5 ∨ t = 66
  | _ => False
theorem buf_loop (s : Loop) : ¬ isBuf (.loop s) := fun h => h
theorem buf_def (d : Option (List Deferred)) : ¬ isBuf (.deferred d) := fun h => h
/-- what lies from n on lies as it lay, but buffers -/
structure Up (n : Nat) (A B : World) : Prop where
  size : A.heap.size ≤ B.heap.size
  same : ∀ (b : Nat) (o : Obj), A.heap[b]? = some o → n ≤ b → ¬ isBuf o → B.heap[b]? = some o
theorem Up.refl (n : Nat) (A : World) : Up n A A := ⟨Nat.le_refl _, fun _ _ h _ _ => h⟩
theorem Up.trans {n : Nat} {A B C : World} (h : Up n A B) (k : Up n B C) : Up n A C := ⟨Nat.le_trans h.size k.size, fun b o hb hn ho => k.same b o (h.same b o hb hn ho) hn ho⟩
theorem Up.mono {n m : Nat} {A B : World} (h : Up n A B) (hm : n ≤ m) : Up m A B := ⟨h.size, fun b o hb hn ho => h.same b o hb (Nat.le_trans hm hn) ho⟩
theorem Up.alloc {n : Nat} {A B : World} (h : Up n A B) (o : Obj) : Up n A (B.alloc o) :=
  ⟨Nat.le_trans h.size (by simp), fun b o' hb hn ho => (Below.heap_alloc _ _ _ (lt_of_block (h.same b o' hb hn ho))).trans (h.same b o' hb hn ho)⟩
theorem Up.setCell {n : Nat} {A B : World} (h : Up n A B) {p : Addr} (hp : p.block < n) (v : Value) : Up n A (B.setCell p v) :=
  ⟨Nat.le_trans h.size (by simp [World.setCell]), fun b o hb hn ho => (Below.heap_setCell _ _ _ _ (by omega)).trans (h.same b o hb hn ho)⟩
theorem Up.below {n : Nat} {A B C : World} (h : Up n A B) (hb : Below B.heap.size B C) : Up n A C :=
  ⟨Nat.le_trans h.size hb.size, fun b o ho hn hf => (hb.block b (lt_of_block (h.same b o ho hn hf))).trans (h.same b o ho hn hf)⟩
theorem Up.drew {n : Nat} {A B : World} (h : Up n A B) : Up n A B.drew := ⟨h.size, h.same⟩
/-- what an iterator may do: nothing below n, and no buffer -/
structure Rn (n : Nat) (A B : World) : Prop where
  bel : Below n A B
  buf : ∀ (b : Nat) (o : Obj), A.heap[b]? = some o → isBuf o → B.heap[b]? = some o
theorem Rn.refl (n : Nat) (A : World) : Rn n A A := ⟨Below.refl _ _, fun _ _ h _ => h⟩
theorem Rn.trans {n : Nat} {A B C : World} (h : Rn n A B) (k : Rn n B C) : Rn n A C := ⟨h.bel.trans k.bel, fun b o hb hf => k.buf b o (h.buf b o hb hf) hf⟩
theorem Rn.mono {n m : Nat} {A B : World} (h : Rn n A B) (hm : m ≤ n) : Rn m A B := ⟨h.bel.mono hm, h.buf⟩
theorem Rn.of_below {n : Nat} {A B : World} (h : Below A.heap.size A B) (hn : n ≤ A.heap.size) : Rn n A B := ⟨h.mono hn, fun b _ hb _ => (h.block b (lt_of_block hb)).trans hb⟩
theorem Rn.setCell {n : Nat} {A B : World} (h : Rn n A B) {p : Addr} {o : Obj} (hp : B.heap[p.block]? = some o) (ho : ¬ isBuf o) (hn : n ≤ p.block) (v : Value) : Rn n A (B.setCell p v) :=
  ⟨h.bel.setCell hn v, fun b o' hb hf => by
    have h1 := h.buf b o' hb hf
    rw [Below.heap_setCell _ _ _ _ (fun e => by subst e; rw [hp] at h1; cases h1; exact ho hf)]; exact h1⟩
theorem rn_put {n l : Nat} {W : World} {o' : Obj} (o : Obj) (h : n ≤ l) (hl : W.heap[l]? = some o') (hf : ¬ isBuf o') : Rn n W (W.putObj l o) :=
  ⟨⟨rfl, rfl, rfl, by simp, fun _ hk => World.putObj_heap_other (by omega)⟩, fun b o2 hb hb2 => by
    rw [World.putObj_heap_other (fun e => by subst e; rw [hl] at hb; cases hb; exact hf hb2)]; exact hb⟩
/-- all as it was but one block -/
structure But (g : Nat) (w w' : World) : Prop where
  os : w'.os = w.os
  tape : w'.tape = w.tape
  output : w'.output = w.output
  size : w.heap.size ≤ w'.heap.size
  block : ∀ k, k < w.heap.size → k ≠ g → w'.heap[k]? = w.heap[k]?
theorem but_put {l : Nat} {W : World} (o : Obj) : But l W (W.putObj l o) :=
  ⟨rfl, rfl, rfl, by simp, fun _ _ hn => World.putObj_heap_other hn⟩

/-- what an iterator does that hands on xs, one by one, and keeps cells of its own -/
def SeqOwn {α : Type} (G : World → Prop) (F : Fence) (n : Nat) (P : Program) (g : Nat) (lb : Array Value) (encs : α → Array Value) (xs : List α) (w : World) : Prop :=
  ∀ (l : Nat) (J Jx : Nat → World → Prop) (W : World), Below w.heap.size w W → (∀ k A B, J k A → Rn W.heap.size A B → J k B) → (∀ k A B, Jx k A → Rn W.heap.size A B → Jx k B) → (∀ k A, J k A → G A) →
    (∀ k x W1, xs[k]? = some x → J k W1 → YieldAt F (n - 1) P l (encs x) W1 fun e W' =>
      ((e = .returned (.bool true) ∧ J (k + 1) W') ∨ (e = .returned (.bool false) ∧ Jx (k + 1) W')) ∧ Up W.heap.size W1 W') →
    J 0 W →
    CallsIn F n P g (#[.func (.yield l) #[] #[]] ++ lb) W fun e W' => (∃ v, e = .returned v) ∧ (J xs.length W' ∨ ∃ k, k ≤ xs.length ∧ Jx k W')

/-- how a round's body may be left -/
def RoundPost (B : Nat) (I : Nat → World → Prop) (Ix : Code → Nat → World → Prop) (k : Nat) (W : World) : Exit → Act → World → Prop
  | .normal, _, W' => Up B W W' ∧ I k W'
  | .ret, _, W' => Up B W W' ∧ Ix .ret k W'
  | .exit id, _, W' => Up B W W' ∧ Ix (.exit id) k W'
  | .goto t, _, W' => Up B W W' ∧ Ix (.goto t) k W'
  | .panic _, _, _ => False
  | .outgrown, _, _ => False

theorem up_put {n l : Nat} {W : World} (o : Obj) (h : l < n) : Up n W (W.putObj l o) :=
  ⟨by simp, fun b o' hb hn _ => (World.putObj_heap_other (by omega)).trans hb⟩

variable {F : Fence} {n : Nat} {P : Program}
theorem range_own {α : Type} {g : Operand} {ps : Array Tmp} {assign body : Code} {Q : Exit → Act → World → Prop} {a : Act} {w : World}
    (hro : F.round = none) (h1 : 1 ≤ n) {gf : Nat} {lb : Array Value} (hg : a.eval g = .func (.func gf) #[] lb) (hFg : F.fn gf) (eg : ∀ args w, (callFunc gf args).run P w = .ok (.enter gf args) w)
    {encs : α → Array Value} {xs : List α} {w0 : World} {G : World → Prop} (hseq : SeqOwn G F (n - 1) P gf lb encs xs w0) (hb0 : Below w0.heap.size w0 w) (hps : ∀ x, (encs x).size = ps.size)
    (I : Nat → World → Prop) (Ix : Code → Nat → World → Prop) (hG : ∀ k A, I k A → G A) (hI : ∀ k A B, I k A → Rn w.heap.size A B → I k B) (hIx : ∀ c k A B, Ix c k A → Rn w.heap.size A B → Ix c k B) (h0 : I 0 w) (A₁ : α → Nat → World → Prop)
    (hA : ∀ x b A B, A₁ x b A → But (w.heap.size + 1) A B → A₁ x b B) (a₁ : α → Nat → Act)
    (hassign : ∀ (l k : Nat) (x : α) (W : World) (K : Act → World → Prop), xs[k]? = some x → I k W → w.heap.size + 1 < W.heap.size → (∀ b W', Below W.heap.size W W' → A₁ x b W' → K (a₁ x b) W') →
      assign.wpIn (F.inRound l) (n - 1 - 1) P (Exit.then K (fun _ _ _ => False)) { tmps := (ps.zip (encs x)).foldl (fun t (p, v) => t.setIfInBounds p v) a.tmps, defers := [] } W)
    (hbody : ∀ (l k : Nat) (x : α) (b : Nat) (W : World), xs[k]? = some x → I k W → A₁ x b W → w.heap.size < W.heap.size → body.wpIn (F.inRound l) (n - 1 - 1) P (RoundPost w.heap.size I Ix (k + 1) W) (a₁ x b) W)
    (hdone : ∀ (D : Nat) (W : World), w.heap.size ≤ D → I xs.length W → W.heap[D]? = some (.deferred (some [])) → Q .normal { a with defers := { target := .collected D, args := #[] } :: a.defers } W)
    (hstop : ∀ (D : Nat) (c : Code) (k : Nat) (W : World), w.heap.size ≤ D → k ≤ xs.length → Ix c k W → W.heap[D]? = some (.deferred (some [])) → c.wpIn F n P Q { a with defers := { target := .collected D, args := #[] } :: a.defers } W) :
    (Code.rangeFunc g ps assign body).wpIn F n P Q a w := by
  refine wpIn_rangeFunc ?_
  intro fn hfn
  rw [hro]
  obtain ⟨mk, hmk⟩ : ∃ mk : LoopState → Option Code → Loop, mk = fun st pe => { state := st, pending := pe, fn, tmps := a.tmps, params := ps, assign, body, defers := w.heap.size } := ⟨_, rfl⟩
  obtain ⟨V, hV⟩ : ∃ V, (w.alloc (.deferred (some []))).alloc (.loop (mk .ready none)) = V := ⟨_, rfl⟩
  have hBV : Below w.heap.size w V := by rw [← hV]; exact ((Below.refl _ w).alloc (Nat.le_refl _) _).alloc (by simp) _
  have hzV : V.heap.size = w.heap.size + 2 := by rw [← hV]; simp
  have hLV : V.heap[w.heap.size + 1]? = some (.loop (mk .ready none)) := by
    rw [← hV]; have h := World.alloc_heap_new (w.alloc (.deferred (some []))) (.loop (mk .ready none)); simpa using h
  have hDV : V.heap[w.heap.size]? = some (.deferred (some [])) := by
    rw [← hV, Below.heap_alloc _ _ _ (by simp)]; exact World.alloc_heap_new w _
  refine ⟨w.heap.size + 1, [{ target := .collected w.heap.size, args := #[] }], V, { target := .fn (.func gf) lb, args := #[.func (.yield (w.heap.size + 1)) #[] #[]] }, V, gf,
    #[.func (.yield (w.heap.size + 1)) #[] #[]] ++ lb, V, ?_, ?_, ?_, ?_, fun _ => h1, ?_⟩
  · rw [← hV, hmk]; exact run_enterLoop_outer _ _ _ _ _
  · simp only [resolve, hg]
    simp [go_sem]
  · intro f' hf'; simp [Target.leads] at hf'; subst hf'; exact hFg
  · simp [invoke, go_sem, eg]
  refine (hseq (w.heap.size + 1)
    (fun k W => I k W ∧ W.heap[w.heap.size + 1]? = some (.loop (mk .ready none)) ∧ W.heap[w.heap.size]? = some (.deferred (some [])))
    (fun k W => ∃ c, Ix c k W ∧ W.heap[w.heap.size + 1]? = some (.loop (mk .done (some c))) ∧ W.heap[w.heap.size]? = some (.deferred (some [])))
    V (hb0.trans (hBV.mono hb0.size)) ?_ ?_ (fun k A h => hG k A h.1) ?_ ⟨hI _ _ _ h0 (Rn.of_below hBV (Nat.le_refl _)), hLV, hDV⟩).mono ?_
  · rintro k A B ⟨hi, hl, hd⟩ hAB
    exact ⟨hI k A B hi (hAB.mono (by omega)), (hAB.bel.block _ (by omega)).trans hl, (hAB.bel.block _ (by omega)).trans hd⟩
  · rintro k A B ⟨c, hi, hl, hd⟩ hAB
    exact ⟨c, hIx c k A B hi (hAB.mono (by omega)), (hAB.bel.block _ (by omega)).trans hl, (hAB.bel.block _ (by omega)).trans hd⟩
  · rintro k x W hx ⟨hi, hl, hd⟩
    have hlW := lt_of_block hl
    have hy := run_yield (P := P) (args := encs x) hl (by rw [hmk]; exact hps x)
    rw [hmk] at hy
    refine ⟨fn, _, assign, body, hy, roundIn_of_wpIn hfn (hassign _ k x W _ hx hi (lt_of_block hl) fun a' W0 hW0 hA0 => ?_)⟩
    have hl0 := (hW0.block _ hlW).trans hl
    have hlW0 := lt_of_block hl0
    have hd0 := (hW0.block _ (lt_of_block hd)).trans hd
    refine ⟨_, run_beginRound hl0 (by rw [hmk]), ?_⟩
    obtain ⟨X, hX⟩ : ∃ X, W0.putObj (w.heap.size + 1) (.loop { mk .ready none with state := .busy }) = X := ⟨_, rfl⟩
    have hWX : Rn w.heap.size W X := by rw [← hX]; exact (Rn.of_below hW0 (by omega)).trans (rn_put _ (by omega) hl0 (buf_loop _))
    have hUX : Up V.heap.size W X := by rw [← hX]; exact ((Up.refl _ W).below hW0).trans (up_put _ (by omega))
    have hlX : X.heap[w.heap.size + 1]? = some (.loop { mk .ready none with state := .busy }) := by rw [← hX]; exact World.putObj_heap_same hlW0
    have hdX : X.heap[w.heap.size]? = some (.deferred (some [])) := by rw [← hX]; exact (World.putObj_heap_other (by omega)).trans hd0
    have hAX : A₁ x a' X := hA x a' W0 X hA0 (by rw [← hX]; exact but_put _)
    rw [hX]
    refine wpIn_mono (hbody _ k x a' X hx (hI _ _ _ hi hWX) hAX (by have := lt_of_block hlX; omega)) ?_
    have fin : ∀ (jump : Option Code) (Y : World), Up w.heap.size X Y →
        (Instr.endRound (w.heap.size + 1) jump).run P Y = .ok (.bool jump.isNone) (Y.putObj (w.heap.size + 1) (.loop (mk (if jump.isNone then .ready else .done) jump))) ∧
        (Y.putObj (w.heap.size + 1) (.loop (mk (if jump.isNone then .ready else .done) jump))).heap[w.heap.size + 1]? = some (.loop (mk (if jump.isNone then .ready else .done) jump)) ∧
        (Y.putObj (w.heap.size + 1) (.loop (mk (if jump.isNone then .ready else .done) jump))).heap[w.heap.size]? = some (.deferred (some [])) ∧
        Up V.heap.size W (Y.putObj (w.heap.size + 1) (.loop (mk (if jump.isNone then .ready else .done) jump))) := fun jump Y hY => by
      have hl3 := hY.same _ _ hlX (Nat.le_succ _) (buf_loop _)
      have hr := run_endRound (P := P) jump hl3
      rw [hmk] at hr ⊢
      refine ⟨hr, World.putObj_heap_same (lt_of_block hl3), (World.putObj_heap_other (by omega)).trans (hY.same _ _ hdX (Nat.le_refl _) (buf_def _)), ?_⟩
      exact (hUX.trans (hY.mono (by omega))).trans (up_put _ (by omega))
    rintro e a3 Y hp
    cases e with
    | normal =>
      obtain ⟨hU, hi3⟩ := hp
      obtain ⟨hr, hl4, hd4, hU4⟩ := fin none Y hU
      exact ⟨_, _, hr, .inl ⟨rfl, hI _ _ _ hi3 (rn_put _ (Nat.le_succ _) (hU.same _ _ hlX (Nat.le_succ _) (buf_loop _)) (buf_loop _)), hl4, hd4⟩, hU4⟩
    | ret =>
      obtain ⟨hU, hi3⟩ := hp
      obtain ⟨hr, hl4, hd4, hU4⟩ := fin (some .ret) Y hU
      exact ⟨_, _, hr, .inr ⟨rfl, .ret, hIx _ _ _ _ hi3 (rn_put _ (Nat.le_succ _) (hU.same _ _ hlX (Nat.le_succ _) (buf_loop _)) (buf_loop _)), hl4, hd4⟩, hU4⟩
    | exit id =>
      obtain ⟨hU, hi3⟩ := hp
      obtain ⟨hr, hl4, hd4, hU4⟩ := fin (some (.exit id)) Y hU
      exact ⟨_, _, hr, .inr ⟨rfl, .exit id, hIx _ _ _ _ hi3 (rn_put _ (Nat.le_succ _) (hU.same _ _ hlX (Nat.le_succ _) (buf_loop _)) (buf_loop _)), hl4, hd4⟩, hU4⟩
    | goto t =>
      obtain ⟨hU, hi3⟩ := hp
      obtain ⟨hr, hl4, hd4, hU4⟩ := fin (some (.goto t)) Y hU
      exact ⟨_, _, hr, .inr ⟨rfl, .goto t, hIx _ _ _ _ hi3 (rn_put _ (Nat.le_succ _) (hU.same _ _ hlX (Nat.le_succ _) (buf_loop _)) (buf_loop _)), hl4, hd4⟩, hU4⟩
    | panic ch => exact hp.elim
    | outgrown => exact hp.elim
  · rintro e W2 ⟨⟨v, rfl⟩, (⟨hi, hl, hd⟩ | ⟨k, hk, c, hi, hl, hd⟩)⟩
    · have hr := run_endLoop (P := P) hl (by rw [hmk]; simp)
      rw [hmk] at hr
      exact ⟨none, _, hr, hdone _ _ (Nat.le_refl _) (hI _ _ _ hi (rn_put _ (Nat.le_succ _) hl (buf_loop _))) ((World.putObj_heap_other (by omega)).trans hd)⟩
    · have hr := run_endLoop (P := P) hl (by rw [hmk]; simp)
      rw [hmk] at hr
      exact ⟨some c, _, hr, hstop _ c k _ (Nat.le_refl _) hk (hIx _ _ _ _ hi (rn_put _ (Nat.le_succ _) hl (buf_loop _))) ((World.putObj_heap_other (by omega)).trans hd)⟩
end Go.Proofs.YtkjhofnkgcjcoaaDoor
/- Lists of nothing; a function without anything. -/
namespace Go.Proofs.YtkjhofnkgcjcoaaDoor
open Go.RowKit

set_option maxHeartbeats 1600000 in
theorem ev_region (p : Option Addr) (c : Nat) (fv : Value) (w : World) : Calls Tryd.prog 26 #[.slice p 0 c, fv] w fun e w' => e = .returned (.bool true) ∧ w = w' := by
  go_enter Tryd.func26, Tryd.ntmps26
  go_wp2_with fail
  go_loopw [9] (fun i wr => i = .int .i64 0 ∧ wr = w) (fun _ _ => 0)
  case atStart => exact ⟨rfl, rfl⟩
  case round =>
    obtain ⟨rfl, rfl⟩ := hrel
    go_wp2_with fail
    go_ret
    exact ⟨rfl, rfl⟩

set_option maxHeartbeats 1600000 in
theorem ev_var (p : Option Addr) (c : Nat) (fv : Value) (w : World) : Calls Tryd.prog 50 #[.slice p 0 c, fv] w fun e w' => e = .returned (.bool true) ∧ w = w' := by
  go_enter Tryd.func50, Tryd.ntmps50
  go_wp2_with fail
  go_loopw [9] (fun i wr => i = .int .i64 0 ∧ wr = w) (fun _ _ => 0)
  case atStart => exact ⟨rfl, rfl⟩
  case round =>
    obtain ⟨rfl, rfl⟩ := hrel
    go_wp2_with fail
    go_ret
    exact ⟨rfl, rfl⟩

set_option maxHeartbeats 1600000 in
theorem ev_str (p : Option Addr) (c : Nat) (fv : Value) (w : World) : Calls Tryd.prog 53 #[.slice p 0 c, fv] w fun e w' => e = .returned (.bool true) ∧ w = w' := by
  go_enter Tryd.func53, Tryd.ntmps53
  go_wp2_with fail
  go_loopw [9] (fun i wr => i = .int .i64 0 ∧ wr = w) (fun _ _ => 0)
  case atStart => exact ⟨rfl, rfl⟩
  case round =>
    obtain ⟨rfl, rfl⟩ := hrel
    go_wp2_with fail
    go_ret
    exact ⟨rfl, rfl⟩

set_option maxHeartbeats 1600000 in
theorem ev_stmt (p : Option Addr) (c : Nat) (fv : Value) (w : World) : Calls Tryd.prog 71 #[.slice p 0 c, fv] w fun e w' => e = .returned (.bool true) ∧ w = w' := by
  go_enter Tryd.func71, Tryd.ntmps71
  go_wp2_with fail
  go_loopw [9] (fun i wr => i = .int .i64 0 ∧ wr = w) (fun _ _ => 0)
  case atStart => exact ⟨rfl, rfl⟩
  case round =>
    obtain ⟨rfl, rfl⟩ := hrel
    go_wp2_with fail
    go_ret
    exact ⟨rfl, rfl⟩

set_option maxHeartbeats 1600000 in
theorem deepest0 (p : Option Addr) (c : Nat) (fv : Value) (w : World) : Calls Tryd.prog 30 #[.slice p 0 c, fv] w fun e w' => e = .returned (.int .i64 0) ∧ w = w' := by
  go_enter Tryd.func30, Tryd.ntmps30
  go_wp2_with fail
  go_loopw [5, 9] (fun d i wr => d = .int .i64 0 ∧ i = .int .i64 0 ∧ wr = w) (fun _ _ _ => 0)
  case atStart => exact ⟨rfl, rfl, rfl⟩
  case round =>
    obtain ⟨rfl, rfl, rfl⟩ := hrel
    go_wp2_with fail
    go_ret
    exact ⟨rfl, rfl⟩
theorem deep0 (p : Option Addr) (c : Nat) (w : World) : Calls Tryd.prog 12 #[.slice p 0 c] w fun e w' => e = .returned (.int .i64 0) ∧ w = w' := by
  go_enter Tryd.func12, Tryd.ntmps12
  go_wp2_with fail
  refine (deepest0 _ _ _ _).mono ?_
  rintro e w' ⟨rfl, rfl⟩
  go_wp2_with fail
  go_ret
  exact ⟨rfl, rfl⟩
theorem mayBody0 (p : Option Addr) (c : Nat) (w : World) : Calls Tryd.prog 46 #[.slice p 0 c] w fun e w' => e = .returned (.bool true) ∧ w = w' := by
  go_enter Tryd.func46, Tryd.ntmps46
  go_wp2_with fail
  refine (deep0 _ _ _).mono ?_
  rintro e w' ⟨rfl, rfl⟩
  go_wp2_with fail
  refine (ev_stmt _ _ _ _).mono ?_
  rintro e w' ⟨rfl, rfl⟩
  go_wp2_with fail
  go_ret
  exact ⟨rfl, rfl⟩
theorem name_f : nameB [102] = true := by decide
/-- a function without anything, named f -/
def fnV : Value := .agg #[.string ⟨#[102]⟩, .slice none 0 0, .slice none 0 0, .slice none 0 0, .slice none 0 0]
set_option maxHeartbeats 1600000 in
theorem mayFunc_f (w : World) : Calls Tryd.prog 29 #[fnV] w fun e w' => e = .returned (.bool true) ∧ Below w.heap.size w w' := by
  have HN := Lib.hid (fun w => name_any ⟨#[102]⟩ w)
  have hn : nameB (⟨#[102]⟩ : ByteArray).data.toList = true := name_f
  rw [hn] at HN
  unfold fnV
  go_enter Tryd.func29, Tryd.ntmps29
  go_wp2_with fail
  refine (HN.out _).mono ?_
  rintro e w' ⟨rfl, rfl⟩
  go_wp2_with fail
  refine (ev_var _ _ _ _).mono ?_
  rintro e w' ⟨rfl, rfl⟩
  go_wp2_with fail
  refine (ev_var _ _ _ _).mono ?_
  rintro e w' ⟨rfl, rfl⟩
  go_wp2_with fail
  refine (ev_str _ _ _ _).mono ?_
  rintro e w' ⟨rfl, rfl⟩
  go_wp2_with fail
  refine (mayBody0 _ _ _).mono ?_
  rintro e w' ⟨rfl, rfl⟩
  go_wp2_with fail
  go_ret
  exact ⟨rfl, (Below.refl _ _).alloc (Nat.le_refl _) _⟩
/-- the function lies at b -/
def FnAt (w : World) (b : Nat) : Prop := w.heap[b]? = some (.cells #[.string ⟨#[102]⟩, .slice none 0 0, .slice none 0 0, .slice none 0 0, .slice none 0 0] 39 (0, 0))
theorem FnAt.later {w w' : World} {b n : Nat} (h : FnAt w b) (hb : b < n) (hB : Below n w w') : FnAt w' b := (hB.block b hb).trans h
theorem FnAt.cells {w : World} {b : Nat} (h : FnAt w b) : w.cell? ⟨b, 0, none⟩ = some (.string ⟨#[102]⟩) ∧ w.cell? ⟨b, 1, none⟩ = some (.slice none 0 0) ∧ w.cell? ⟨b, 2, none⟩ = some (.slice none 0 0) ∧ w.cell? ⟨b, 3, none⟩ = some (.slice none 0 0) ∧ w.cell? ⟨b, 4, none⟩ = some (.slice none 0 0) := by
  unfold FnAt at h
  refine ⟨?_, ?_, ?_, ?_, ?_⟩ <;> simp [World.cell?, h]

set_option maxHeartbeats 3200000 in
theorem everyFunc_f (b : Nat) (w : World) (h : FnAt w b) : Calls Tryd.prog 28 #[.slice (some ⟨b, 0, none⟩) 1 1, .func (.func 29) #[] #[]] w fun e w' => e = .returned (.bool true) ∧ Below w.heap.size w w' := by
  have hb := lt_of_block h
  have HF := Lib.hid h
  have HC := Lib.hid mayFunc_f
  unfold fnV at HC
  clear h
  go_enter Tryd.func28, Tryd.ntmps28
  go_wp2_with fail
  go_loopw [9] (fun i wr => ∃ k : Nat, i = .int .i64 k ∧ k ≤ 1 ∧ Hid (Below w.heap.size w wr)) (fun i _ => 1 - (intOf i).toNat)
  case atStart => exact ⟨0, rfl, by omega, Lib.hid (Below.refl _ _)⟩
  case round =>
    obtain ⟨k, rfl, hk, hB⟩ := hrel
    rcases k with _ | _ | k
    · obtain ⟨c0, c1, c2, c3, c4⟩ := (HF.out.later hb hB.out).cells
      go_wp2_with fail
      refine (HC.out _).mono ?_
      rintro e w2 ⟨rfl, hB2⟩
      have HB2 := Lib.hid ((hB.out.alloc hB.out.size _).trans (hB2.mono (by simp; exact Nat.le_succ_of_le hB.out.size)))
      clear hB2
      go_wp2_with fail
      go_roundw
      case rel => exact ⟨1, rfl, by omega, HB2⟩
      case measure => simp [intOf]
    · go_wp2_with fail
      go_ret
      exact ⟨rfl, hB.out⟩
    · omega

set_option maxHeartbeats 1600000 in
theorem may_f (b : Nat) (w : World) (h : FnAt w b) : Calls Tryd.prog 11 #[.agg #[.slice none 0 0, .slice (some ⟨b, 0, none⟩) 1 1]] w fun e w' => e = .returned (.bool true) ∧ Below w.heap.size w w' := by
  have HC := Lib.hid (everyFunc_f b (w.alloc (.cells #[.slice none 0 0, .slice (some ⟨b, 0, none⟩) 1 1] 43)) (h.later (lt_of_block h) ((Below.refl _ _).alloc (Nat.le_refl _) _)))
  go_enter Tryd.func11, Tryd.ntmps11
  go_wp2_with fail
  refine (ev_region _ _ _ _).mono ?_
  rintro e w' ⟨rfl, rfl⟩
  go_wp2_with fail
  refine HC.out.mono ?_
  rintro e w2 ⟨rfl, hB2⟩
  have HB2 := Lib.hid (((Below.refl _ w).alloc (Nat.le_refl _) _).trans (hB2.mono (by simp)))
  clear hB2
  go_wp2_with fail
  go_ret
  exact ⟨rfl, HB2.out⟩

theorem info_str : (Tryd.prog.info? 9).map (fun i => (i.zero, i.size, i.bytes)) = some (some (.string ⟨#[]⟩), 1, 16) := by kernel_rfl
theorem make_strs0 : ∃ Z : Array Value, (∀ w : World, (Instr.makeSlice 32 (.int .i64 0) (.int .i64 0)).run Tryd.prog w = .ok (.slice (some ⟨w.heap.size, 0, none⟩) 0 0) (w.alloc (.cells Z 9 (0, 0)))) := by
  obtain ⟨i0, hi, hz0, hz1, hz2⟩ := info_parts info_str
  refine ⟨madeCells #[.string ⟨#[]⟩] 0, fun w => ?_⟩
  have h := run_make (P := Tryd.prog) w 32 9 i0 (.string ⟨#[]⟩) Tryd.underlying32 hi hz0 .i64 .i64 0 0 (by omega) (by omega) (by rw [hz2]; omega) (by omega)
  rw [hz1, Nat.mul_one] at h
  exact h
set_option maxHeartbeats 3200000 in
theorem funcLine_f (b : Nat) (w : World) (h : FnAt w b) : Calls Tryd.prog 64 #[.pointer (some ⟨b, 0, none⟩)] w fun e w' => e = .returned (.string ⟨#[102, 110, 32, 102, 40, 41, 32, 123]⟩) ∧ Below w.heap.size w w' := by
  obtain ⟨c0, c1, c2, c3, c4⟩ := h.cells
  have hb := lt_of_block h
  obtain ⟨Z, hmk⟩ := make_strs0
  have HJn := Lib.hid (fun (a : Option Addr) (c : Nat) (w : World) => (Tryd.strings_Join_none a c ⟨#[44, 32]⟩ w).mono fun e w' h => (And.intro h.1 h.2.symm : _ ∧ w = w'))
  clear h
  go_enter Tryd.func64, Tryd.ntmps64
  go_wp2_with fail
  obtain ⟨w1, hw1⟩ : ∃ w1, w.alloc (.cells Z 9 (0, 0)) = w1 := ⟨_, rfl⟩
  have HB1 := Lib.hid (show Below w.heap.size w w1 by rw [← hw1]; exact (Below.refl _ _).alloc (Nat.le_refl _) _)
  have d0 := (HB1.out.cell (p := ⟨b, 0, none⟩) hb).trans c0
  have d1 := (HB1.out.cell (p := ⟨b, 1, none⟩) hb).trans c1
  have d3 := (HB1.out.cell (p := ⟨b, 3, none⟩) hb).trans c3
  rw [hw1]
  clear hw1 hmk c0 c1 c2 c3 c4
  go_loopw [18] (fun i wr => i = .int .i64 0 ∧ wr = w1) (fun _ _ => 0)
  case atStart => exact ⟨rfl, rfl⟩
  case round =>
    obtain ⟨rfl, rfl⟩ := hrel
    go_wp2_with fail
    go_quiet ((go_at_call 83; exact Calls.quiet_of_same ((HJn.out _ _ _).mono fun e w1 h => ⟨h.1, h.2.symm⟩)))
    go_wp2_with fail
    go_ret
    exact ⟨rfl, below_drewN HB1.out _⟩
end Go.Proofs.YtkjhofnkgcjcoaaDoor
