/- What is told of a memory that is not there. -/
import Derived.RangeFuncNested
import Derived.RangeFuncBound
import Derived.RangeFuncCalls
import Derived.RangeFuncLeaves
import Derived.Shelf.Abstract
import Derived.Shelf.RegionOpen
import Derived.OwnWalkIn
import Derived.TacticsInMore
import Derived.LoopNIn
import Derived.LoopIn
import Derived.Test.YtigkjmjkpjjjkaaNO
namespace Go.Proofs.Ytigkjmjkpjjjkaa
open Go.RowKit Go.Shelf
attribute [local go_sem] Oper.semAt_some

/-- an address and its word, as All hands them on -/
def encP (x : Nat × Nat) : Array Value := #[.int .u64 x.1, .int .u64 x.2]

set_option maxHeartbeats 1600000 in
theorem all1_nil (F : Fence) (n : Nat) (h63 : F.fn 63) (hro : F.round = none) (c : Nat) (w : World) (hc : w.cell? ⟨c, 0, none⟩ = some (.slice none 0 0)) (hcz : c < w.heap.size) :
    SeqStopsK F n Try.prog 63 #[.pointer (some ⟨c, 0, none⟩)] encP (Below c) (fun xs => xs = []) (fun _ => False) 0 w := fun l J Jx W hW _ _ _ h0 => by
  have hcc := (hW.cell (p := ⟨c, 0, none⟩) hcz).trans hc
  clear hc hW
  refine callsIn_of_wp Try.func63 rfl h63 ?_ hro
  simp only [Try.ntmps63, List.size_toArray, List.length_cons, List.length_nil, Nat.reduceAdd, Nat.reduceSub, Array.replicate_succ, Array.replicate_zero, List.push_toArray, List.append_toArray, List.nil_append, List.cons_append]
  gi_wp2
  gi_loopw [7] (fun i wr => i = .int .i64 0 ∧ wr = W) (fun _ _ => 0)
  case atStart => exact ⟨rfl, rfl⟩
  case round =>
    obtain ⟨rfl, rfl⟩ := hrel
    gi_wp2
    go_end0
    exact ⟨⟨_, rfl⟩, .inl ⟨_, rfl, h0⟩⟩

theorem range_none {α : Type} {F : Fence} {n : Nat} {P : Program} {g : Operand} {ps : Array Tmp} {body : Code} {Q : Exit → Act → World → Prop} {a : Act} {w : World}
    (hro : F.round = none) (h1 : 1 ≤ n) {gf : Nat} {lb : Array Value} (hg : a.eval g = .func (.func gf) #[] lb) (hFg : F.fn gf) (eg : ∀ args w, (callFunc gf args).run P w = .ok (.enter gf args) w)
    {encs : α → Array Value} {n₀ : Nat} (hn : n₀ ≤ w.heap.size) (hseq : SeqStopsK F (n - 1) P gf lb encs (Below n₀) (fun xs => xs = []) (fun _ => False) 0 w) (hps : ∀ x, (encs x).size = ps.size)
    (I : World → Prop) (hI : OwnFrom w.heap.size (fun (_ : List α) W => I W)) (h0 : I w)
    (hdone : ∀ (D : Nat) (W : World), w.heap.size ≤ D → I W → W.heap[D]? = some (.deferred (some [])) → Q .normal { a with defers := { target := .collected D, args := #[] } :: a.defers } W) :
    (Code.rangeFunc g ps .skip body).wpIn F n P Q a w := by
  refine wpIn_rangeFunc_ownF hro h1 hg hFg eg hseq belowK_t (belowK_b hn) (Below.refl _ _) hps (fun _ W => I W) (fun _ _ _ => False) hI (fun _ _ _ _ _ hs _ _ => hs) h0
    ?_ ?_ ?_ (fun D _ W hD _ hi hK => hdone D W hD hi hK) (fun _ _ _ _ _ _ h _ => h.elim)
  rotate_left
  · intro l x W K hK
    gi_wp2
    exact hK
  · intro l pre x W _ h
    exact absurd h (Nat.not_lt_zero _)

set_option maxRecDepth 100000 in
set_option maxHeartbeats 3200000 in
theorem nothing_none (pv : Value) (w : World) (h : NoneIs w pv) :
    Calls Try.prog 40 #[pv] w fun e w' => e = .returned (.bool true) ∧ Below w.heap.size w w' := by
  have HP := Lib.hid h
  clear h
  refine (callsIn_wide (n := 4)).1 ?_
  refine callsIn_of_wp_marks Try.func40 rfl trivial ?_ rfl
  simp only [Try.ntmps40, List.size_toArray, List.length_cons, List.length_nil, Nat.reduceAdd, Nat.reduceSub, Array.replicate_succ, Array.replicate_zero, List.push_toArray, List.append_toArray, List.nil_append, List.cons_append]
  -- WALK
  gi_wp2_with (first
    | (refine ⟨trivial, ?_⟩; gi_at_call 28; refine (callsIn_wide.2 (n_load pv 0 _ HP.out)).mono ?_; rintro e w' ⟨rfl, rfl⟩)
    | (refine ⟨trivial, ?_⟩; gi_at_call 30; refine (callsIn_wide.2 (n_loadByte pv 0 _ HP.out)).mono ?_; rintro e w' ⟨rfl, rfl⟩)
    | (refine ⟨trivial, ?_⟩; gi_at_call 32; refine (callsIn_wide.2 (n_place pv 65528 _ HP.out)).mono ?_; rintro e w' ⟨rfl, rfl⟩)
    | (refine ⟨trivial, ?_⟩; gi_at_call 34; refine (callsIn_wide.2 (n_address pv kA 0 _ HP.out)).mono ?_; rintro e w' ⟨rfl, rfl⟩))
  have hnn := Lib.hid (HP.out.later ((Below.refl _ _).alloc (Nat.le_refl _) (.cells #[.int .i64 0] 3 (0, 0))))
  refine ⟨trivial, ?_⟩
  refine (callsIn_wide.2 (n_all pv _ hnn.out)).mono ?_
  rintro e w1 ⟨rfl, hc1, hB1⟩
  have q0 : ∀ (q : Addr) (w : World), (binOp .eql 80 (.func (.func 63) #[] #[.pointer (some q)]) .nilFunc).run Try.prog w = .ok (.bool false) w := fun _ _ => by kernel_rfl
  have HC1 := Lib.hid hc1
  have HB1 := Lib.hid hB1
  clear hc1 hB1
  gi_wp2_with fail
  have hz1 : w.heap.size + 1 < w1.heap.size := by have := World.block_lt_of_cell? w1 _ HC1.out; simpa using this
  have HBw := Lib.hid (((Below.refl _ w).alloc (Nat.le_refl _) (.cells #[.int .i64 0] 3 (0, 0))).trans (HB1.out.mono (by simp)))
  have hn0 : w1.cell? ⟨w.heap.size, 0, none⟩ = some (.int .i64 0) := (HB1.out.cell (p := ⟨w.heap.size, 0, none⟩) (by simp)).trans (by simp [go_sem])
  refine range_none (α := Nat × Nat) rfl (by omega) (gf := 63) (lb := #[.pointer (some ⟨w.heap.size + 1, 0, none⟩)]) rfl trivial (enters_of Try.func63 (by kernel_rfl) rfl) (n₀ := w.heap.size + 1) (by omega)
    (all1_nil Fence.wide _ trivial rfl (w.heap.size + 1) w1 (by simpa using HC1.out) hz1) (fun _ => rfl)
    (fun W => W.cell? ⟨w.heap.size, 0, none⟩ = some (.int .i64 0) ∧ Below w.heap.size w W)
    (OwnFrom.and (fun s A B row hs hg hr => cell_kept hs hg (fun r e => (hr r e).2)) (ownFrom_below (Nat.le_refl _) (by omega)))
    ⟨hn0, HBw.out⟩ ?done
  case done =>
    rintro D W hD ⟨hc, hB⟩ hK
    have HN2 := Lib.hid (HP.out.later hB)
    have HBW := Lib.hid hB
    have HKD := Lib.hid hK
    clear hB hK
    gi_wp2_with (first
      | (refine ⟨trivial, ?_⟩; gi_at_call 16; refine (callsIn_wide.2 (num_any _ _)).mono ?_; rintro e w' ⟨rfl, rfl⟩)
      | (refine ⟨trivial, ?_⟩; gi_at_call 38; refine (callsIn_wide.2 (n_store pv 0 1 _ HN2.out)).mono ?_; rintro e w' ⟨rfl, rfl⟩)
      | (refine ⟨trivial, ?_⟩; gi_at_call 41; refine (callsIn_wide.2 (n_storeByte pv 0 1 _ HN2.out)).mono ?_; rintro e w' ⟨rfl, rfl⟩)
      | (refine ⟨trivial, ?_⟩; gi_at_call 21; refine (callsIn_wide.2 (n_words pv _ HN2.out)).mono ?_; rintro e w' ⟨rfl, rfl⟩)
      | (refine ⟨trivial, ?_⟩; gi_at_call 23; refine (callsIn_wide.2 (n_stack pv _ HN2.out)).mono ?_; rintro e w' ⟨rfl, rfl⟩)
      | (refine ⟨trivial, ?_⟩; gi_at_call 19; refine (callsIn_wide.2 (n_layout pv _ HN2.out)).mono ?_; rintro e w' ⟨rfl, rfl⟩)
      | (refine ⟨trivial, ?_⟩; gi_at_call 60; refine (callsIn_wide.2 (n_copy pv _ HN2.out)).mono ?_; rintro e w' ⟨rfl, rfl⟩)
      | (refine ⟨trivial, ?_⟩; gi_at_call 36; refine (callsIn_wide.2 (n_same pv _ HN2.out)).mono ?_; rintro e w' ⟨rfl, rfl⟩))
    refine ⟨by simp, .inl ⟨_, _, rfl, run_takeDeferred HKD.out, ?_⟩⟩
    exact ⟨_, results_tmp rfl _ _ _, rfl, HBW.out.trans (belowK_b (w := w) (Nat.le_refl _) W D _ _ (by omega) HKD.out rfl rfl)⟩
end Go.Proofs.Ytigkjmjkpjjjkaa
