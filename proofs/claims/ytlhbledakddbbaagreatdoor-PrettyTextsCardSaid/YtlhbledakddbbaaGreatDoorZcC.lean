/- F4, Y1, C1, C2, C3, C4, C5, C6, C7, C8 as one. -/
import Derived.Laws.Concat
import Derived.RangeFuncFrom
import Derived.RangeFuncCalls
import Derived.RangeFuncBound
import Derived.RangeFuncLeaves
import Derived.OwnWalkIn
import Derived.TacticsInMore
import Derived.LoopIn
import Derived.LoopNIn
import Derived.RangeFuncNested
import Derived.Shelf.Abstract
import Derived.Shelf.RegionOpen
import Derived.Laws.EntriesVeiled
import Derived.Test.YtlhbledakddbbaaGreatDoorShelf
import Derived.Test.YtlhbledakddbbaaGreatDoorZcB
/- The text of an expression that may be: the document's Expr. -/
namespace Go.Proofs.YtlhbledakddbbaaGreatDoor
open Go.RowKit

theorem ret_strE {a b : ByteArray} (h : a = b) : Ending.returned (.string a) = .returned (.string b) := by rw [h]
theorem str_app (a b : List UInt8) : str a ++ str b = str (a ++ b) := ByteArray.mk_append_mk _ _
theorem add_str (a b : List UInt8) (h : a.length + b.length ≤ 9000000) (w : World) : (Op.stringOp .add (str a) (str b)).run Tryz.prog w = .ok (.string (str (a ++ b))) w := by
  rw [run_string_add_sum w _ _ (by rw [size_str, size_str]; omega), str_app]
def RE (n : Nat) : Prop := ∀ x : Ex, x.size < n → x.may = true → x.text.length ≤ 1000000 → ∀ (p : Option Addr) (c N : Nat) (w : World), x.Ok w N p → N ≤ w.heap.size → Glob w →
    Calls Tryz.prog 15 #[x.val p c] w fun e w' => e = .returned (.string (str x.text)) ∧ Below w.heap.size w w'

set_option maxRecDepth 100000 in
set_option maxHeartbeats 6400000 in
theorem re_index (n : Nat) (ih : RE n) (wd : Nat) (nm : List UInt8) (b2 o2 c N : Nat) (w : World) (hG : Glob w) (hN : N ≤ w.heap.size) (hbN : b2 < N) (y0 : Ex) (hs0 : y0.size < n) (hm0 : y0.may = true) (hy0 : y0.At w N b2 (o2)) (hl : (Ex.mk 3 wd nm (.cons y0 .nil)).text.length ≤ 1000000) :
    Calls Tryz.prog 15 #[.agg #[.int .i64 3, .int .u64 (wd : Int), .string (str nm), .slice (some ⟨b2, o2, none⟩) 1 c]] w fun e w' => e = .returned (.string (str (Ex.mk 3 wd nm (.cons y0 .nil)).text)) ∧ Below w.heap.size w w' := by
  have ht : (Ex.mk 3 wd nm (.cons y0 .nil)).text = (nm ++ [91] ++ y0.text) ++ [93] := rfl
  have hlen : nm.length + y0.text.length ≤ 1000000 := by rw [ht] at hl; simp at hl; omega
  obtain ⟨W1, hW1⟩ : ∃ W1, w.alloc (.cells #[.int .i64 3, .int .u64 (wd : Int), .string (str nm), .slice (some ⟨b2, o2, none⟩) 1 c] 26) = W1 := ⟨_, rfl⟩
  have HB1 := Lib.hid (show Below w.heap.size w W1 by rw [← hW1]; exact (Below.refl _ _).alloc (Nat.le_refl _) _)
  have HX := Lib.hid (fun w1 hb => cells_later (w0 := W1) (w1 := w1) (b := w.heap.size) (A := #[.int .i64 3, .int .u64 (wd : Int), .string (str nm), .slice (some ⟨b2, o2, none⟩) 1 c]) (t := 26) (by rw [← hW1]; exact heap_alloc_new w _) hb)
  have x0 : W1.cell? ⟨w.heap.size, 0, none⟩ = some (.int .i64 3) := HX.out _ (Below.refl _ _) 0 _ rfl
  have x1 : W1.cell? ⟨w.heap.size, 1, none⟩ = some (.int .u64 (wd : Int)) := HX.out _ (Below.refl _ _) 1 _ rfl
  have x2 : W1.cell? ⟨w.heap.size, 2, none⟩ = some (.string (str nm)) := HX.out _ (Below.refl _ _) 2 _ rfl
  have x3 : W1.cell? ⟨w.heap.size, 3, none⟩ = some (.slice (some ⟨b2, o2, none⟩) 1 c) := HX.out _ (Below.refl _ _) 3 _ rfl
  have hbw : b2 < w.heap.size := by omega
  have hb2 : b2 < W1.heap.size := by have := HB1.out.size; omega
  obtain ⟨q0, c0, e00, e01, e02, e03, ok0⟩ := hy0.open'
  have d00 : W1.cell? ⟨b2, o2, none⟩ = some (.int .i64 y0.op) := (HB1.out.cell hbw).trans e00
  have d01 : W1.cell? ⟨b2, o2 + 1, none⟩ = some (.int .u64 (y0.word : Int)) := (HB1.out.cell hbw).trans e01
  have d02 : W1.cell? ⟨b2, o2 + 2, none⟩ = some (.string (str y0.name)) := (HB1.out.cell hbw).trans e02
  have d03 : W1.cell? ⟨b2, o2 + 3, none⟩ = some (.slice q0 y0.args.len c0) := (HB1.out.cell hbw).trans e03
  have HC0 := Lib.hid (fun (w1 : World) (hb : Below W1.heap.size W1 w1) => ih y0 hs0 hm0 (by omega) q0 c0 w1.heap.size w1 (ok0.later ((HB1.out.trans (hb.mono HB1.out.size)).mono hN) (Nat.le_trans hN (HB1.out.trans (hb.mono HB1.out.size)).size)) (Nat.le_refl _) (hG.later (HB1.out.trans (hb.mono HB1.out.size))))
  unfold Ex.val at HC0
  clear e00 e01 e02 e03 ok0 hy0 hs0 hm0
  obtain ⟨A0, hA0⟩ : ∃ A, A = str y0.text := ⟨_, rfl⟩
  rw [← hA0] at HC0
  obtain ⟨B2, hB2⟩ : ∃ B, B = str (nm ++ [91]) := ⟨_, rfl⟩
  obtain ⟨B8, hB8⟩ : ∃ B, B = str ((nm ++ [91]) ++ y0.text) := ⟨_, rfl⟩
  obtain ⟨B9, hB9⟩ : ∃ B, B = str ((nm ++ [91] ++ y0.text) ++ [93]) := ⟨_, rfl⟩
  have qB2 : ∀ w : World, (Op.stringOp .add (str nm) ⟨#[91]⟩).run Tryz.prog w = .ok (.string B2) w := fun w => by
    (try rw [hB2]); (try rw [Nat.add_zero]); (try rw [Nat.add_zero]); exact add_str (nm) ([91]) (by simp; omega) w
  have qB8 : ∀ w : World, (Op.stringOp .add B2 A0).run Tryz.prog w = .ok (.string B8) w := fun w => by
    (try rw [hB8]); (try rw [hB2]); (try rw [hA0]); exact add_str ((nm ++ [91])) (y0.text) (by simp; omega) w
  have qB9 : ∀ w : World, (Op.stringOp .add B8 ⟨#[93]⟩).run Tryz.prog w = .ok (.string B9) w := fun w => by
    (try rw [hB9]); (try rw [hB8]); (try rw [Nat.add_zero]); exact add_str ((nm ++ [91] ++ y0.text)) ([93]) (by simp; omega) w
  have HF := Lib.hid (show str (Ex.mk 3 wd nm (.cons y0 .nil)).text = B9 by rw [ht, hB9])
  clear hA0 hB2 hB8 hB9
  clear hl ht ih hG
  go_enter Tryz.func15, Tryz.ntmps15
  go_wp2_with fail
  clear hW1 x0 x1 x2 x3
  have HS : Below W1.heap.size W1 W1.drew := (Below.refl _ _).drew
  refine wp_region_held_drew (S := fun W => Below W1.heap.size W1 W ∧ W.cell? ⟨w.heap.size, 2, none⟩ = some (.string (str nm)) ∧ W.cell? ⟨w.heap.size, 3, none⟩ = some (.slice (some ⟨b2, o2, none⟩) 1 c) ∧ W.cell? ⟨b2, o2, none⟩ = some (.int .i64 y0.op) ∧ W.cell? ⟨b2, o2 + 1, none⟩ = some (.int .u64 (y0.word : Int)) ∧ W.cell? ⟨b2, o2 + 2, none⟩ = some (.string (str y0.name)) ∧ W.cell? ⟨b2, o2 + 3, none⟩ = some (.slice q0 y0.args.len c0)) (by kernel_rfl) ?_ (fun hHeld => ?_)
  · exact ⟨HS, HX.out _ HS 2 _ rfl, HX.out _ HS 3 _ rfl, (HS.cell hb2).trans d00, (HS.cell hb2).trans d01, (HS.cell hb2).trans d02, (HS.cell hb2).trans d03⟩
  refine wpAnyH_take (i := 0) (oi := ⟨some 16, .fieldAddr 26 (.tmp 1) 2, 0, "ref.go:213", #[], none⟩) (v := ?_) rfl (by kernel_rfl) (by kernel_rfl) (by kernel_rfl) (fun _ _ _ h => h) (Or.inl ⟨by rfl, ?_⟩) (by assumption) ?_
  rotate_left
  · (intro w hSw; (try dsimp only at hSw); go_simp; try with_reducible rfl)
  try simp only [Act.put, List.setIfInBounds_toArray, List.set_cons_zero, List.set_cons_succ]
  refine wpAnyH_take (i := 1) (oi := ⟨some 17, .load 9 (.tmp 16), 9, "ref.go:213", #[⟨0, .data⟩], none⟩) (v := ?_) rfl (by kernel_rfl) (by kernel_rfl) (by kernel_rfl) (fun _ _ _ h => h) (Or.inl ⟨by rfl, ?_⟩) (by assumption) ?_
  rotate_left
  · (intro w hSw; (try dsimp only at hSw); go_simp; try with_reducible rfl)
  try simp only [Act.put, List.setIfInBounds_toArray, List.set_cons_zero, List.set_cons_succ]
  refine wpAnyH_take (i := 3) (oi := ⟨some 19, .fieldAddr 26 (.tmp 1) 3, 0, "ref.go:213", #[], none⟩) (v := ?_) rfl (by kernel_rfl) (by kernel_rfl) (by kernel_rfl) (fun _ _ _ h => h) (Or.inl ⟨by rfl, ?_⟩) (by assumption) ?_
  rotate_left
  · (intro w hSw; (try dsimp only at hSw); go_simp; try with_reducible rfl)
  try simp only [Act.put, List.setIfInBounds_toArray, List.set_cons_zero, List.set_cons_succ]
  refine wpAnyH_take (i := 4) (oi := ⟨some 20, .load 24 (.tmp 19), 24, "ref.go:213", #[⟨3, .data⟩], none⟩) (v := ?_) rfl (by kernel_rfl) (by kernel_rfl) (by kernel_rfl) (fun _ _ _ h => h) (Or.inl ⟨by rfl, ?_⟩) (by assumption) ?_
  rotate_left
  · (intro w hSw; (try dsimp only at hSw); go_simp; try with_reducible rfl)
  try simp only [Act.put, List.setIfInBounds_toArray, List.set_cons_zero, List.set_cons_succ]
  refine wpAnyH_take (i := 5) (oi := ⟨some 21, .indexAddr 24 (.tmp 20) (.const (.int .i64 0)), 0, "ref.go:213", #[⟨4, .data⟩], none⟩) (v := ?_) rfl (by kernel_rfl) (by kernel_rfl) (by kernel_rfl) (fun _ _ _ h => h) (Or.inl ⟨by rfl, ?_⟩) (by assumption) ?_
  rotate_left
  · (intro w hSw; (try dsimp only at hSw); go_simp; try with_reducible rfl)
  try simp only [Act.put, List.setIfInBounds_toArray, List.set_cons_zero, List.set_cons_succ]
  refine wpAnyH_take (i := 6) (oi := ⟨some 22, .load 26 (.tmp 21), 26, "ref.go:213", #[⟨5, .data⟩], none⟩) (v := ?_) rfl (by kernel_rfl) (by kernel_rfl) (by kernel_rfl) (fun _ _ _ h => h) (Or.inl ⟨by rfl, ?_⟩) (by assumption) ?_
  rotate_left
  · (intro w hSw; (try dsimp only at hSw); go_simp; try with_reducible rfl)
  try simp only [Act.put, List.setIfInBounds_toArray, List.set_cons_zero, List.set_cons_succ]
  refine wpAnyH_take (i := 2) (oi := ⟨some 18, .binOp .add 9 (.tmp 17) (.const (.string ⟨#[91]⟩)) 9, 9, "ref.go:213", #[⟨1, .data⟩], none⟩) (v := .string B2) rfl (by kernel_rfl) (by kernel_rfl) (by kernel_rfl) (fun _ _ _ h => h) (Or.inl ⟨by rfl, ?_⟩) (by assumption) ?_
  · (intro w hSw; (try dsimp only at hSw); go_simp)
  try simp only [Act.put, List.setIfInBounds_toArray, List.set_cons_zero, List.set_cons_succ]
  refine wpAnyH_ready (rs := [7]) (by kernel_rfl) (by simp) ?_
  refine AllReadyH.cons (o := ⟨some 23, .call { callee := .value (.func 15), args := #[.tmp 22], argTypes := #[26] }, 9, "ref.go:213", #[⟨6, .data⟩], none⟩) rfl (fun K hK => ?_) AllReadyH.nil
  go_simp
  refine (HC0.out _ HS).mono ?_
  rintro z wa ⟨rfl, hB'⟩
  replace HS := HS.trans (hB'.mono HS.size)
  clear hB'
  refine hK.out _ _ ?_ (fun hHeld => ?_)
  · exact ⟨HS, HX.out _ HS 2 _ rfl, HX.out _ HS 3 _ rfl, (HS.cell hb2).trans d00, (HS.cell hb2).trans d01, (HS.cell hb2).trans d02, (HS.cell hb2).trans d03⟩
  clear hK K
  try simp only [Act.put, List.setIfInBounds_toArray, List.set_cons_zero, List.set_cons_succ]
  refine wpAnyH_take (i := 8) (oi := ⟨some 24, .binOp .add 9 (.tmp 18) (.tmp 23) 9, 9, "ref.go:213", #[⟨2, .data⟩, ⟨7, .data⟩], none⟩) (v := .string B8) rfl (by kernel_rfl) (by kernel_rfl) (by kernel_rfl) (fun _ _ _ h => h) (Or.inl ⟨by rfl, ?_⟩) (by assumption) ?_
  · (intro w hSw; (try dsimp only at hSw); go_simp)
  try simp only [Act.put, List.setIfInBounds_toArray, List.set_cons_zero, List.set_cons_succ]
  refine wpAnyH_take (i := 9) (oi := ⟨some 25, .binOp .add 9 (.tmp 24) (.const (.string ⟨#[93]⟩)) 9, 9, "ref.go:213", #[⟨8, .data⟩], none⟩) (v := .string B9) rfl (by kernel_rfl) (by kernel_rfl) (by kernel_rfl) (fun _ _ _ h => h) (Or.inl ⟨by rfl, ?_⟩) (by assumption) ?_
  · (intro w hSw; (try dsimp only at hSw); go_simp)
  try simp only [Act.put, List.setIfInBounds_toArray, List.set_cons_zero, List.set_cons_succ]
  refine wpAnyH_take (i := 10) (oi := ⟨some 2, .assign (.tmp 25), 9, "ref.go:213", #[⟨9, .data⟩, ⟨7, .chain⟩, ⟨0, .phase⟩, ⟨1, .phase⟩, ⟨2, .phase⟩, ⟨3, .phase⟩, ⟨4, .phase⟩, ⟨5, .phase⟩, ⟨6, .phase⟩, ⟨7, .phase⟩, ⟨8, .phase⟩, ⟨9, .phase⟩], none⟩) (v := ?_) rfl (by kernel_rfl) (by kernel_rfl) (by kernel_rfl) (fun _ _ _ h => h) (Or.inl ⟨by rfl, ?_⟩) (by assumption) ?_
  rotate_left
  · (intro w hSw; (try dsimp only at hSw); go_simp; try with_reducible rfl)
  try simp only [Act.put, List.setIfInBounds_toArray, List.set_cons_zero, List.set_cons_succ]
  refine wpAnyH_done (by kernel_rfl) ?_ _
  have HE := Lib.hid (HB1.out.trans (HS.mono HB1.out.size))
  go_wp2_with fail
  go_ret
  exact ⟨ret_strE HF.out.symm, HE.out⟩

set_option maxRecDepth 100000 in
set_option maxHeartbeats 6400000 in
theorem re_not (n : Nat) (ih : RE n) (wd : Nat) (nm : List UInt8) (b2 o2 c N : Nat) (w : World) (hG : Glob w) (hN : N ≤ w.heap.size) (hbN : b2 < N) (y0 : Ex) (hs0 : y0.size < n) (hm0 : y0.may = true) (hy0 : y0.At w N b2 (o2)) (hl : (Ex.mk 4 wd nm (.cons y0 .nil)).text.length ≤ 1000000) :
    Calls Tryz.prog 15 #[.agg #[.int .i64 4, .int .u64 (wd : Int), .string (str nm), .slice (some ⟨b2, o2, none⟩) 1 c]] w fun e w' => e = .returned (.string (str (Ex.mk 4 wd nm (.cons y0 .nil)).text)) ∧ Below w.heap.size w w' := by
  have ht : (Ex.mk 4 wd nm (.cons y0 .nil)).text = [126] ++ y0.text := rfl
  have hlen : y0.text.length ≤ 1000000 := by rw [ht] at hl; simp at hl; omega
  obtain ⟨W1, hW1⟩ : ∃ W1, w.alloc (.cells #[.int .i64 4, .int .u64 (wd : Int), .string (str nm), .slice (some ⟨b2, o2, none⟩) 1 c] 26) = W1 := ⟨_, rfl⟩
  have HB1 := Lib.hid (show Below w.heap.size w W1 by rw [← hW1]; exact (Below.refl _ _).alloc (Nat.le_refl _) _)
  have HX := Lib.hid (fun w1 hb => cells_later (w0 := W1) (w1 := w1) (b := w.heap.size) (A := #[.int .i64 4, .int .u64 (wd : Int), .string (str nm), .slice (some ⟨b2, o2, none⟩) 1 c]) (t := 26) (by rw [← hW1]; exact heap_alloc_new w _) hb)
  have x0 : W1.cell? ⟨w.heap.size, 0, none⟩ = some (.int .i64 4) := HX.out _ (Below.refl _ _) 0 _ rfl
  have x1 : W1.cell? ⟨w.heap.size, 1, none⟩ = some (.int .u64 (wd : Int)) := HX.out _ (Below.refl _ _) 1 _ rfl
  have x2 : W1.cell? ⟨w.heap.size, 2, none⟩ = some (.string (str nm)) := HX.out _ (Below.refl _ _) 2 _ rfl
  have x3 : W1.cell? ⟨w.heap.size, 3, none⟩ = some (.slice (some ⟨b2, o2, none⟩) 1 c) := HX.out _ (Below.refl _ _) 3 _ rfl
  have hbw : b2 < w.heap.size := by omega
  have hb2 : b2 < W1.heap.size := by have := HB1.out.size; omega
  obtain ⟨q0, c0, e00, e01, e02, e03, ok0⟩ := hy0.open'
  have d00 : W1.cell? ⟨b2, o2, none⟩ = some (.int .i64 y0.op) := (HB1.out.cell hbw).trans e00
  have d01 : W1.cell? ⟨b2, o2 + 1, none⟩ = some (.int .u64 (y0.word : Int)) := (HB1.out.cell hbw).trans e01
  have d02 : W1.cell? ⟨b2, o2 + 2, none⟩ = some (.string (str y0.name)) := (HB1.out.cell hbw).trans e02
  have d03 : W1.cell? ⟨b2, o2 + 3, none⟩ = some (.slice q0 y0.args.len c0) := (HB1.out.cell hbw).trans e03
  have HC0 := Lib.hid (fun (w1 : World) (hb : Below W1.heap.size W1 w1) => ih y0 hs0 hm0 (by omega) q0 c0 w1.heap.size w1 (ok0.later ((HB1.out.trans (hb.mono HB1.out.size)).mono hN) (Nat.le_trans hN (HB1.out.trans (hb.mono HB1.out.size)).size)) (Nat.le_refl _) (hG.later (HB1.out.trans (hb.mono HB1.out.size))))
  unfold Ex.val at HC0
  clear e00 e01 e02 e03 ok0 hy0 hs0 hm0
  obtain ⟨A0, hA0⟩ : ∃ A, A = str y0.text := ⟨_, rfl⟩
  rw [← hA0] at HC0
  obtain ⟨B2, hB2⟩ : ∃ B, B = str ([126] ++ y0.text) := ⟨_, rfl⟩
  have qB2 : ∀ w : World, (Op.stringOp .add ⟨#[126]⟩ A0).run Tryz.prog w = .ok (.string B2) w := fun w => by
    (try rw [hB2]); (try rw [Nat.add_zero]); (try rw [hA0]); exact add_str ([126]) (y0.text) (by simp; omega) w
  have HF := Lib.hid (show str (Ex.mk 4 wd nm (.cons y0 .nil)).text = B2 by rw [ht, hB2])
  clear hA0 hB2
  clear hl ht ih hG
  go_enter Tryz.func15, Tryz.ntmps15
  go_wp2_with fail
  refine (HC0.out _ (Below.refl _ _)).mono ?_
  rintro e w2 ⟨rfl, hB⟩
  have HE := Lib.hid (HB1.out.trans (hB.mono HB1.out.size))
  clear hB
  go_wp2_with fail
  go_ret
  exact ⟨ret_strE HF.out.symm, HE.out⟩

set_option maxRecDepth 100000 in
set_option maxHeartbeats 6400000 in
theorem re_neg (n : Nat) (ih : RE n) (wd : Nat) (nm : List UInt8) (b2 o2 c N : Nat) (w : World) (hG : Glob w) (hN : N ≤ w.heap.size) (hbN : b2 < N) (y0 : Ex) (hs0 : y0.size < n) (hm0 : y0.may = true) (hy0 : y0.At w N b2 (o2)) (hl : (Ex.mk 5 wd nm (.cons y0 .nil)).text.length ≤ 1000000) :
    Calls Tryz.prog 15 #[.agg #[.int .i64 5, .int .u64 (wd : Int), .string (str nm), .slice (some ⟨b2, o2, none⟩) 1 c]] w fun e w' => e = .returned (.string (str (Ex.mk 5 wd nm (.cons y0 .nil)).text)) ∧ Below w.heap.size w w' := by
  have ht : (Ex.mk 5 wd nm (.cons y0 .nil)).text = [45] ++ y0.text := rfl
  have hlen : y0.text.length ≤ 1000000 := by rw [ht] at hl; simp at hl; omega
  obtain ⟨W1, hW1⟩ : ∃ W1, w.alloc (.cells #[.int .i64 5, .int .u64 (wd : Int), .string (str nm), .slice (some ⟨b2, o2, none⟩) 1 c] 26) = W1 := ⟨_, rfl⟩
  have HB1 := Lib.hid (show Below w.heap.size w W1 by rw [← hW1]; exact (Below.refl _ _).alloc (Nat.le_refl _) _)
  have HX := Lib.hid (fun w1 hb => cells_later (w0 := W1) (w1 := w1) (b := w.heap.size) (A := #[.int .i64 5, .int .u64 (wd : Int), .string (str nm), .slice (some ⟨b2, o2, none⟩) 1 c]) (t := 26) (by rw [← hW1]; exact heap_alloc_new w _) hb)
  have x0 : W1.cell? ⟨w.heap.size, 0, none⟩ = some (.int .i64 5) := HX.out _ (Below.refl _ _) 0 _ rfl
  have x1 : W1.cell? ⟨w.heap.size, 1, none⟩ = some (.int .u64 (wd : Int)) := HX.out _ (Below.refl _ _) 1 _ rfl
  have x2 : W1.cell? ⟨w.heap.size, 2, none⟩ = some (.string (str nm)) := HX.out _ (Below.refl _ _) 2 _ rfl
  have x3 : W1.cell? ⟨w.heap.size, 3, none⟩ = some (.slice (some ⟨b2, o2, none⟩) 1 c) := HX.out _ (Below.refl _ _) 3 _ rfl
  have hbw : b2 < w.heap.size := by omega
  have hb2 : b2 < W1.heap.size := by have := HB1.out.size; omega
  obtain ⟨q0, c0, e00, e01, e02, e03, ok0⟩ := hy0.open'
  have d00 : W1.cell? ⟨b2, o2, none⟩ = some (.int .i64 y0.op) := (HB1.out.cell hbw).trans e00
  have d01 : W1.cell? ⟨b2, o2 + 1, none⟩ = some (.int .u64 (y0.word : Int)) := (HB1.out.cell hbw).trans e01
  have d02 : W1.cell? ⟨b2, o2 + 2, none⟩ = some (.string (str y0.name)) := (HB1.out.cell hbw).trans e02
  have d03 : W1.cell? ⟨b2, o2 + 3, none⟩ = some (.slice q0 y0.args.len c0) := (HB1.out.cell hbw).trans e03
  have HC0 := Lib.hid (fun (w1 : World) (hb : Below W1.heap.size W1 w1) => ih y0 hs0 hm0 (by omega) q0 c0 w1.heap.size w1 (ok0.later ((HB1.out.trans (hb.mono HB1.out.size)).mono hN) (Nat.le_trans hN (HB1.out.trans (hb.mono HB1.out.size)).size)) (Nat.le_refl _) (hG.later (HB1.out.trans (hb.mono HB1.out.size))))
  unfold Ex.val at HC0
  clear e00 e01 e02 e03 ok0 hy0 hs0 hm0
  obtain ⟨A0, hA0⟩ : ∃ A, A = str y0.text := ⟨_, rfl⟩
  rw [← hA0] at HC0
  obtain ⟨B2, hB2⟩ : ∃ B, B = str ([45] ++ y0.text) := ⟨_, rfl⟩
  have qB2 : ∀ w : World, (Op.stringOp .add ⟨#[45]⟩ A0).run Tryz.prog w = .ok (.string B2) w := fun w => by
    (try rw [hB2]); (try rw [Nat.add_zero]); (try rw [hA0]); exact add_str ([45]) (y0.text) (by simp; omega) w
  have HF := Lib.hid (show str (Ex.mk 5 wd nm (.cons y0 .nil)).text = B2 by rw [ht, hB2])
  clear hA0 hB2
  clear hl ht ih hG
  go_enter Tryz.func15, Tryz.ntmps15
  go_wp2_with fail
  refine (HC0.out _ (Below.refl _ _)).mono ?_
  rintro e w2 ⟨rfl, hB⟩
  have HE := Lib.hid (HB1.out.trans (hB.mono HB1.out.size))
  clear hB
  go_wp2_with fail
  go_ret
  exact ⟨ret_strE HF.out.symm, HE.out⟩

set_option maxRecDepth 100000 in
set_option maxHeartbeats 6400000 in
theorem re_pick (n : Nat) (ih : RE n) (wd : Nat) (nm : List UInt8) (b2 o2 c N : Nat) (w : World) (hG : Glob w) (hN : N ≤ w.heap.size) (hbN : b2 < N) (y0 : Ex) (hs0 : y0.size < n) (hm0 : y0.may = true) (hy0 : y0.At w N b2 (o2)) (y1 : Ex) (hs1 : y1.size < n) (hm1 : y1.may = true) (hy1 : y1.At w N b2 (o2 + 4)) (y2 : Ex) (hs2 : y2.size < n) (hm2 : y2.may = true) (hy2 : y2.At w N b2 (o2 + 8)) (hl : (Ex.mk 21 wd nm (.cons y0 (.cons y1 (.cons y2 .nil)))).text.length ≤ 1000000) :
    Calls Tryz.prog 15 #[.agg #[.int .i64 21, .int .u64 (wd : Int), .string (str nm), .slice (some ⟨b2, o2, none⟩) 3 c]] w fun e w' => e = .returned (.string (str (Ex.mk 21 wd nm (.cons y0 (.cons y1 (.cons y2 .nil)))).text)) ∧ Below w.heap.size w w' := by
  have ht : (Ex.mk 21 wd nm (.cons y0 (.cons y1 (.cons y2 .nil)))).text = ((((([112, 105, 99, 107, 40] ++ y0.text) ++ [44, 32]) ++ y1.text) ++ [44, 32]) ++ y2.text) ++ [41] := by
    rw [Ex.text, textOf, if_neg (by omega), if_neg (by omega), if_neg (by omega), if_neg (by omega), if_neg (by omega), if_pos rfl]
    simp [Exs.texts, Lib.join]
  have hlen : y0.text.length + y1.text.length + y2.text.length ≤ 1000000 := by rw [ht] at hl; simp at hl; omega
  obtain ⟨W1, hW1⟩ : ∃ W1, w.alloc (.cells #[.int .i64 21, .int .u64 (wd : Int), .string (str nm), .slice (some ⟨b2, o2, none⟩) 3 c] 26) = W1 := ⟨_, rfl⟩
  have HB1 := Lib.hid (show Below w.heap.size w W1 by rw [← hW1]; exact (Below.refl _ _).alloc (Nat.le_refl _) _)
  have HX := Lib.hid (fun w1 hb => cells_later (w0 := W1) (w1 := w1) (b := w.heap.size) (A := #[.int .i64 21, .int .u64 (wd : Int), .string (str nm), .slice (some ⟨b2, o2, none⟩) 3 c]) (t := 26) (by rw [← hW1]; exact heap_alloc_new w _) hb)
  have x0 : W1.cell? ⟨w.heap.size, 0, none⟩ = some (.int .i64 21) := HX.out _ (Below.refl _ _) 0 _ rfl
  have x1 : W1.cell? ⟨w.heap.size, 1, none⟩ = some (.int .u64 (wd : Int)) := HX.out _ (Below.refl _ _) 1 _ rfl
  have x2 : W1.cell? ⟨w.heap.size, 2, none⟩ = some (.string (str nm)) := HX.out _ (Below.refl _ _) 2 _ rfl
  have x3 : W1.cell? ⟨w.heap.size, 3, none⟩ = some (.slice (some ⟨b2, o2, none⟩) 3 c) := HX.out _ (Below.refl _ _) 3 _ rfl
  have hbw : b2 < w.heap.size := by omega
  have hb2 : b2 < W1.heap.size := by have := HB1.out.size; omega
  obtain ⟨q0, c0, e00, e01, e02, e03, ok0⟩ := hy0.open'
  have d00 : W1.cell? ⟨b2, o2, none⟩ = some (.int .i64 y0.op) := (HB1.out.cell hbw).trans e00
  have d01 : W1.cell? ⟨b2, o2 + 1, none⟩ = some (.int .u64 (y0.word : Int)) := (HB1.out.cell hbw).trans e01
  have d02 : W1.cell? ⟨b2, o2 + 2, none⟩ = some (.string (str y0.name)) := (HB1.out.cell hbw).trans e02
  have d03 : W1.cell? ⟨b2, o2 + 3, none⟩ = some (.slice q0 y0.args.len c0) := (HB1.out.cell hbw).trans e03
  have HC0 := Lib.hid (fun (w1 : World) (hb : Below W1.heap.size W1 w1) => ih y0 hs0 hm0 (by omega) q0 c0 w1.heap.size w1 (ok0.later ((HB1.out.trans (hb.mono HB1.out.size)).mono hN) (Nat.le_trans hN (HB1.out.trans (hb.mono HB1.out.size)).size)) (Nat.le_refl _) (hG.later (HB1.out.trans (hb.mono HB1.out.size))))
  unfold Ex.val at HC0
  obtain ⟨q1, c1, e10, e11, e12, e13, ok1⟩ := hy1.open'
  have d10 : W1.cell? ⟨b2, o2 + 4, none⟩ = some (.int .i64 y1.op) := (HB1.out.cell hbw).trans e10
  have d11 : W1.cell? ⟨b2, o2 + 4 + 1, none⟩ = some (.int .u64 (y1.word : Int)) := (HB1.out.cell hbw).trans e11
  have d12 : W1.cell? ⟨b2, o2 + 4 + 2, none⟩ = some (.string (str y1.name)) := (HB1.out.cell hbw).trans e12
  have d13 : W1.cell? ⟨b2, o2 + 4 + 3, none⟩ = some (.slice q1 y1.args.len c1) := (HB1.out.cell hbw).trans e13
  have HC1 := Lib.hid (fun (w1 : World) (hb : Below W1.heap.size W1 w1) => ih y1 hs1 hm1 (by omega) q1 c1 w1.heap.size w1 (ok1.later ((HB1.out.trans (hb.mono HB1.out.size)).mono hN) (Nat.le_trans hN (HB1.out.trans (hb.mono HB1.out.size)).size)) (Nat.le_refl _) (hG.later (HB1.out.trans (hb.mono HB1.out.size))))
  unfold Ex.val at HC1
  obtain ⟨q2, c2, e20, e21, e22, e23, ok2⟩ := hy2.open'
  have d20 : W1.cell? ⟨b2, o2 + 8, none⟩ = some (.int .i64 y2.op) := (HB1.out.cell hbw).trans e20
  have d21 : W1.cell? ⟨b2, o2 + 8 + 1, none⟩ = some (.int .u64 (y2.word : Int)) := (HB1.out.cell hbw).trans e21
  have d22 : W1.cell? ⟨b2, o2 + 8 + 2, none⟩ = some (.string (str y2.name)) := (HB1.out.cell hbw).trans e22
  have d23 : W1.cell? ⟨b2, o2 + 8 + 3, none⟩ = some (.slice q2 y2.args.len c2) := (HB1.out.cell hbw).trans e23
  have HC2 := Lib.hid (fun (w1 : World) (hb : Below W1.heap.size W1 w1) => ih y2 hs2 hm2 (by omega) q2 c2 w1.heap.size w1 (ok2.later ((HB1.out.trans (hb.mono HB1.out.size)).mono hN) (Nat.le_trans hN (HB1.out.trans (hb.mono HB1.out.size)).size)) (Nat.le_refl _) (hG.later (HB1.out.trans (hb.mono HB1.out.size))))
  unfold Ex.val at HC2
  clear e00 e01 e02 e03 e10 e11 e12 e13 e20 e21 e22 e23 ok0 hy0 hs0 hm0 ok1 hy1 hs1 hm1 ok2 hy2 hs2 hm2
  obtain ⟨A0, hA0⟩ : ∃ A, A = str y0.text := ⟨_, rfl⟩
  rw [← hA0] at HC0
  obtain ⟨A1, hA1⟩ : ∃ A, A = str y1.text := ⟨_, rfl⟩
  rw [← hA1] at HC1
  obtain ⟨A2, hA2⟩ : ∃ A, A = str y2.text := ⟨_, rfl⟩
  rw [← hA2] at HC2
  obtain ⟨B5, hB5⟩ : ∃ B, B = str ([112, 105, 99, 107, 40] ++ y0.text) := ⟨_, rfl⟩
  obtain ⟨B6, hB6⟩ : ∃ B, B = str (([112, 105, 99, 107, 40] ++ y0.text) ++ [44, 32]) := ⟨_, rfl⟩
  obtain ⟨B12, hB12⟩ : ∃ B, B = str ((([112, 105, 99, 107, 40] ++ y0.text) ++ [44, 32]) ++ y1.text) := ⟨_, rfl⟩
  obtain ⟨B13, hB13⟩ : ∃ B, B = str (((([112, 105, 99, 107, 40] ++ y0.text) ++ [44, 32]) ++ y1.text) ++ [44, 32]) := ⟨_, rfl⟩
  obtain ⟨B19, hB19⟩ : ∃ B, B = str ((((([112, 105, 99, 107, 40] ++ y0.text) ++ [44, 32]) ++ y1.text) ++ [44, 32]) ++ y2.text) := ⟨_, rfl⟩
  obtain ⟨B20, hB20⟩ : ∃ B, B = str (((((([112, 105, 99, 107, 40] ++ y0.text) ++ [44, 32]) ++ y1.text) ++ [44, 32]) ++ y2.text) ++ [41]) := ⟨_, rfl⟩
  have qB5 : ∀ w : World, (Op.stringOp .add ⟨#[112, 105, 99, 107, 40]⟩ A0).run Tryz.prog w = .ok (.string B5) w := fun w => by
    (try rw [hB5]); (try rw [Nat.add_zero]); (try rw [hA0]); exact add_str ([112, 105, 99, 107, 40]) (y0.text) (by simp; omega) w
  have qB6 : ∀ w : World, (Op.stringOp .add B5 ⟨#[44, 32]⟩).run Tryz.prog w = .ok (.string B6) w := fun w => by
    (try rw [hB6]); (try rw [hB5]); (try rw [Nat.add_zero]); exact add_str (([112, 105, 99, 107, 40] ++ y0.text)) ([44, 32]) (by simp; omega) w
  have qB12 : ∀ w : World, (Op.stringOp .add B6 A1).run Tryz.prog w = .ok (.string B12) w := fun w => by
    (try rw [hB12]); (try rw [hB6]); (try rw [hA1]); exact add_str ((([112, 105, 99, 107, 40] ++ y0.text) ++ [44, 32])) (y1.text) (by simp; omega) w
  have qB13 : ∀ w : World, (Op.stringOp .add B12 ⟨#[44, 32]⟩).run Tryz.prog w = .ok (.string B13) w := fun w => by
    (try rw [hB13]); (try rw [hB12]); (try rw [Nat.add_zero]); exact add_str (((([112, 105, 99, 107, 40] ++ y0.text) ++ [44, 32]) ++ y1.text)) ([44, 32]) (by simp; omega) w
  have qB19 : ∀ w : World, (Op.stringOp .add B13 A2).run Tryz.prog w = .ok (.string B19) w := fun w => by
    (try rw [hB19]); (try rw [hB13]); (try rw [hA2]); exact add_str ((((([112, 105, 99, 107, 40] ++ y0.text) ++ [44, 32]) ++ y1.text) ++ [44, 32])) (y2.text) (by simp; omega) w
  have qB20 : ∀ w : World, (Op.stringOp .add B19 ⟨#[41]⟩).run Tryz.prog w = .ok (.string B20) w := fun w => by
    (try rw [hB20]); (try rw [hB19]); (try rw [Nat.add_zero]); exact add_str (((((([112, 105, 99, 107, 40] ++ y0.text) ++ [44, 32]) ++ y1.text) ++ [44, 32]) ++ y2.text)) ([41]) (by simp; omega) w
  have HF := Lib.hid (show str (Ex.mk 21 wd nm (.cons y0 (.cons y1 (.cons y2 .nil)))).text = B20 by rw [ht, hB20])
  clear hA0 hA1 hA2 hB5 hB6 hB12 hB13 hB19 hB20
  clear hl ht ih hG
  go_enter Tryz.func15, Tryz.ntmps15
  go_wp2_with fail
  clear hW1 x0 x1 x2 x3
  have HS : Below W1.heap.size W1 W1.drew := (Below.refl _ _).drew
  refine wp_region_held_drew (S := fun W => Below W1.heap.size W1 W ∧ W.cell? ⟨w.heap.size, 3, none⟩ = some (.slice (some ⟨b2, o2, none⟩) 3 c) ∧ W.cell? ⟨b2, o2, none⟩ = some (.int .i64 y0.op) ∧ W.cell? ⟨b2, o2 + 1, none⟩ = some (.int .u64 (y0.word : Int)) ∧ W.cell? ⟨b2, o2 + 2, none⟩ = some (.string (str y0.name)) ∧ W.cell? ⟨b2, o2 + 3, none⟩ = some (.slice q0 y0.args.len c0) ∧ W.cell? ⟨b2, o2 + 4, none⟩ = some (.int .i64 y1.op) ∧ W.cell? ⟨b2, o2 + 4 + 1, none⟩ = some (.int .u64 (y1.word : Int)) ∧ W.cell? ⟨b2, o2 + 4 + 2, none⟩ = some (.string (str y1.name)) ∧ W.cell? ⟨b2, o2 + 4 + 3, none⟩ = some (.slice q1 y1.args.len c1) ∧ W.cell? ⟨b2, o2 + 8, none⟩ = some (.int .i64 y2.op) ∧ W.cell? ⟨b2, o2 + 8 + 1, none⟩ = some (.int .u64 (y2.word : Int)) ∧ W.cell? ⟨b2, o2 + 8 + 2, none⟩ = some (.string (str y2.name)) ∧ W.cell? ⟨b2, o2 + 8 + 3, none⟩ = some (.slice q2 y2.args.len c2)) (by kernel_rfl) ?_ (fun hHeld => ?_)
  · exact ⟨HS, HX.out _ HS 3 _ rfl, (HS.cell hb2).trans d00, (HS.cell hb2).trans d01, (HS.cell hb2).trans d02, (HS.cell hb2).trans d03, (HS.cell hb2).trans d10, (HS.cell hb2).trans d11, (HS.cell hb2).trans d12, (HS.cell hb2).trans d13, (HS.cell hb2).trans d20, (HS.cell hb2).trans d21, (HS.cell hb2).trans d22, (HS.cell hb2).trans d23⟩
  refine wpAnyH_take (i := 0) (oi := ⟨some 44, .fieldAddr 26 (.tmp 1) 3, 0, "ref.go:219", #[], none⟩) (v := ?_) rfl (by kernel_rfl) (by kernel_rfl) (by kernel_rfl) (fun _ _ _ h => h) (Or.inl ⟨by rfl, ?_⟩) (by assumption) ?_
  rotate_left
  · (intro w hSw; (try dsimp only at hSw); go_simp; try with_reducible rfl)
  try simp only [Act.put, List.setIfInBounds_toArray, List.set_cons_zero, List.set_cons_succ]
  refine wpAnyH_take (i := 1) (oi := ⟨some 45, .load 24 (.tmp 44), 24, "ref.go:219", #[⟨0, .data⟩], none⟩) (v := ?_) rfl (by kernel_rfl) (by kernel_rfl) (by kernel_rfl) (fun _ _ _ h => h) (Or.inl ⟨by rfl, ?_⟩) (by assumption) ?_
  rotate_left
  · (intro w hSw; (try dsimp only at hSw); go_simp; try with_reducible rfl)
  try simp only [Act.put, List.setIfInBounds_toArray, List.set_cons_zero, List.set_cons_succ]
  refine wpAnyH_take (i := 2) (oi := ⟨some 46, .indexAddr 24 (.tmp 45) (.const (.int .i64 0)), 0, "ref.go:219", #[⟨1, .data⟩], none⟩) (v := ?_) rfl (by kernel_rfl) (by kernel_rfl) (by kernel_rfl) (fun _ _ _ h => h) (Or.inl ⟨by rfl, ?_⟩) (by assumption) ?_
  rotate_left
  · (intro w hSw; (try dsimp only at hSw); go_simp; try with_reducible rfl)
  try simp only [Act.put, List.setIfInBounds_toArray, List.set_cons_zero, List.set_cons_succ]
  refine wpAnyH_take (i := 3) (oi := ⟨some 47, .load 26 (.tmp 46), 26, "ref.go:219", #[⟨2, .data⟩], none⟩) (v := ?_) rfl (by kernel_rfl) (by kernel_rfl) (by kernel_rfl) (fun _ _ _ h => h) (Or.inl ⟨by rfl, ?_⟩) (by assumption) ?_
  rotate_left
  · (intro w hSw; (try dsimp only at hSw); go_simp; try with_reducible rfl)
  try simp only [Act.put, List.setIfInBounds_toArray, List.set_cons_zero, List.set_cons_succ]
  refine wpAnyH_take (i := 7) (oi := ⟨some 51, .fieldAddr 26 (.tmp 1) 3, 0, "ref.go:219", #[], none⟩) (v := ?_) rfl (by kernel_rfl) (by kernel_rfl) (by kernel_rfl) (fun _ _ _ h => h) (Or.inl ⟨by rfl, ?_⟩) (by assumption) ?_
  rotate_left
  · (intro w hSw; (try dsimp only at hSw); go_simp; try with_reducible rfl)
  try simp only [Act.put, List.setIfInBounds_toArray, List.set_cons_zero, List.set_cons_succ]
  refine wpAnyH_take (i := 8) (oi := ⟨some 52, .load 24 (.tmp 51), 24, "ref.go:219", #[⟨7, .data⟩], none⟩) (v := ?_) rfl (by kernel_rfl) (by kernel_rfl) (by kernel_rfl) (fun _ _ _ h => h) (Or.inl ⟨by rfl, ?_⟩) (by assumption) ?_
  rotate_left
  · (intro w hSw; (try dsimp only at hSw); go_simp; try with_reducible rfl)
  try simp only [Act.put, List.setIfInBounds_toArray, List.set_cons_zero, List.set_cons_succ]
  refine wpAnyH_take (i := 9) (oi := ⟨some 53, .indexAddr 24 (.tmp 52) (.const (.int .i64 1)), 0, "ref.go:219", #[⟨8, .data⟩], none⟩) (v := ?_) rfl (by kernel_rfl) (by kernel_rfl) (by kernel_rfl) (fun _ _ _ h => h) (Or.inl ⟨by rfl, ?_⟩) (by assumption) ?_
  rotate_left
  · (intro w hSw; (try dsimp only at hSw); go_simp; try with_reducible rfl)
  try simp only [Act.put, List.setIfInBounds_toArray, List.set_cons_zero, List.set_cons_succ]
  refine wpAnyH_take (i := 10) (oi := ⟨some 54, .load 26 (.tmp 53), 26, "ref.go:219", #[⟨9, .data⟩], none⟩) (v := ?_) rfl (by kernel_rfl) (by kernel_rfl) (by kernel_rfl) (fun _ _ _ h => h) (Or.inl ⟨by rfl, ?_⟩) (by assumption) ?_
  rotate_left
  · (intro w hSw; (try dsimp only at hSw); go_simp; try with_reducible rfl)
  try simp only [Act.put, List.setIfInBounds_toArray, List.set_cons_zero, List.set_cons_succ]
  refine wpAnyH_take (i := 14) (oi := ⟨some 58, .fieldAddr 26 (.tmp 1) 3, 0, "ref.go:219", #[], none⟩) (v := ?_) rfl (by kernel_rfl) (by kernel_rfl) (by kernel_rfl) (fun _ _ _ h => h) (Or.inl ⟨by rfl, ?_⟩) (by assumption) ?_
  rotate_left
  · (intro w hSw; (try dsimp only at hSw); go_simp; try with_reducible rfl)
  try simp only [Act.put, List.setIfInBounds_toArray, List.set_cons_zero, List.set_cons_succ]
  refine wpAnyH_take (i := 15) (oi := ⟨some 59, .load 24 (.tmp 58), 24, "ref.go:219", #[⟨14, .data⟩], none⟩) (v := ?_) rfl (by kernel_rfl) (by kernel_rfl) (by kernel_rfl) (fun _ _ _ h => h) (Or.inl ⟨by rfl, ?_⟩) (by assumption) ?_
  rotate_left
  · (intro w hSw; (try dsimp only at hSw); go_simp; try with_reducible rfl)
  try simp only [Act.put, List.setIfInBounds_toArray, List.set_cons_zero, List.set_cons_succ]
  refine wpAnyH_take (i := 16) (oi := ⟨some 60, .indexAddr 24 (.tmp 59) (.const (.int .i64 2)), 0, "ref.go:219", #[⟨15, .data⟩], none⟩) (v := ?_) rfl (by kernel_rfl) (by kernel_rfl) (by kernel_rfl) (fun _ _ _ h => h) (Or.inl ⟨by rfl, ?_⟩) (by assumption) ?_
  rotate_left
  · (intro w hSw; (try dsimp only at hSw); go_simp; try with_reducible rfl)
  try simp only [Act.put, List.setIfInBounds_toArray, List.set_cons_zero, List.set_cons_succ]
  refine wpAnyH_take (i := 17) (oi := ⟨some 61, .load 26 (.tmp 60), 26, "ref.go:219", #[⟨16, .data⟩], none⟩) (v := ?_) rfl (by kernel_rfl) (by kernel_rfl) (by kernel_rfl) (fun _ _ _ h => h) (Or.inl ⟨by rfl, ?_⟩) (by assumption) ?_
  rotate_left
  · (intro w hSw; (try dsimp only at hSw); go_simp; try with_reducible rfl)
  try simp only [Act.put, List.setIfInBounds_toArray, List.set_cons_zero, List.set_cons_succ]
  refine wpAnyH_ready (rs := [4]) (by kernel_rfl) (by simp) ?_
  refine AllReadyH.cons (o := ⟨some 48, .call { callee := .value (.func 15), args := #[.tmp 47], argTypes := #[26] }, 9, "ref.go:219", #[⟨3, .data⟩], none⟩) rfl (fun K hK => ?_) AllReadyH.nil
  go_simp
  refine (HC0.out _ HS).mono ?_
  rintro z wa ⟨rfl, hB'⟩
  replace HS := HS.trans (hB'.mono HS.size)
  clear hB'
  refine hK.out _ _ ?_ (fun hHeld => ?_)
  · exact ⟨HS, HX.out _ HS 3 _ rfl, (HS.cell hb2).trans d00, (HS.cell hb2).trans d01, (HS.cell hb2).trans d02, (HS.cell hb2).trans d03, (HS.cell hb2).trans d10, (HS.cell hb2).trans d11, (HS.cell hb2).trans d12, (HS.cell hb2).trans d13, (HS.cell hb2).trans d20, (HS.cell hb2).trans d21, (HS.cell hb2).trans d22, (HS.cell hb2).trans d23⟩
  clear hK K
  try simp only [Act.put, List.setIfInBounds_toArray, List.set_cons_zero, List.set_cons_succ]
  refine wpAnyH_take (i := 5) (oi := ⟨some 49, .binOp .add 9 (.const (.string ⟨#[112, 105, 99, 107, 40]⟩)) (.tmp 48) 9, 9, "ref.go:219", #[⟨4, .data⟩], none⟩) (v := .string B5) rfl (by kernel_rfl) (by kernel_rfl) (by kernel_rfl) (fun _ _ _ h => h) (Or.inl ⟨by rfl, ?_⟩) (by assumption) ?_
  · (intro w hSw; (try dsimp only at hSw); go_simp)
  try simp only [Act.put, List.setIfInBounds_toArray, List.set_cons_zero, List.set_cons_succ]
  refine wpAnyH_take (i := 6) (oi := ⟨some 50, .binOp .add 9 (.tmp 49) (.const (.string ⟨#[44, 32]⟩)) 9, 9, "ref.go:219", #[⟨5, .data⟩], none⟩) (v := .string B6) rfl (by kernel_rfl) (by kernel_rfl) (by kernel_rfl) (fun _ _ _ h => h) (Or.inl ⟨by rfl, ?_⟩) (by assumption) ?_
  · (intro w hSw; (try dsimp only at hSw); go_simp)
  try simp only [Act.put, List.setIfInBounds_toArray, List.set_cons_zero, List.set_cons_succ]
  refine wpAnyH_ready (rs := [11]) (by kernel_rfl) (by simp) ?_
  refine AllReadyH.cons (o := ⟨some 55, .call { callee := .value (.func 15), args := #[.tmp 54], argTypes := #[26] }, 9, "ref.go:219", #[⟨10, .data⟩, ⟨4, .chain⟩], none⟩) rfl (fun K hK => ?_) AllReadyH.nil
  go_simp
  refine (HC1.out _ HS).mono ?_
  rintro z wa ⟨rfl, hB'⟩
  replace HS := HS.trans (hB'.mono HS.size)
  clear hB'
  refine hK.out _ _ ?_ (fun hHeld => ?_)
  · exact ⟨HS, HX.out _ HS 3 _ rfl, (HS.cell hb2).trans d00, (HS.cell hb2).trans d01, (HS.cell hb2).trans d02, (HS.cell hb2).trans d03, (HS.cell hb2).trans d10, (HS.cell hb2).trans d11, (HS.cell hb2).trans d12, (HS.cell hb2).trans d13, (HS.cell hb2).trans d20, (HS.cell hb2).trans d21, (HS.cell hb2).trans d22, (HS.cell hb2).trans d23⟩
  clear hK K
  try simp only [Act.put, List.setIfInBounds_toArray, List.set_cons_zero, List.set_cons_succ]
  refine wpAnyH_take (i := 12) (oi := ⟨some 56, .binOp .add 9 (.tmp 50) (.tmp 55) 9, 9, "ref.go:219", #[⟨6, .data⟩, ⟨11, .data⟩], none⟩) (v := .string B12) rfl (by kernel_rfl) (by kernel_rfl) (by kernel_rfl) (fun _ _ _ h => h) (Or.inl ⟨by rfl, ?_⟩) (by assumption) ?_
  · (intro w hSw; (try dsimp only at hSw); go_simp)
  try simp only [Act.put, List.setIfInBounds_toArray, List.set_cons_zero, List.set_cons_succ]
  refine wpAnyH_take (i := 13) (oi := ⟨some 57, .binOp .add 9 (.tmp 56) (.const (.string ⟨#[44, 32]⟩)) 9, 9, "ref.go:219", #[⟨12, .data⟩], none⟩) (v := .string B13) rfl (by kernel_rfl) (by kernel_rfl) (by kernel_rfl) (fun _ _ _ h => h) (Or.inl ⟨by rfl, ?_⟩) (by assumption) ?_
  · (intro w hSw; (try dsimp only at hSw); go_simp)
  try simp only [Act.put, List.setIfInBounds_toArray, List.set_cons_zero, List.set_cons_succ]
  refine wpAnyH_ready (rs := [18]) (by kernel_rfl) (by simp) ?_
  refine AllReadyH.cons (o := ⟨some 62, .call { callee := .value (.func 15), args := #[.tmp 61], argTypes := #[26] }, 9, "ref.go:219", #[⟨17, .data⟩, ⟨11, .chain⟩], none⟩) rfl (fun K hK => ?_) AllReadyH.nil
  go_simp
  refine (HC2.out _ HS).mono ?_
  rintro z wa ⟨rfl, hB'⟩
  replace HS := HS.trans (hB'.mono HS.size)
  clear hB'
  refine hK.out _ _ ?_ (fun hHeld => ?_)
  · exact ⟨HS, HX.out _ HS 3 _ rfl, (HS.cell hb2).trans d00, (HS.cell hb2).trans d01, (HS.cell hb2).trans d02, (HS.cell hb2).trans d03, (HS.cell hb2).trans d10, (HS.cell hb2).trans d11, (HS.cell hb2).trans d12, (HS.cell hb2).trans d13, (HS.cell hb2).trans d20, (HS.cell hb2).trans d21, (HS.cell hb2).trans d22, (HS.cell hb2).trans d23⟩
  clear hK K
  try simp only [Act.put, List.setIfInBounds_toArray, List.set_cons_zero, List.set_cons_succ]
  refine wpAnyH_take (i := 19) (oi := ⟨some 63, .binOp .add 9 (.tmp 57) (.tmp 62) 9, 9, "ref.go:219", #[⟨13, .data⟩, ⟨18, .data⟩], none⟩) (v := .string B19) rfl (by kernel_rfl) (by kernel_rfl) (by kernel_rfl) (fun _ _ _ h => h) (Or.inl ⟨by rfl, ?_⟩) (by assumption) ?_
  · (intro w hSw; (try dsimp only at hSw); go_simp)
  try simp only [Act.put, List.setIfInBounds_toArray, List.set_cons_zero, List.set_cons_succ]
  refine wpAnyH_take (i := 20) (oi := ⟨some 64, .binOp .add 9 (.tmp 63) (.const (.string ⟨#[41]⟩)) 9, 9, "ref.go:219", #[⟨19, .data⟩], none⟩) (v := .string B20) rfl (by kernel_rfl) (by kernel_rfl) (by kernel_rfl) (fun _ _ _ h => h) (Or.inl ⟨by rfl, ?_⟩) (by assumption) ?_
  · (intro w hSw; (try dsimp only at hSw); go_simp)
  try simp only [Act.put, List.setIfInBounds_toArray, List.set_cons_zero, List.set_cons_succ]
  refine wpAnyH_take (i := 21) (oi := ⟨some 2, .assign (.tmp 64), 9, "ref.go:219", #[⟨20, .data⟩, ⟨18, .chain⟩, ⟨0, .phase⟩, ⟨1, .phase⟩, ⟨2, .phase⟩, ⟨3, .phase⟩, ⟨4, .phase⟩, ⟨5, .phase⟩, ⟨6, .phase⟩, ⟨7, .phase⟩, ⟨8, .phase⟩, ⟨9, .phase⟩, ⟨10, .phase⟩, ⟨11, .phase⟩, ⟨12, .phase⟩, ⟨13, .phase⟩, ⟨14, .phase⟩, ⟨15, .phase⟩, ⟨16, .phase⟩, ⟨17, .phase⟩, ⟨18, .phase⟩, ⟨19, .phase⟩, ⟨20, .phase⟩], none⟩) (v := ?_) rfl (by kernel_rfl) (by kernel_rfl) (by kernel_rfl) (fun _ _ _ h => h) (Or.inl ⟨by rfl, ?_⟩) (by assumption) ?_
  rotate_left
  · (intro w hSw; (try dsimp only at hSw); go_simp; try with_reducible rfl)
  try simp only [Act.put, List.setIfInBounds_toArray, List.set_cons_zero, List.set_cons_succ]
  refine wpAnyH_done (by kernel_rfl) ?_ _
  have HE := Lib.hid (HB1.out.trans (HS.mono HB1.out.size))
  go_wp2_with fail
  go_ret
  exact ⟨ret_strE HF.out.symm, HE.out⟩

set_option maxRecDepth 100000 in
set_option maxHeartbeats 6400000 in
theorem re_two (n : Nat) (ih : RE n) (op : Int) (hop : 6 ≤ op ∧ op ≤ 20) (wd : Nat) (nm : List UInt8) (b2 o2 c N : Nat) (w : World) (hG : Glob w) (hN : N ≤ w.heap.size) (hbN : b2 < N) (y0 : Ex) (hs0 : y0.size < n) (hm0 : y0.may = true) (hy0 : y0.At w N b2 (o2)) (y1 : Ex) (hs1 : y1.size < n) (hm1 : y1.may = true) (hy1 : y1.At w N b2 (o2 + 4)) (hl : (Ex.mk op wd nm (.cons y0 (.cons y1 .nil))).text.length ≤ 1000000) :
    Calls Tryz.prog 15 #[.agg #[.int .i64 op, .int .u64 (wd : Int), .string (str nm), .slice (some ⟨b2, o2, none⟩) 2 c]] w fun e w' => e = .returned (.string (str (Ex.mk op wd nm (.cons y0 (.cons y1 .nil))).text)) ∧ Below w.heap.size w w' := by
  have ht : (Ex.mk op wd nm (.cons y0 (.cons y1 .nil))).text = ((((([40] ++ y0.text) ++ [32]) ++ signOf op) ++ [32]) ++ y1.text) ++ [41] := by
    rw [Ex.text, textOf, if_neg (by omega), if_neg (by omega), if_neg (by omega), if_neg (by omega), if_neg (by omega), if_neg (by omega)]; rfl
  have hlen : y0.text.length + (signOf op).length + y1.text.length ≤ 1000000 := by rw [ht] at hl; simp at hl; omega
  obtain ⟨W1, hW1⟩ : ∃ W1, w.alloc (.cells #[.int .i64 op, .int .u64 (wd : Int), .string (str nm), .slice (some ⟨b2, o2, none⟩) 2 c] 26) = W1 := ⟨_, rfl⟩
  have HB1 := Lib.hid (show Below w.heap.size w W1 by rw [← hW1]; exact (Below.refl _ _).alloc (Nat.le_refl _) _)
  have HX := Lib.hid (fun w1 hb => cells_later (w0 := W1) (w1 := w1) (b := w.heap.size) (A := #[.int .i64 op, .int .u64 (wd : Int), .string (str nm), .slice (some ⟨b2, o2, none⟩) 2 c]) (t := 26) (by rw [← hW1]; exact heap_alloc_new w _) hb)
  have x0 : W1.cell? ⟨w.heap.size, 0, none⟩ = some (.int .i64 op) := HX.out _ (Below.refl _ _) 0 _ rfl
  have x1 : W1.cell? ⟨w.heap.size, 1, none⟩ = some (.int .u64 (wd : Int)) := HX.out _ (Below.refl _ _) 1 _ rfl
  have x2 : W1.cell? ⟨w.heap.size, 2, none⟩ = some (.string (str nm)) := HX.out _ (Below.refl _ _) 2 _ rfl
  have x3 : W1.cell? ⟨w.heap.size, 3, none⟩ = some (.slice (some ⟨b2, o2, none⟩) 2 c) := HX.out _ (Below.refl _ _) 3 _ rfl
  have hbw : b2 < w.heap.size := by omega
  have hb2 : b2 < W1.heap.size := by have := HB1.out.size; omega
  obtain ⟨q0, c0, e00, e01, e02, e03, ok0⟩ := hy0.open'
  have d00 : W1.cell? ⟨b2, o2, none⟩ = some (.int .i64 y0.op) := (HB1.out.cell hbw).trans e00
  have d01 : W1.cell? ⟨b2, o2 + 1, none⟩ = some (.int .u64 (y0.word : Int)) := (HB1.out.cell hbw).trans e01
  have d02 : W1.cell? ⟨b2, o2 + 2, none⟩ = some (.string (str y0.name)) := (HB1.out.cell hbw).trans e02
  have d03 : W1.cell? ⟨b2, o2 + 3, none⟩ = some (.slice q0 y0.args.len c0) := (HB1.out.cell hbw).trans e03
  have HC0 := Lib.hid (fun (w1 : World) (hb : Below W1.heap.size W1 w1) => ih y0 hs0 hm0 (by omega) q0 c0 w1.heap.size w1 (ok0.later ((HB1.out.trans (hb.mono HB1.out.size)).mono hN) (Nat.le_trans hN (HB1.out.trans (hb.mono HB1.out.size)).size)) (Nat.le_refl _) (hG.later (HB1.out.trans (hb.mono HB1.out.size))))
  unfold Ex.val at HC0
  obtain ⟨q1, c1, e10, e11, e12, e13, ok1⟩ := hy1.open'
  have d10 : W1.cell? ⟨b2, o2 + 4, none⟩ = some (.int .i64 y1.op) := (HB1.out.cell hbw).trans e10
  have d11 : W1.cell? ⟨b2, o2 + 4 + 1, none⟩ = some (.int .u64 (y1.word : Int)) := (HB1.out.cell hbw).trans e11
  have d12 : W1.cell? ⟨b2, o2 + 4 + 2, none⟩ = some (.string (str y1.name)) := (HB1.out.cell hbw).trans e12
  have d13 : W1.cell? ⟨b2, o2 + 4 + 3, none⟩ = some (.slice q1 y1.args.len c1) := (HB1.out.cell hbw).trans e13
  have HC1 := Lib.hid (fun (w1 : World) (hb : Below W1.heap.size W1 w1) => ih y1 hs1 hm1 (by omega) q1 c1 w1.heap.size w1 (ok1.later ((HB1.out.trans (hb.mono HB1.out.size)).mono hN) (Nat.le_trans hN (HB1.out.trans (hb.mono HB1.out.size)).size)) (Nat.le_refl _) (hG.later (HB1.out.trans (hb.mono HB1.out.size))))
  unfold Ex.val at HC1
  clear e00 e01 e02 e03 e10 e11 e12 e13 ok0 hy0 hs0 hm0 ok1 hy1 hs1 hm1
  have HSg := Lib.hid (fun w => refSign_any op w (by omega) (by omega))
  obtain ⟨AS, hAS⟩ : ∃ A, A = str (signOf op) := ⟨_, rfl⟩
  rw [← hAS] at HSg
  obtain ⟨A0, hA0⟩ : ∃ A, A = str y0.text := ⟨_, rfl⟩
  rw [← hA0] at HC0
  obtain ⟨A1, hA1⟩ : ∃ A, A = str y1.text := ⟨_, rfl⟩
  rw [← hA1] at HC1
  obtain ⟨B5, hB5⟩ : ∃ B, B = str ([40] ++ y0.text) := ⟨_, rfl⟩
  obtain ⟨B6, hB6⟩ : ∃ B, B = str (([40] ++ y0.text) ++ [32]) := ⟨_, rfl⟩
  obtain ⟨B10, hB10⟩ : ∃ B, B = str ((([40] ++ y0.text) ++ [32]) ++ signOf op) := ⟨_, rfl⟩
  obtain ⟨B11, hB11⟩ : ∃ B, B = str (((([40] ++ y0.text) ++ [32]) ++ signOf op) ++ [32]) := ⟨_, rfl⟩
  obtain ⟨B17, hB17⟩ : ∃ B, B = str ((((([40] ++ y0.text) ++ [32]) ++ signOf op) ++ [32]) ++ y1.text) := ⟨_, rfl⟩
  obtain ⟨B18, hB18⟩ : ∃ B, B = str (((((([40] ++ y0.text) ++ [32]) ++ signOf op) ++ [32]) ++ y1.text) ++ [41]) := ⟨_, rfl⟩
  have qB5 : ∀ w : World, (Op.stringOp .add ⟨#[40]⟩ A0).run Tryz.prog w = .ok (.string B5) w := fun w => by
    (try rw [hB5]); (try rw [Nat.add_zero]); (try rw [hA0]); exact add_str ([40]) (y0.text) (by simp; omega) w
  have qB6 : ∀ w : World, (Op.stringOp .add B5 ⟨#[32]⟩).run Tryz.prog w = .ok (.string B6) w := fun w => by
    (try rw [hB6]); (try rw [hB5]); (try rw [Nat.add_zero]); exact add_str (([40] ++ y0.text)) ([32]) (by simp; omega) w
  have qB10 : ∀ w : World, (Op.stringOp .add B6 AS).run Tryz.prog w = .ok (.string B10) w := fun w => by
    (try rw [hB10]); (try rw [hB6]); (try rw [hAS]); exact add_str ((([40] ++ y0.text) ++ [32])) (signOf op) (by simp; omega) w
  have qB11 : ∀ w : World, (Op.stringOp .add B10 ⟨#[32]⟩).run Tryz.prog w = .ok (.string B11) w := fun w => by
    (try rw [hB11]); (try rw [hB10]); (try rw [Nat.add_zero]); exact add_str (((([40] ++ y0.text) ++ [32]) ++ signOf op)) ([32]) (by simp; omega) w
  have qB17 : ∀ w : World, (Op.stringOp .add B11 A1).run Tryz.prog w = .ok (.string B17) w := fun w => by
    (try rw [hB17]); (try rw [hB11]); (try rw [hA1]); exact add_str ((((([40] ++ y0.text) ++ [32]) ++ signOf op) ++ [32])) (y1.text) (by simp; omega) w
  have qB18 : ∀ w : World, (Op.stringOp .add B17 ⟨#[41]⟩).run Tryz.prog w = .ok (.string B18) w := fun w => by
    (try rw [hB18]); (try rw [hB17]); (try rw [Nat.add_zero]); exact add_str (((((([40] ++ y0.text) ++ [32]) ++ signOf op) ++ [32]) ++ y1.text)) ([41]) (by simp; omega) w
  have HF := Lib.hid (show str (Ex.mk op wd nm (.cons y0 (.cons y1 .nil))).text = B18 by rw [ht, hB18])
  clear hA0 hA1 hB5 hB6 hB10 hB11 hB17 hB18
  have t1 : (op == 1) = false := by simp; omega
  have t2 : (op == 2) = false := by simp; omega
  have t3 : (op == 3) = false := by simp; omega
  have t4 : (op == 4) = false := by simp; omega
  have t5 : (op == 5) = false := by simp; omega
  have t21 : (op == 21) = false := by simp; omega
  clear hl ht ih hG hop hAS
  go_enter Tryz.func15, Tryz.ntmps15
  go_wp2_with fail
  clear hW1 x0 x1 x2 x3
  have HS : Below W1.heap.size W1 W1.drew := (Below.refl _ _).drew
  refine wp_region_held_drew (S := fun W => Below W1.heap.size W1 W ∧ W.cell? ⟨w.heap.size, 0, none⟩ = some (.int .i64 op) ∧ W.cell? ⟨w.heap.size, 3, none⟩ = some (.slice (some ⟨b2, o2, none⟩) 2 c) ∧ W.cell? ⟨b2, o2, none⟩ = some (.int .i64 y0.op) ∧ W.cell? ⟨b2, o2 + 1, none⟩ = some (.int .u64 (y0.word : Int)) ∧ W.cell? ⟨b2, o2 + 2, none⟩ = some (.string (str y0.name)) ∧ W.cell? ⟨b2, o2 + 3, none⟩ = some (.slice q0 y0.args.len c0) ∧ W.cell? ⟨b2, o2 + 4, none⟩ = some (.int .i64 y1.op) ∧ W.cell? ⟨b2, o2 + 4 + 1, none⟩ = some (.int .u64 (y1.word : Int)) ∧ W.cell? ⟨b2, o2 + 4 + 2, none⟩ = some (.string (str y1.name)) ∧ W.cell? ⟨b2, o2 + 4 + 3, none⟩ = some (.slice q1 y1.args.len c1)) (by kernel_rfl) ?_ (fun hHeld => ?_)
  · exact ⟨HS, HX.out _ HS 0 _ rfl, HX.out _ HS 3 _ rfl, (HS.cell hb2).trans d00, (HS.cell hb2).trans d01, (HS.cell hb2).trans d02, (HS.cell hb2).trans d03, (HS.cell hb2).trans d10, (HS.cell hb2).trans d11, (HS.cell hb2).trans d12, (HS.cell hb2).trans d13⟩
  refine wpAnyH_take (i := 0) (oi := ⟨some 65, .fieldAddr 26 (.tmp 1) 3, 0, "ref.go:221", #[], none⟩) (v := ?_) rfl (by kernel_rfl) (by kernel_rfl) (by kernel_rfl) (fun _ _ _ h => h) (Or.inl ⟨by rfl, ?_⟩) (by assumption) ?_
  rotate_left
  · (intro w hSw; (try dsimp only at hSw); go_simp; try with_reducible rfl)
  try simp only [Act.put, List.setIfInBounds_toArray, List.set_cons_zero, List.set_cons_succ]
  refine wpAnyH_take (i := 1) (oi := ⟨some 66, .load 24 (.tmp 65), 24, "ref.go:221", #[⟨0, .data⟩], none⟩) (v := ?_) rfl (by kernel_rfl) (by kernel_rfl) (by kernel_rfl) (fun _ _ _ h => h) (Or.inl ⟨by rfl, ?_⟩) (by assumption) ?_
  rotate_left
  · (intro w hSw; (try dsimp only at hSw); go_simp; try with_reducible rfl)
  try simp only [Act.put, List.setIfInBounds_toArray, List.set_cons_zero, List.set_cons_succ]
  refine wpAnyH_take (i := 2) (oi := ⟨some 67, .indexAddr 24 (.tmp 66) (.const (.int .i64 0)), 0, "ref.go:221", #[⟨1, .data⟩], none⟩) (v := ?_) rfl (by kernel_rfl) (by kernel_rfl) (by kernel_rfl) (fun _ _ _ h => h) (Or.inl ⟨by rfl, ?_⟩) (by assumption) ?_
  rotate_left
  · (intro w hSw; (try dsimp only at hSw); go_simp; try with_reducible rfl)
  try simp only [Act.put, List.setIfInBounds_toArray, List.set_cons_zero, List.set_cons_succ]
  refine wpAnyH_take (i := 3) (oi := ⟨some 68, .load 26 (.tmp 67), 26, "ref.go:221", #[⟨2, .data⟩], none⟩) (v := ?_) rfl (by kernel_rfl) (by kernel_rfl) (by kernel_rfl) (fun _ _ _ h => h) (Or.inl ⟨by rfl, ?_⟩) (by assumption) ?_
  rotate_left
  · (intro w hSw; (try dsimp only at hSw); go_simp; try with_reducible rfl)
  try simp only [Act.put, List.setIfInBounds_toArray, List.set_cons_zero, List.set_cons_succ]
  refine wpAnyH_take (i := 7) (oi := ⟨some 72, .fieldAddr 26 (.tmp 1) 0, 0, "ref.go:221", #[], none⟩) (v := ?_) rfl (by kernel_rfl) (by kernel_rfl) (by kernel_rfl) (fun _ _ _ h => h) (Or.inl ⟨by rfl, ?_⟩) (by assumption) ?_
  rotate_left
  · (intro w hSw; (try dsimp only at hSw); go_simp; try with_reducible rfl)
  try simp only [Act.put, List.setIfInBounds_toArray, List.set_cons_zero, List.set_cons_succ]
  refine wpAnyH_take (i := 8) (oi := ⟨some 73, .load 22 (.tmp 72), 22, "ref.go:221", #[⟨7, .data⟩], none⟩) (v := ?_) rfl (by kernel_rfl) (by kernel_rfl) (by kernel_rfl) (fun _ _ _ h => h) (Or.inl ⟨by rfl, ?_⟩) (by assumption) ?_
  rotate_left
  · (intro w hSw; (try dsimp only at hSw); go_simp; try with_reducible rfl)
  try simp only [Act.put, List.setIfInBounds_toArray, List.set_cons_zero, List.set_cons_succ]
  refine wpAnyH_take (i := 12) (oi := ⟨some 77, .fieldAddr 26 (.tmp 1) 3, 0, "ref.go:221", #[], none⟩) (v := ?_) rfl (by kernel_rfl) (by kernel_rfl) (by kernel_rfl) (fun _ _ _ h => h) (Or.inl ⟨by rfl, ?_⟩) (by assumption) ?_
  rotate_left
  · (intro w hSw; (try dsimp only at hSw); go_simp; try with_reducible rfl)
  try simp only [Act.put, List.setIfInBounds_toArray, List.set_cons_zero, List.set_cons_succ]
  refine wpAnyH_take (i := 13) (oi := ⟨some 78, .load 24 (.tmp 77), 24, "ref.go:221", #[⟨12, .data⟩], none⟩) (v := ?_) rfl (by kernel_rfl) (by kernel_rfl) (by kernel_rfl) (fun _ _ _ h => h) (Or.inl ⟨by rfl, ?_⟩) (by assumption) ?_
  rotate_left
  · (intro w hSw; (try dsimp only at hSw); go_simp; try with_reducible rfl)
  try simp only [Act.put, List.setIfInBounds_toArray, List.set_cons_zero, List.set_cons_succ]
  refine wpAnyH_take (i := 14) (oi := ⟨some 79, .indexAddr 24 (.tmp 78) (.const (.int .i64 1)), 0, "ref.go:221", #[⟨13, .data⟩], none⟩) (v := ?_) rfl (by kernel_rfl) (by kernel_rfl) (by kernel_rfl) (fun _ _ _ h => h) (Or.inl ⟨by rfl, ?_⟩) (by assumption) ?_
  rotate_left
  · (intro w hSw; (try dsimp only at hSw); go_simp; try with_reducible rfl)
  try simp only [Act.put, List.setIfInBounds_toArray, List.set_cons_zero, List.set_cons_succ]
  refine wpAnyH_take (i := 15) (oi := ⟨some 80, .load 26 (.tmp 79), 26, "ref.go:221", #[⟨14, .data⟩], none⟩) (v := ?_) rfl (by kernel_rfl) (by kernel_rfl) (by kernel_rfl) (fun _ _ _ h => h) (Or.inl ⟨by rfl, ?_⟩) (by assumption) ?_
  rotate_left
  · (intro w hSw; (try dsimp only at hSw); go_simp; try with_reducible rfl)
  try simp only [Act.put, List.setIfInBounds_toArray, List.set_cons_zero, List.set_cons_succ]
  refine wpAnyH_ready (rs := [4]) (by kernel_rfl) (by simp) ?_
  refine AllReadyH.cons (o := ⟨some 69, .call { callee := .value (.func 15), args := #[.tmp 68], argTypes := #[26] }, 9, "ref.go:221", #[⟨3, .data⟩], none⟩) rfl (fun K hK => ?_) AllReadyH.nil
  go_simp
  refine (HC0.out _ HS).mono ?_
  rintro z wa ⟨rfl, hB'⟩
  replace HS := HS.trans (hB'.mono HS.size)
  clear hB'
  refine hK.out _ _ ?_ (fun hHeld => ?_)
  · exact ⟨HS, HX.out _ HS 0 _ rfl, HX.out _ HS 3 _ rfl, (HS.cell hb2).trans d00, (HS.cell hb2).trans d01, (HS.cell hb2).trans d02, (HS.cell hb2).trans d03, (HS.cell hb2).trans d10, (HS.cell hb2).trans d11, (HS.cell hb2).trans d12, (HS.cell hb2).trans d13⟩
  clear hK K
  try simp only [Act.put, List.setIfInBounds_toArray, List.set_cons_zero, List.set_cons_succ]
  refine wpAnyH_take (i := 5) (oi := ⟨some 70, .binOp .add 9 (.const (.string ⟨#[40]⟩)) (.tmp 69) 9, 9, "ref.go:221", #[⟨4, .data⟩], none⟩) (v := .string B5) rfl (by kernel_rfl) (by kernel_rfl) (by kernel_rfl) (fun _ _ _ h => h) (Or.inl ⟨by rfl, ?_⟩) (by assumption) ?_
  · (intro w hSw; (try dsimp only at hSw); go_simp)
  try simp only [Act.put, List.setIfInBounds_toArray, List.set_cons_zero, List.set_cons_succ]
  refine wpAnyH_take (i := 6) (oi := ⟨some 71, .binOp .add 9 (.tmp 70) (.const (.string ⟨#[32]⟩)) 9, 9, "ref.go:221", #[⟨5, .data⟩], none⟩) (v := .string B6) rfl (by kernel_rfl) (by kernel_rfl) (by kernel_rfl) (fun _ _ _ h => h) (Or.inl ⟨by rfl, ?_⟩) (by assumption) ?_
  · (intro w hSw; (try dsimp only at hSw); go_simp)
  try simp only [Act.put, List.setIfInBounds_toArray, List.set_cons_zero, List.set_cons_succ]
  refine wpAnyH_ready (rs := [9]) (by kernel_rfl) (by simp) ?_
  refine AllReadyH.cons (o := ⟨some 74, .call { callee := .value (.func 41), args := #[.tmp 73], argTypes := #[22] }, 9, "ref.go:221", #[⟨8, .data⟩, ⟨4, .chain⟩], none⟩) rfl (fun K hK => ?_) AllReadyH.nil
  go_simp
  refine (HSg.out _).mono ?_
  rintro z wa ⟨rfl, hB'⟩
  replace HS := HS.trans (hB'.mono HS.size)
  clear hB'
  refine hK.out _ _ ?_ (fun hHeld => ?_)
  · exact ⟨HS, HX.out _ HS 0 _ rfl, HX.out _ HS 3 _ rfl, (HS.cell hb2).trans d00, (HS.cell hb2).trans d01, (HS.cell hb2).trans d02, (HS.cell hb2).trans d03, (HS.cell hb2).trans d10, (HS.cell hb2).trans d11, (HS.cell hb2).trans d12, (HS.cell hb2).trans d13⟩
  clear hK K
  try simp only [Act.put, List.setIfInBounds_toArray, List.set_cons_zero, List.set_cons_succ]
  refine wpAnyH_take (i := 10) (oi := ⟨some 75, .binOp .add 9 (.tmp 71) (.tmp 74) 9, 9, "ref.go:221", #[⟨6, .data⟩, ⟨9, .data⟩], none⟩) (v := .string B10) rfl (by kernel_rfl) (by kernel_rfl) (by kernel_rfl) (fun _ _ _ h => h) (Or.inl ⟨by rfl, ?_⟩) (by assumption) ?_
  · (intro w hSw; (try dsimp only at hSw); go_simp)
  try simp only [Act.put, List.setIfInBounds_toArray, List.set_cons_zero, List.set_cons_succ]
  refine wpAnyH_take (i := 11) (oi := ⟨some 76, .binOp .add 9 (.tmp 75) (.const (.string ⟨#[32]⟩)) 9, 9, "ref.go:221", #[⟨10, .data⟩], none⟩) (v := .string B11) rfl (by kernel_rfl) (by kernel_rfl) (by kernel_rfl) (fun _ _ _ h => h) (Or.inl ⟨by rfl, ?_⟩) (by assumption) ?_
  · (intro w hSw; (try dsimp only at hSw); go_simp)
  try simp only [Act.put, List.setIfInBounds_toArray, List.set_cons_zero, List.set_cons_succ]
  refine wpAnyH_ready (rs := [16]) (by kernel_rfl) (by simp) ?_
  refine AllReadyH.cons (o := ⟨some 81, .call { callee := .value (.func 15), args := #[.tmp 80], argTypes := #[26] }, 9, "ref.go:221", #[⟨15, .data⟩, ⟨9, .chain⟩], none⟩) rfl (fun K hK => ?_) AllReadyH.nil
  go_simp
  refine (HC1.out _ HS).mono ?_
  rintro z wa ⟨rfl, hB'⟩
  replace HS := HS.trans (hB'.mono HS.size)
  clear hB'
  refine hK.out _ _ ?_ (fun hHeld => ?_)
  · exact ⟨HS, HX.out _ HS 0 _ rfl, HX.out _ HS 3 _ rfl, (HS.cell hb2).trans d00, (HS.cell hb2).trans d01, (HS.cell hb2).trans d02, (HS.cell hb2).trans d03, (HS.cell hb2).trans d10, (HS.cell hb2).trans d11, (HS.cell hb2).trans d12, (HS.cell hb2).trans d13⟩
  clear hK K
  try simp only [Act.put, List.setIfInBounds_toArray, List.set_cons_zero, List.set_cons_succ]
  refine wpAnyH_take (i := 17) (oi := ⟨some 82, .binOp .add 9 (.tmp 76) (.tmp 81) 9, 9, "ref.go:221", #[⟨11, .data⟩, ⟨16, .data⟩], none⟩) (v := .string B17) rfl (by kernel_rfl) (by kernel_rfl) (by kernel_rfl) (fun _ _ _ h => h) (Or.inl ⟨by rfl, ?_⟩) (by assumption) ?_
  · (intro w hSw; (try dsimp only at hSw); go_simp)
  try simp only [Act.put, List.setIfInBounds_toArray, List.set_cons_zero, List.set_cons_succ]
  refine wpAnyH_take (i := 18) (oi := ⟨some 83, .binOp .add 9 (.tmp 82) (.const (.string ⟨#[41]⟩)) 9, 9, "ref.go:221", #[⟨17, .data⟩], none⟩) (v := .string B18) rfl (by kernel_rfl) (by kernel_rfl) (by kernel_rfl) (fun _ _ _ h => h) (Or.inl ⟨by rfl, ?_⟩) (by assumption) ?_
  · (intro w hSw; (try dsimp only at hSw); go_simp)
  try simp only [Act.put, List.setIfInBounds_toArray, List.set_cons_zero, List.set_cons_succ]
  refine wpAnyH_take (i := 19) (oi := ⟨some 2, .assign (.tmp 83), 9, "ref.go:221", #[⟨18, .data⟩, ⟨16, .chain⟩, ⟨0, .phase⟩, ⟨1, .phase⟩, ⟨2, .phase⟩, ⟨3, .phase⟩, ⟨4, .phase⟩, ⟨5, .phase⟩, ⟨6, .phase⟩, ⟨7, .phase⟩, ⟨8, .phase⟩, ⟨9, .phase⟩, ⟨10, .phase⟩, ⟨11, .phase⟩, ⟨12, .phase⟩, ⟨13, .phase⟩, ⟨14, .phase⟩, ⟨15, .phase⟩, ⟨16, .phase⟩, ⟨17, .phase⟩, ⟨18, .phase⟩], none⟩) (v := ?_) rfl (by kernel_rfl) (by kernel_rfl) (by kernel_rfl) (fun _ _ _ h => h) (Or.inl ⟨by rfl, ?_⟩) (by assumption) ?_
  rotate_left
  · (intro w hSw; (try dsimp only at hSw); go_simp; try with_reducible rfl)
  try simp only [Act.put, List.setIfInBounds_toArray, List.set_cons_zero, List.set_cons_succ]
  refine wpAnyH_done (by kernel_rfl) ?_ _
  have HE := Lib.hid (HB1.out.trans (HS.mono HB1.out.size))
  go_wp2_with fail
  go_ret
  exact ⟨ret_strE HF.out.symm, HE.out⟩

set_option maxHeartbeats 6400000 in
theorem re_const (wd : Nat) (nm : List UInt8) (p : Option Addr) (l c : Nat) (w : World) (hG : Glob w) (hw : wd < 18446744073709551616) :
    Calls Tryz.prog 15 #[.agg #[.int .i64 1, .int .u64 (wd : Int), .string (str nm), .slice p l c]] w fun e w' => e = .returned (.string (str (Lib.decDigits wd))) ∧ Below w.heap.size w w' := by
  have HB1 := Lib.hid ((Below.refl _ w).alloc (Nat.le_refl _) (.cells #[.int .i64 1, .int .u64 (wd : Int), .string (str nm), .slice p l c] 26))
  have HU := Lib.hid (formatUint_any wd hw _ (hG.later HB1.out))
  clear hG
  go_enter Tryz.func15, Tryz.ntmps15
  go_wp2_with fail
  refine HU.out.mono ?_
  rintro e w2 ⟨rfl, hB⟩
  have HE := Lib.hid (HB1.out.trans (hB.mono HB1.out.size))
  clear hB
  go_wp2_with fail
  go_ret
  exact ⟨rfl, HE.out⟩
set_option maxHeartbeats 6400000 in
theorem re_var (wd : Nat) (nm : List UInt8) (p : Option Addr) (l c : Nat) (w : World) :
    Calls Tryz.prog 15 #[.agg #[.int .i64 2, .int .u64 (wd : Int), .string (str nm), .slice p l c]] w fun e w' => e = .returned (.string (str nm)) ∧ Below w.heap.size w w' := by
  have HB1 := Lib.hid ((Below.refl _ w).alloc (Nat.le_refl _) (.cells #[.int .i64 2, .int .u64 (wd : Int), .string (str nm), .slice p l c] 26))
  go_enter Tryz.func15, Tryz.ntmps15
  go_wp2_with fail
  go_ret
  exact ⟨rfl, HB1.out⟩
theorem re_step (n : Nat) (ih : RE n) : RE (n + 1) := by
  intro x hxs hm hl p c N w hx hN hG
  obtain ⟨op, wd, nm, ar⟩ := x
  obtain ⟨hlen, hma, hok⟩ := may_parts hm
  have hin := hx.1
  have hwd := hx.2
  simp only [Ex.args] at hin
  simp only [Ex.word] at hwd
  simp only [Ex.size] at hxs
  have hop : op = 1 ∨ op = 2 ∨ op = 3 ∨ op = 4 ∨ op = 5 ∨ op = 21 ∨ (6 ≤ op ∧ op ≤ 20) := by
    rcases Int.lt_or_le op 1 with h | h
    · rw [okOp_no (by omega)] at hok; cases hok
    · rcases Int.lt_or_le 21 op with h' | h'
      · rw [okOp_no (by omega)] at hok; cases hok
      · omega
  have one : ar.len = 1 → ∃ y, ar = .cons y .nil ∧ y.size < n ∧ y.may = true ∧ ∃ b2 o2, p = some ⟨b2, o2, none⟩ ∧ b2 < N ∧ y.At w N b2 o2 := fun h => by
    obtain ⟨y, rfl⟩ := Exs.one h
    simp only [Exs.size] at hxs
    rw [Exs.may, Bool.and_eq_true] at hma
    obtain ⟨b2, o2, e1, e2, e3⟩ := Exs.In.some' (l := .cons y .nil) hin (by simp [Exs.len])
    exact ⟨y, rfl, by omega, hma.1, b2, o2, e1, e2, e3.1⟩
  rcases hop with rfl | rfl | rfl | rfl | rfl | rfl | hop
  · exact re_const wd nm p _ c w hG hwd
  · exact re_var wd nm p _ c w
  · obtain ⟨y, rfl, hys, hym, b2, o2, rfl, hb, hy⟩ := one hlen
    exact re_index n ih wd nm b2 o2 c N w hG hN hb y hys hym hy hl
  · obtain ⟨y, rfl, hys, hym, b2, o2, rfl, hb, hy⟩ := one hlen
    exact re_not n ih wd nm b2 o2 c N w hG hN hb y hys hym hy hl
  · obtain ⟨y, rfl, hys, hym, b2, o2, rfl, hb, hy⟩ := one hlen
    exact re_neg n ih wd nm b2 o2 c N w hG hN hb y hys hym hy hl
  · obtain ⟨y, z, u, rfl⟩ : ∃ y z u, ar = .cons y (.cons z (.cons u .nil)) := by
      cases ar with
      | nil => simp [Exs.len, argsN] at hlen
      | cons y r => cases r with
        | nil => simp [Exs.len, argsN] at hlen
        | cons z r => cases r with
          | nil => simp [Exs.len, argsN] at hlen
          | cons u r => cases r with
            | nil => exact ⟨y, z, u, rfl⟩
            | cons => simp [Exs.len, argsN] at hlen
    simp only [Exs.size] at hxs
    rw [Exs.may, Exs.may, Exs.may, Bool.and_eq_true, Bool.and_eq_true, Bool.and_eq_true] at hma
    obtain ⟨b2, o2, rfl, e2, e3⟩ := Exs.In.some' (l := .cons y (.cons z (.cons u .nil))) hin (by simp [Exs.len])
    exact re_pick n ih wd nm b2 o2 c N w hG hN e2 y (by omega) hma.1 e3.1 z (by omega) hma.2.1 e3.2.1 u (by omega) hma.2.2.1 e3.2.2.1 hl
  · have h2' : ar.len = 2 := by rw [hlen, argsN, if_neg (by omega), if_pos hop]
    obtain ⟨y, z, rfl⟩ := Exs.two h2'
    simp only [Exs.size] at hxs
    rw [Exs.may, Exs.may, Bool.and_eq_true, Bool.and_eq_true] at hma
    obtain ⟨b2, o2, rfl, e2, e3⟩ := Exs.In.some' (l := .cons y (.cons z .nil)) hin (by simp [Exs.len])
    exact re_two n ih op hop wd nm b2 o2 c N w hG hN e2 y (by omega) hma.1 e3.1 z (by omega) hma.2.1 e3.2.1 hl
theorem re_to : ∀ n, RE n
  | 0 => fun _ h => absurd h (Nat.not_lt_zero _)
  | n + 1 => re_step n (re_to n)
theorem rExpr_any (x : Ex) (hm : x.may = true) (hl : x.text.length ≤ 1000000) (p : Option Addr) (c N : Nat) (w : World) (h : x.Ok w N p) (hN : N ≤ w.heap.size) (hG : Glob w) :
    Calls Tryz.prog 15 #[x.val p c] w fun e w' => e = .returned (.string (str x.text)) ∧ Below w.heap.size w w' :=
  re_to _ x (Nat.lt_succ_self _) hm hl p c N w h hN hG
end Go.Proofs.YtlhbledakddbbaaGreatDoor
/- A loop over a function whose iterator keeps cells of its own, and whose body writes into buffers. Over any program. -/
namespace Go.Proofs.YtlhbledakddbbaaGreatDoor
open Go Go.RowKit

/-- a block that only a loop's body writes into: bytes, a Builder -/
def isBuf : Obj → Prop
  | .cells _ t _ => t = 5 ∨ t = 85
  | _ => False
theorem buf_loop (s : Loop) : ¬ isBuf (.loop s) := fun h => h
theorem buf_def (d : Option (List Deferred)) : ¬ isBuf (.deferred d) := fun h => h
/-- what lies from n on lies as it lay, but buffers -/
structure Up (n : Nat) (A B : World) : Prop where
  size : A.heap.size ≤ B.heap.size
  same : ∀ (b : Nat) (o : Obj), A.heap[b]? = some o → n ≤ b → ¬ isBuf o → B.heap[b]? = some o
theorem Up.refl (n : Nat) (A : World) : Up n A A := ⟨Nat.le_refl _, fun _ _ h _ _ => h⟩
theorem Up.trans {n : Nat} {A B C : World} (h : Up n A B) (k : Up n B C) : Up n A C := ⟨Nat.le_trans h.size k.size, fun b o hb hn ho => k.same b o (h.same b o hb hn ho) hn ho⟩
theorem Up.mono {n m : Nat} {A B : World} (h : Up n A B) (hm : n ≤ m) : Up m A B := ⟨h.size, fun b o hb hn ho => h.same b o hb (Nat.le_trans hm hn) ho⟩
theorem Up.setCell {n : Nat} {A B : World} (h : Up n A B) {p : Addr} (hp : p.block < n) (v : Value) : Up n A (B.setCell p v) :=
  ⟨Nat.le_trans h.size (by simp [World.setCell]), fun b o hb hn ho => (Below.heap_setCell _ _ _ _ (by omega)).trans (h.same b o hb hn ho)⟩
theorem Up.below {n : Nat} {A B C : World} (h : Up n A B) (hb : Below B.heap.size B C) : Up n A C :=
  ⟨Nat.le_trans h.size hb.size, fun b o ho hn hf => (hb.block b (lt_of_block (h.same b o ho hn hf))).trans (h.same b o ho hn hf)⟩
/-- what an iterator may do: nothing below n, and no buffer -/
structure Rn (n : Nat) (A B : World) : Prop where
  bel : Below n A B
  buf : ∀ (b : Nat) (o : Obj), A.heap[b]? = some o → isBuf o → B.heap[b]? = some o
theorem Rn.refl (n : Nat) (A : World) : Rn n A A := ⟨Below.refl _ _, fun _ _ h _ => h⟩
theorem Rn.trans {n : Nat} {A B C : World} (h : Rn n A B) (k : Rn n B C) : Rn n A C := ⟨h.bel.trans k.bel, fun b o hb hf => k.buf b o (h.buf b o hb hf) hf⟩
theorem Rn.mono {n m : Nat} {A B : World} (h : Rn n A B) (hm : m ≤ n) : Rn m A B := ⟨h.bel.mono hm, h.buf⟩
theorem Rn.of_below {n : Nat} {A B : World} (h : Below A.heap.size A B) (hn : n ≤ A.heap.size) : Rn n A B := ⟨h.mono hn, fun b _ hb _ => (h.block b (lt_of_block hb)).trans hb⟩
theorem Rn.setCell {n : Nat} {A B : World} (h : Rn n A B) {p : Addr} {o : Obj} (hp : B.heap[p.block]? = some o) (ho : ¬ isBuf o) (hn : n ≤ p.block) (v : Value) : Rn n A (B.setCell p v) :=
  ⟨h.bel.setCell hn v, fun b o' hb hf => by
    have h1 := h.buf b o' hb hf
    rw [Below.heap_setCell _ _ _ _ (fun e => by subst e; rw [hp] at h1; cases h1; exact ho hf)]; exact h1⟩
theorem rn_put {n l : Nat} {W : World} {o' : Obj} (o : Obj) (h : n ≤ l) (hl : W.heap[l]? = some o') (hf : ¬ isBuf o') : Rn n W (W.putObj l o) :=
  ⟨⟨rfl, rfl, rfl, by simp, fun _ hk => World.putObj_heap_other (by omega)⟩, fun b o2 hb hb2 => by
    rw [World.putObj_heap_other (fun e => by subst e; rw [hl] at hb; cases hb; exact hf hb2)]; exact hb⟩
/-- all as it was but one block -/
structure But (g : Nat) (w w' : World) : Prop where
  os : w'.os = w.os
  tape : w'.tape = w.tape
  output : w'.output = w.output
  size : w.heap.size ≤ w'.heap.size
  block : ∀ k, k < w.heap.size → k ≠ g → w'.heap[k]? = w.heap[k]?
theorem but_put {l : Nat} {W : World} (o : Obj) : But l W (W.putObj l o) :=
  ⟨rfl, rfl, rfl, by simp, fun _ _ hn => World.putObj_heap_other hn⟩

/-- what an iterator does that hands on xs, one by one, and keeps cells of its own -/
def SeqOwn {α : Type} (G : World → Prop) (F : Fence) (n : Nat) (P : Program) (g : Nat) (lb : Array Value) (encs : α → Array Value) (xs : List α) (w : World) : Prop :=
  ∀ (l : Nat) (J Jx : Nat → World → Prop) (W : World), Below w.heap.size w W → (∀ k A B, J k A → Rn W.heap.size A B → J k B) → (∀ k A B, Jx k A → Rn W.heap.size A B → Jx k B) → (∀ k A, J k A → G A) →
    (∀ k x W1, xs[k]? = some x → J k W1 → YieldAt F (n - 1) P l (encs x) W1 fun e W' =>
      ((e = .returned (.bool true) ∧ J (k + 1) W') ∨ (e = .returned (.bool false) ∧ Jx (k + 1) W')) ∧ Up W.heap.size W1 W') →
    J 0 W →
    CallsIn F n P g (#[.func (.yield l) #[] #[]] ++ lb) W fun e W' => (∃ v, e = .returned v) ∧ (J xs.length W' ∨ ∃ k, k ≤ xs.length ∧ Jx k W')

/-- how a round's body may be left -/
def RoundPost (B : Nat) (I : Nat → World → Prop) (Ix : Code → Nat → World → Prop) (k : Nat) (W : World) : Exit → Act → World → Prop
  | .normal, _, W' => Up B W W' ∧ I k W'
  | .ret, _, W' => Up B W W' ∧ Ix .ret k W'
  | .exit id, _, W' => Up B W W' ∧ Ix (.exit id) k W'
  | .goto t, _, W' => Up B W W' ∧ Ix (.goto t) k W'
  | .panic _, _, _ => False
  | .outgrown, _, _ => False

theorem up_put {n l : Nat} {W : World} (o : Obj) (h : l < n) : Up n W (W.putObj l o) :=
  ⟨by simp, fun b o' hb hn _ => (World.putObj_heap_other (by omega)).trans hb⟩

variable {F : Fence} {n : Nat} {P : Program}
theorem range_own {α : Type} {g : Operand} {ps : Array Tmp} {assign body : Code} {Q : Exit → Act → World → Prop} {a : Act} {w : World}
    (hro : F.round = none) (h1 : 1 ≤ n) {gf : Nat} {lb : Array Value} (hg : a.eval g = .func (.func gf) #[] lb) (hFg : F.fn gf) (eg : ∀ args w, (callFunc gf args).run P w = .ok (.enter gf args) w)
    {encs : α → Array Value} {xs : List α} {w0 : World} {G : World → Prop} (hseq : SeqOwn G F (n - 1) P gf lb encs xs w0) (hb0 : Below w0.heap.size w0 w) (hps : ∀ x, (encs x).size = ps.size)
    (I : Nat → World → Prop) (Ix : Code → Nat → World → Prop) (hG : ∀ k A, I k A → G A) (hI : ∀ k A B, I k A → Rn w.heap.size A B → I k B) (hIx : ∀ c k A B, Ix c k A → Rn w.heap.size A B → Ix c k B) (h0 : I 0 w) (A₁ : α → Nat → World → Prop)
    (hA : ∀ x b A B, A₁ x b A → But (w.heap.size + 1) A B → A₁ x b B) (a₁ : α → Nat → Act)
    (hassign : ∀ (l k : Nat) (x : α) (W : World) (K : Act → World → Prop), xs[k]? = some x → I k W → w.heap.size + 1 < W.heap.size → (∀ b W', Below W.heap.size W W' → A₁ x b W' → K (a₁ x b) W') →
      assign.wpIn (F.inRound l) (n - 1 - 1) P (Exit.then K (fun _ _ _ => False)) { tmps := (ps.zip (encs x)).foldl (fun t (p, v) => t.setIfInBounds p v) a.tmps, defers := [] } W)
    (hbody : ∀ (l k : Nat) (x : α) (b : Nat) (W : World), xs[k]? = some x → I k W → A₁ x b W → w.heap.size < W.heap.size → body.wpIn (F.inRound l) (n - 1 - 1) P (RoundPost w.heap.size I Ix (k + 1) W) (a₁ x b) W)
    (hdone : ∀ (D : Nat) (W : World), w.heap.size ≤ D → I xs.length W → W.heap[D]? = some (.deferred (some [])) → Q .normal { a with defers := { target := .collected D, args := #[] } :: a.defers } W)
    (hstop : ∀ (D : Nat) (c : Code) (k : Nat) (W : World), w.heap.size ≤ D → k ≤ xs.length → Ix c k W → W.heap[D]? = some (.deferred (some [])) → c.wpIn F n P Q { a with defers := { target := .collected D, args := #[] } :: a.defers } W) :
    (Code.rangeFunc g ps assign body).wpIn F n P Q a w := by
  refine wpIn_rangeFunc ?_
  intro fn hfn
  rw [hro]
  obtain ⟨mk, hmk⟩ : ∃ mk : LoopState → Option Code → Loop, mk = fun st pe => { state := st, pending := pe, fn, tmps := a.tmps, params := ps, assign, body, defers := w.heap.size } := ⟨_, rfl⟩
  obtain ⟨V, hV⟩ : ∃ V, (w.alloc (.deferred (some []))).alloc (.loop (mk .ready none)) = V := ⟨_, rfl⟩
  have hBV : Below w.heap.size w V := by rw [← hV]; exact ((Below.refl _ w).alloc (Nat.le_refl _) _).alloc (by simp) _
  have hzV : V.heap.size = w.heap.size + 2 := by rw [← hV]; simp
  have hLV : V.heap[w.heap.size + 1]? = some (.loop (mk .ready none)) := by
    rw [← hV]; have h := World.alloc_heap_new (w.alloc (.deferred (some []))) (.loop (mk .ready none)); simpa using h
  have hDV : V.heap[w.heap.size]? = some (.deferred (some [])) := by
    rw [← hV, Below.heap_alloc _ _ _ (by simp)]; exact World.alloc_heap_new w _
  refine ⟨w.heap.size + 1, [{ target := .collected w.heap.size, args := #[] }], V, { target := .fn (.func gf) lb, args := #[.func (.yield (w.heap.size + 1)) #[] #[]] }, V, gf,
    #[.func (.yield (w.heap.size + 1)) #[] #[]] ++ lb, V, ?_, ?_, ?_, ?_, fun _ => h1, ?_⟩
  · rw [← hV, hmk]; exact run_enterLoop_outer _ _ _ _ _
  · simp only [resolve, hg]
    simp [go_sem]
  · intro f' hf'; simp [Target.leads] at hf'; subst hf'; exact hFg
  · simp [invoke, go_sem, eg]
  refine (hseq (w.heap.size + 1)
    (fun k W => I k W ∧ W.heap[w.heap.size + 1]? = some (.loop (mk .ready none)) ∧ W.heap[w.heap.size]? = some (.deferred (some [])))
    (fun k W => ∃ c, Ix c k W ∧ W.heap[w.heap.size + 1]? = some (.loop (mk .done (some c))) ∧ W.heap[w.heap.size]? = some (.deferred (some [])))
    V (hb0.trans (hBV.mono hb0.size)) ?_ ?_ (fun k A h => hG k A h.1) ?_ ⟨hI _ _ _ h0 (Rn.of_below hBV (Nat.le_refl _)), hLV, hDV⟩).mono ?_
  · rintro k A B ⟨hi, hl, hd⟩ hAB
    exact ⟨hI k A B hi (hAB.mono (by omega)), (hAB.bel.block _ (by omega)).trans hl, (hAB.bel.block _ (by omega)).trans hd⟩
  · rintro k A B ⟨c, hi, hl, hd⟩ hAB
    exact ⟨c, hIx c k A B hi (hAB.mono (by omega)), (hAB.bel.block _ (by omega)).trans hl, (hAB.bel.block _ (by omega)).trans hd⟩
  · rintro k x W hx ⟨hi, hl, hd⟩
    have hlW := lt_of_block hl
    have hy := run_yield (P := P) (args := encs x) hl (by rw [hmk]; exact hps x)
    rw [hmk] at hy
    refine ⟨fn, _, assign, body, hy, roundIn_of_wpIn hfn (hassign _ k x W _ hx hi (lt_of_block hl) fun a' W0 hW0 hA0 => ?_)⟩
    have hl0 := (hW0.block _ hlW).trans hl
    have hlW0 := lt_of_block hl0
    have hd0 := (hW0.block _ (lt_of_block hd)).trans hd
    refine ⟨_, run_beginRound hl0 (by rw [hmk]), ?_⟩
    obtain ⟨X, hX⟩ : ∃ X, W0.putObj (w.heap.size + 1) (.loop { mk .ready none with state := .busy }) = X := ⟨_, rfl⟩
    have hWX : Rn w.heap.size W X := by rw [← hX]; exact (Rn.of_below hW0 (by omega)).trans (rn_put _ (by omega) hl0 (buf_loop _))
    have hUX : Up V.heap.size W X := by rw [← hX]; exact ((Up.refl _ W).below hW0).trans (up_put _ (by omega))
    have hlX : X.heap[w.heap.size + 1]? = some (.loop { mk .ready none with state := .busy }) := by rw [← hX]; exact World.putObj_heap_same hlW0
    have hdX : X.heap[w.heap.size]? = some (.deferred (some [])) := by rw [← hX]; exact (World.putObj_heap_other (by omega)).trans hd0
    have hAX : A₁ x a' X := hA x a' W0 X hA0 (by rw [← hX]; exact but_put _)
    rw [hX]
    refine wpIn_mono (hbody _ k x a' X hx (hI _ _ _ hi hWX) hAX (by have := lt_of_block hlX; omega)) ?_
    have fin : ∀ (jump : Option Code) (Y : World), Up w.heap.size X Y →
        (Instr.endRound (w.heap.size + 1) jump).run P Y = .ok (.bool jump.isNone) (Y.putObj (w.heap.size + 1) (.loop (mk (if jump.isNone then .ready else .done) jump))) ∧
        (Y.putObj (w.heap.size + 1) (.loop (mk (if jump.isNone then .ready else .done) jump))).heap[w.heap.size + 1]? = some (.loop (mk (if jump.isNone then .ready else .done) jump)) ∧
        (Y.putObj (w.heap.size + 1) (.loop (mk (if jump.isNone then .ready else .done) jump))).heap[w.heap.size]? = some (.deferred (some [])) ∧
        Up V.heap.size W (Y.putObj (w.heap.size + 1) (.loop (mk (if jump.isNone then .ready else .done) jump))) := fun jump Y hY => by
      have hl3 := hY.same _ _ hlX (Nat.le_succ _) (buf_loop _)
      have hr := run_endRound (P := P) jump hl3
      rw [hmk] at hr ⊢
      refine ⟨hr, World.putObj_heap_same (lt_of_block hl3), (World.putObj_heap_other (by omega)).trans (hY.same _ _ hdX (Nat.le_refl _) (buf_def _)), ?_⟩
      exact (hUX.trans (hY.mono (by omega))).trans (up_put _ (by omega))
    rintro e a3 Y hp
    cases e with
    | normal =>
      obtain ⟨hU, hi3⟩ := hp
      obtain ⟨hr, hl4, hd4, hU4⟩ := fin none Y hU
      exact ⟨_, _, hr, .inl ⟨rfl, hI _ _ _ hi3 (rn_put _ (Nat.le_succ _) (hU.same _ _ hlX (Nat.le_succ _) (buf_loop _)) (buf_loop _)), hl4, hd4⟩, hU4⟩
    | ret =>
      obtain ⟨hU, hi3⟩ := hp
      obtain ⟨hr, hl4, hd4, hU4⟩ := fin (some .ret) Y hU
      exact ⟨_, _, hr, .inr ⟨rfl, .ret, hIx _ _ _ _ hi3 (rn_put _ (Nat.le_succ _) (hU.same _ _ hlX (Nat.le_succ _) (buf_loop _)) (buf_loop _)), hl4, hd4⟩, hU4⟩
    | exit id =>
      obtain ⟨hU, hi3⟩ := hp
      obtain ⟨hr, hl4, hd4, hU4⟩ := fin (some (.exit id)) Y hU
      exact ⟨_, _, hr, .inr ⟨rfl, .exit id, hIx _ _ _ _ hi3 (rn_put _ (Nat.le_succ _) (hU.same _ _ hlX (Nat.le_succ _) (buf_loop _)) (buf_loop _)), hl4, hd4⟩, hU4⟩
    | goto t =>
      obtain ⟨hU, hi3⟩ := hp
      obtain ⟨hr, hl4, hd4, hU4⟩ := fin (some (.goto t)) Y hU
      exact ⟨_, _, hr, .inr ⟨rfl, .goto t, hIx _ _ _ _ hi3 (rn_put _ (Nat.le_succ _) (hU.same _ _ hlX (Nat.le_succ _) (buf_loop _)) (buf_loop _)), hl4, hd4⟩, hU4⟩
    | panic ch => exact hp.elim
    | outgrown => exact hp.elim
  · rintro e W2 ⟨⟨v, rfl⟩, (⟨hi, hl, hd⟩ | ⟨k, hk, c, hi, hl, hd⟩)⟩
    · have hr := run_endLoop (P := P) hl (by rw [hmk]; simp)
      rw [hmk] at hr
      exact ⟨none, _, hr, hdone _ _ (Nat.le_refl _) (hI _ _ _ hi (rn_put _ (Nat.le_succ _) hl (buf_loop _))) ((World.putObj_heap_other (by omega)).trans hd)⟩
    · have hr := run_endLoop (P := P) hl (by rw [hmk]; simp)
      rw [hmk] at hr
      exact ⟨some c, _, hr, hstop _ c k _ (Nat.le_refl _) hk (hIx _ _ _ _ hi (rn_put _ (Nat.le_succ _) hl (buf_loop _))) ((World.putObj_heap_other (by omega)).trans hd)⟩
end Go.Proofs.YtlhbledakddbbaaGreatDoor
/- Lists of nothing; a function without anything. -/
namespace Go.Proofs.YtlhbledakddbbaaGreatDoor
open Go.RowKit

set_option maxHeartbeats 1600000 in
theorem ev_region (p : Option Addr) (c : Nat) (fv : Value) (w : World) : Calls Tryz.prog 50 #[.slice p 0 c, fv] w fun e w' => e = .returned (.bool true) ∧ w = w' := by
  go_enter Tryz.func50, Tryz.ntmps50
  go_wp2_with fail
  go_loopw [9] (fun i wr => i = .int .i64 0 ∧ wr = w) (fun _ _ => 0)
  case atStart => exact ⟨rfl, rfl⟩
  case round =>
    obtain ⟨rfl, rfl⟩ := hrel
    go_wp2_with fail
    go_ret
    exact ⟨rfl, rfl⟩

set_option maxHeartbeats 1600000 in
theorem ev_var (p : Option Addr) (c : Nat) (fv : Value) (w : World) : Calls Tryz.prog 91 #[.slice p 0 c, fv] w fun e w' => e = .returned (.bool true) ∧ w = w' := by
  go_enter Tryz.func91, Tryz.ntmps91
  go_wp2_with fail
  go_loopw [9] (fun i wr => i = .int .i64 0 ∧ wr = w) (fun _ _ => 0)
  case atStart => exact ⟨rfl, rfl⟩
  case round =>
    obtain ⟨rfl, rfl⟩ := hrel
    go_wp2_with fail
    go_ret
    exact ⟨rfl, rfl⟩

set_option maxHeartbeats 1600000 in
theorem ev_str (p : Option Addr) (c : Nat) (fv : Value) (w : World) : Calls Tryz.prog 94 #[.slice p 0 c, fv] w fun e w' => e = .returned (.bool true) ∧ w = w' := by
  go_enter Tryz.func94, Tryz.ntmps94
  go_wp2_with fail
  go_loopw [9] (fun i wr => i = .int .i64 0 ∧ wr = w) (fun _ _ => 0)
  case atStart => exact ⟨rfl, rfl⟩
  case round =>
    obtain ⟨rfl, rfl⟩ := hrel
    go_wp2_with fail
    go_ret
    exact ⟨rfl, rfl⟩

set_option maxHeartbeats 1600000 in
theorem ev_stmt (p : Option Addr) (c : Nat) (fv : Value) (w : World) : Calls Tryz.prog 105 #[.slice p 0 c, fv] w fun e w' => e = .returned (.bool true) ∧ w = w' := by
  go_enter Tryz.func105, Tryz.ntmps105
  go_wp2_with fail
  go_loopw [9] (fun i wr => i = .int .i64 0 ∧ wr = w) (fun _ _ => 0)
  case atStart => exact ⟨rfl, rfl⟩
  case round =>
    obtain ⟨rfl, rfl⟩ := hrel
    go_wp2_with fail
    go_ret
    exact ⟨rfl, rfl⟩

set_option maxHeartbeats 1600000 in
theorem deepest0 (p : Option Addr) (c : Nat) (fv : Value) (w : World) : Calls Tryz.prog 74 #[.slice p 0 c, fv] w fun e w' => e = .returned (.int .i64 0) ∧ w = w' := by
  go_enter Tryz.func74, Tryz.ntmps74
  go_wp2_with fail
  go_loopw [5, 9] (fun d i wr => d = .int .i64 0 ∧ i = .int .i64 0 ∧ wr = w) (fun _ _ _ => 0)
  case atStart => exact ⟨rfl, rfl, rfl⟩
  case round =>
    obtain ⟨rfl, rfl, rfl⟩ := hrel
    go_wp2_with fail
    go_ret
    exact ⟨rfl, rfl⟩
theorem deep0 (p : Option Addr) (c : Nat) (w : World) : Calls Tryz.prog 29 #[.slice p 0 c] w fun e w' => e = .returned (.int .i64 0) ∧ w = w' := by
  go_enter Tryz.func29, Tryz.ntmps29
  go_wp2_with fail
  refine (deepest0 _ _ _ _).mono ?_
  rintro e w' ⟨rfl, rfl⟩
  go_wp2_with fail
  go_ret
  exact ⟨rfl, rfl⟩
theorem mayBody0 (p : Option Addr) (c : Nat) (w : World) : Calls Tryz.prog 70 #[.slice p 0 c] w fun e w' => e = .returned (.bool true) ∧ w = w' := by
  go_enter Tryz.func70, Tryz.ntmps70
  go_wp2_with fail
  refine (deep0 _ _ _).mono ?_
  rintro e w' ⟨rfl, rfl⟩
  go_wp2_with fail
  refine (ev_stmt _ _ _ _).mono ?_
  rintro e w' ⟨rfl, rfl⟩
  go_wp2_with fail
  go_ret
  exact ⟨rfl, rfl⟩
theorem name_f : nameB [102] = true := by decide
/-- a function without anything, named f -/
def fnV : Value := .agg #[.string ⟨#[102]⟩, .slice none 0 0, .slice none 0 0, .slice none 0 0, .slice none 0 0]
set_option maxHeartbeats 1600000 in
theorem mayFunc_f (w : World) : Calls Tryz.prog 53 #[fnV] w fun e w' => e = .returned (.bool true) ∧ Below w.heap.size w w' := by
  have HN := Lib.hid (fun w => name_any ⟨#[102]⟩ w)
  have hn : nameB (⟨#[102]⟩ : ByteArray).data.toList = true := name_f
  rw [hn] at HN
  unfold fnV
  go_enter Tryz.func53, Tryz.ntmps53
  go_wp2_with fail
  refine (HN.out _).mono ?_
  rintro e w' ⟨rfl, rfl⟩
  go_wp2_with fail
  refine (ev_var _ _ _ _).mono ?_
  rintro e w' ⟨rfl, rfl⟩
  go_wp2_with fail
  refine (ev_var _ _ _ _).mono ?_
  rintro e w' ⟨rfl, rfl⟩
  go_wp2_with fail
  refine (ev_str _ _ _ _).mono ?_
  rintro e w' ⟨rfl, rfl⟩
  go_wp2_with fail
  refine (mayBody0 _ _ _).mono ?_
  rintro e w' ⟨rfl, rfl⟩
  go_wp2_with fail
  go_ret
  exact ⟨rfl, (Below.refl _ _).alloc (Nat.le_refl _) _⟩
/-- the function lies at b -/
def FnAt (w : World) (b : Nat) : Prop := w.heap[b]? = some (.cells #[.string ⟨#[102]⟩, .slice none 0 0, .slice none 0 0, .slice none 0 0, .slice none 0 0] 49 (0, 0))
theorem FnAt.later {w w' : World} {b n : Nat} (h : FnAt w b) (hb : b < n) (hB : Below n w w') : FnAt w' b := (hB.block b hb).trans h
theorem FnAt.cells {w : World} {b : Nat} (h : FnAt w b) : w.cell? ⟨b, 0, none⟩ = some (.string ⟨#[102]⟩) ∧ w.cell? ⟨b, 1, none⟩ = some (.slice none 0 0) ∧ w.cell? ⟨b, 2, none⟩ = some (.slice none 0 0) ∧ w.cell? ⟨b, 3, none⟩ = some (.slice none 0 0) ∧ w.cell? ⟨b, 4, none⟩ = some (.slice none 0 0) := by
  unfold FnAt at h
  refine ⟨?_, ?_, ?_, ?_, ?_⟩ <;> simp [World.cell?, h]

set_option maxHeartbeats 3200000 in
theorem everyFunc_f (b : Nat) (w : World) (h : FnAt w b) : Calls Tryz.prog 52 #[.slice (some ⟨b, 0, none⟩) 1 1, .func (.func 53) #[] #[]] w fun e w' => e = .returned (.bool true) ∧ Below w.heap.size w w' := by
  have hb := lt_of_block h
  have HF := Lib.hid h
  have HC := Lib.hid mayFunc_f
  unfold fnV at HC
  clear h
  go_enter Tryz.func52, Tryz.ntmps52
  go_wp2_with fail
  go_loopw [9] (fun i wr => ∃ k : Nat, i = .int .i64 k ∧ k ≤ 1 ∧ Hid (Below w.heap.size w wr)) (fun i _ => 1 - (intOf i).toNat)
  case atStart => exact ⟨0, rfl, by omega, Lib.hid (Below.refl _ _)⟩
  case round =>
    obtain ⟨k, rfl, hk, hB⟩ := hrel
    rcases k with _ | _ | k
    · obtain ⟨c0, c1, c2, c3, c4⟩ := (HF.out.later hb hB.out).cells
      go_wp2_with fail
      refine (HC.out _).mono ?_
      rintro e w2 ⟨rfl, hB2⟩
      have HB2 := Lib.hid ((hB.out.alloc hB.out.size _).trans (hB2.mono (by simp; exact Nat.le_succ_of_le hB.out.size)))
      clear hB2
      go_wp2_with fail
      go_roundw
      case rel => exact ⟨1, rfl, by omega, HB2⟩
      case measure => simp [intOf]
    · go_wp2_with fail
      go_ret
      exact ⟨rfl, hB.out⟩
    · omega

set_option maxHeartbeats 1600000 in
theorem may_f (b : Nat) (w : World) (h : FnAt w b) : Calls Tryz.prog 18 #[.agg #[.slice none 0 0, .slice (some ⟨b, 0, none⟩) 1 1]] w fun e w' => e = .returned (.bool true) ∧ Below w.heap.size w w' := by
  have HC := Lib.hid (everyFunc_f b (w.alloc (.cells #[.slice none 0 0, .slice (some ⟨b, 0, none⟩) 1 1] 39)) (h.later (lt_of_block h) ((Below.refl _ _).alloc (Nat.le_refl _) _)))
  go_enter Tryz.func18, Tryz.ntmps18
  go_wp2_with fail
  refine (ev_region _ _ _ _).mono ?_
  rintro e w' ⟨rfl, rfl⟩
  go_wp2_with fail
  refine HC.out.mono ?_
  rintro e w2 ⟨rfl, hB2⟩
  have HB2 := Lib.hid (((Below.refl _ w).alloc (Nat.le_refl _) _).trans (hB2.mono (by simp)))
  clear hB2
  go_wp2_with fail
  go_ret
  exact ⟨rfl, HB2.out⟩

theorem info_str : (Tryz.prog.info? 9).map (fun i => (i.zero, i.size, i.bytes)) = some (some (.string ⟨#[]⟩), 1, 16) := by kernel_rfl
theorem make_strs0 : ∃ Z : Array Value, (∀ w : World, (Instr.makeSlice 46 (.int .i64 0) (.int .i64 0)).run Tryz.prog w = .ok (.slice (some ⟨w.heap.size, 0, none⟩) 0 0) (w.alloc (.cells Z 9 (0, 0)))) := by
  obtain ⟨i0, hi, hz0, hz1, hz2⟩ := info_parts info_str
  refine ⟨madeCells #[.string ⟨#[]⟩] 0, fun w => ?_⟩
  have h := run_make (P := Tryz.prog) w 46 9 i0 (.string ⟨#[]⟩) Tryz.underlying46 hi hz0 .i64 .i64 0 0 (by omega) (by omega) (by rw [hz2]; omega) (by omega)
  rw [hz1, Nat.mul_one] at h
  exact h
set_option maxHeartbeats 3200000 in
theorem funcLine_f (b : Nat) (w : World) (h : FnAt w b) : Calls Tryz.prog 126 #[.pointer (some ⟨b, 0, none⟩)] w fun e w' => e = .returned (.string ⟨#[102, 110, 32, 102, 40, 41, 32, 123]⟩) ∧ Below w.heap.size w w' := by
  obtain ⟨c0, c1, c2, c3, c4⟩ := h.cells
  have hb := lt_of_block h
  obtain ⟨Z, hmk⟩ := make_strs0
  have HJn := Lib.hid (fun (a : Option Addr) (c : Nat) (w : World) => (Tryz.strings_Join_none a c ⟨#[44, 32]⟩ w).mono fun e w' h => (And.intro h.1 h.2.symm : _ ∧ w = w'))
  clear h
  go_enter Tryz.func126, Tryz.ntmps126
  go_wp2_with fail
  obtain ⟨w1, hw1⟩ : ∃ w1, w.alloc (.cells Z 9 (0, 0)) = w1 := ⟨_, rfl⟩
  have HB1 := Lib.hid (show Below w.heap.size w w1 by rw [← hw1]; exact (Below.refl _ _).alloc (Nat.le_refl _) _)
  have d0 := (HB1.out.cell (p := ⟨b, 0, none⟩) hb).trans c0
  have d1 := (HB1.out.cell (p := ⟨b, 1, none⟩) hb).trans c1
  have d3 := (HB1.out.cell (p := ⟨b, 3, none⟩) hb).trans c3
  rw [hw1]
  clear hw1 hmk c0 c1 c2 c3 c4
  go_loopw [18] (fun i wr => i = .int .i64 0 ∧ wr = w1) (fun _ _ => 0)
  case atStart => exact ⟨rfl, rfl⟩
  case round =>
    obtain ⟨rfl, rfl⟩ := hrel
    go_wp2_with fail
    go_quiet ((go_at_call 138; exact Calls.quiet_of_same ((HJn.out _ _ _).mono fun e w1 h => ⟨h.1, h.2.symm⟩)))
    go_wp2_with fail
    go_ret
    exact ⟨rfl, below_drewN HB1.out _⟩
end Go.Proofs.YtlhbledakddbbaaGreatDoor
/- The lines of a function without anything. -/
namespace Go.Proofs.YtlhbledakddbbaaGreatDoor
open Go.RowKit
attribute [local go_sem] Oper.semAt_some

/-- a line and the tabs ahead, as they are handed on -/
def encL (x : Nat × List UInt8) : Array Value := #[.int .i64 x.1, .string (str x.2)]
theorem show0 (p2 p3 p4 : Value) (w : World) : Calls Tryz.prog 108 #[.slice none 0 0, .int .i64 0, p2, p3, p4] w fun e w' => e = .returned (.bool true) ∧ w = w' := by
  go_enter Tryz.func108, Tryz.ntmps108
  go_wp2_with fail
  go_loopw [12] (fun i wr => i = .int .i64 0 ∧ wr = w) (fun _ _ => 0)
  case atStart => exact ⟨rfl, rfl⟩
  case round =>
    obtain ⟨rfl, rfl⟩ := hrel
    go_wp2_with fail
    go_ret
    exact ⟨rfl, rfl⟩
theorem stmtLines0 (w : World) : Calls Tryz.prog 72 #[.slice none 0 0] w fun e w' => ∃ bx, e = .returned (.func (.func 107) #[] #[.pointer (some ⟨bx, 0, none⟩)]) ∧ w'.heap[bx]? = some (.cells #[.slice none 0 0] 47 (0, 0)) ∧ w.heap.size ≤ bx ∧ Below w.heap.size w w' := by
  go_enter Tryz.func72, Tryz.ntmps72
  go_wp2_with fail
  go_ret
  exact ⟨_, rfl, heap_alloc_new w _, Nat.le_refl _, (Below.refl _ w).alloc (Nat.le_refl _) _⟩

set_option maxRecDepth 100000 in
set_option maxHeartbeats 3200000 in
theorem stmtLines1_own (bx n : Nat) (G : World → Prop) (w0 : World) (hx : w0.heap[bx]? = some (.cells #[.slice none 0 0] 47 (0, 0))) :
    SeqOwn G Fence.wide n Tryz.prog 107 #[.pointer (some ⟨bx, 0, none⟩)] encL [] w0 := by
  intro l J Jx W hW hJ _ _ _ h0
  refine callsIn_wide.2 ?_
  have hbz := Nat.lt_of_lt_of_le (lt_of_block hx) hW.size
  have HX := Lib.hid ((hW.block _ (lt_of_block hx)).trans hx)
  have HJ := Lib.hid (fun W' (h : Below W.heap.size W W') => hJ 0 W W' h0 (Rn.of_below h (Nat.le_refl _)))
  have HT := Lib.hid (newTeller_any (W.alloc (.cells #[.func (.yield l) #[] #[]] 117)))
  clear hJ h0 hx hW
  show Calls Tryz.prog 107 #[.func (.yield l) #[] #[], .pointer (some ⟨bx, 0, none⟩)] W _
  go_enter Tryz.func107, Tryz.ntmps107
  go_wp2_with fail
  refine HT.out.mono ?_
  rintro e w2 ⟨m, rfl, _, hB2⟩
  have HB2 := Lib.hid (((Below.refl _ W).alloc (Nat.le_refl _) _).trans (hB2.mono (by simp)))
  have cx := cell_of_one ((HB2.out.block bx hbz).trans HX.out)
  have hbz2 : bx < w2.heap.size := Nat.lt_of_lt_of_le hbz HB2.out.size
  clear hB2
  have cv : ((w2.alloc (.cells #[.map (some m)] 68)).alloc (.cells #[.nilFunc] 55)).cell? ⟨w2.heap.size + 1, 0, none⟩ = some .nilFunc := World.cell?_alloc2_new _ _ _ _
  have fv : ((w2.alloc (.cells #[.map (some m)] 68)).alloc (.cells #[.nilFunc] 55)).frozen? ⟨w2.heap.size + 1, 0, none⟩ = false := World.frozen?_alloc2_new _ _ _ _
  go_wp2_with fail
  refine (show0 _ _ _ _).mono ?_
  rintro e w' ⟨rfl, rfl⟩
  go_wp2_with fail
  go_end0
  refine ⟨⟨_, rfl⟩, .inl (HJ.out _ ((HB2.out.alloc HB2.out.size _).alloc (by simp; exact Nat.le_succ_of_le HB2.out.size) _))⟩
end Go.Proofs.YtlhbledakddbbaaGreatDoor
/- The lines of a function f without anything, shown one by one. -/
namespace Go.Proofs.YtlhbledakddbbaaGreatDoor
open Go.RowKit
attribute [local go_sem] Oper.semAt_some

theorem YieldAt.wide {M M' : Nat} {P : Program} {l : Nat} {args : Array Value} {W : World} {R : Ending → World → Prop} (h : YieldAt Fence.wide M P l args W R) : YieldAt Fence.wide M' P l args W R := by
  obtain ⟨fn, tmps, assign, body, hy, hR⟩ := h
  exact ⟨fn, tmps, assign, body, hy, hR.1, fun c cs _ => hR.2 c cs (room_wide _)⟩
/-- the two lines -/
def lf : List (Nat × List UInt8) := [(0, [102, 110, 32, 102, 40, 41, 32, 123]), (0, [125])]

theorem buf_fn (c : Array Value) (fr : Nat × Nat) : ¬ isBuf (.cells c 117 fr) := by intro h; rcases h with h | h <;> exact absurd h (by decide)
theorem buf_bool (c : Array Value) (fr : Nat × Nat) : ¬ isBuf (.cells c 4 fr) := by intro h; rcases h with h | h <;> exact absurd h (by decide)
theorem enc_l0 : encL (0, [102, 110, 32, 102, 40, 41, 32, 123]) = #[.int .i64 0, .string ⟨#[102, 110, 32, 102, 40, 41, 32, 123]⟩] := rfl
theorem enc_l1 : encL (0, [125]) = #[.int .i64 0, .string ⟨#[125]⟩] := rfl
theorem lf_0 : lf[0]? = some (0, [102, 110, 32, 102, 40, 41, 32, 123]) := rfl
theorem lf_1 : lf[1]? = some (0, [125]) := rfl

/-- what a line's showing leaves -/
def JJ (J Jx : Nat → World → Prop) (v : Bool) (k : Nat) (W : World) : Prop := (v = true ∧ J k W) ∨ (v = false ∧ Jx k W)
theorem jj_of {J Jx : Nat → World → Prop} {k N : Nat} {W1 : World} {F : Fence} {M l : Nat} {P : Program} {args : Array Value} (h : YieldAt F M P l args W1 fun e W' => ((e = .returned (.bool true) ∧ J k W') ∨ (e = .returned (.bool false) ∧ Jx k W')) ∧ Up N W1 W') :
    YieldAt F M P l args W1 fun e W' => ∃ v, e = .returned (.bool v) ∧ JJ J Jx v k W' ∧ Up N W1 W' := by
  obtain ⟨fn, tmps, assign, body, hy, hR⟩ := h
  refine ⟨fn, tmps, assign, body, hy, hR.mono ?_⟩
  rintro e w ⟨(⟨rfl, h⟩ | ⟨rfl, h⟩), hU⟩
  · exact ⟨_, rfl, .inl ⟨rfl, h⟩, hU⟩
  · exact ⟨_, rfl, .inr ⟨rfl, h⟩, hU⟩

/-- what the first line's showing leaves -/
def Post1 (J Jx : Nat → World → Prop) (b l n3 N : Nat) (w1 : World) : Exit → Act → World → Prop
  | .normal, a, W => ∃ v w2, a = { tmps := #[.pointer (some ⟨b, 0, none⟩), .func (.yield l) #[] #[], undef, .pointer (some ⟨n3, 0, none⟩), .pointer (some ⟨n3 + 1, 0, none⟩), undef, undef, undef, undef, .func (.yield l) #[] #[], .pointer (some ⟨b, 0, none⟩), .string ⟨#[102, 110, 32, 102, 40, 41, 32, 123]⟩, .bool v, .bool (!v), undef, undef, undef, undef, undef, undef, undef, undef, undef, undef, undef, undef, undef, undef, undef, undef, undef, undef, undef, undef, undef, undef, undef, undef, undef, undef, undef, undef, undef, undef], defers := [] } ∧ Below w1.heap.size w1 w2 ∧ JJ J Jx v 1 W ∧ Up N w2 W
  | _, _, _ => False

set_option maxRecDepth 100000 in
set_option maxHeartbeats 3200000 in
theorem showFunc_f (b l : Nat) (J Jx : Nat → World → Prop) (N M : Nat) (w : World) (hN : N ≤ w.heap.size) (hJ : ∀ k A B, J k A → Rn N A B → J k B) (hJx : ∀ k A B, Jx k A → Rn N A B → Jx k B) (hJF : ∀ k A, J k A → FnAt A b)
    (hY : ∀ k x W1, lf[k]? = some x → J k W1 → YieldAt Fence.wide M Tryz.prog l (encL x) W1 fun e W' => ((e = .returned (.bool true) ∧ J (k + 1) W') ∨ (e = .returned (.bool false) ∧ Jx (k + 1) W')) ∧ Up N W1 W') (h0 : J 0 w) :
    Calls Tryz.prog 86 #[.pointer (some ⟨b, 0, none⟩), .func (.yield l) #[] #[]] w fun e w' => (e = .returned (.bool true) ∧ J 2 w') ∨ (e = .returned (.bool false) ∧ ∃ k, k ≤ 2 ∧ Jx k w') := by
  have HJ := Lib.hid hJ
  have HJx := Lib.hid hJx
  have HJF := Lib.hid hJF
  have HY := Lib.hid (fun k x W1 hx hj => jj_of (hY k x W1 hx hj))
  have HJ0 := Lib.hid h0
  clear hJ hJx hJF hY h0
  refine (callsIn_wide (n := M + 1)).1 ?_
  refine callsIn_of_wp_marks Tryz.func86 rfl trivial ?_ rfl
  simp only [Tryz.ntmps86, List.size_toArray, List.length_cons, List.length_nil, Nat.reduceAdd, Nat.reduceSub, Array.replicate_succ, Array.replicate_zero, List.push_toArray, List.append_toArray, List.nil_append, List.cons_append]
  gi_wp2_with fail
  obtain ⟨w1, hw1⟩ : ∃ w1, (w.alloc (.cells #[.func (.yield l) #[] #[]] 117)).alloc (.cells #[.bool false] 4) = w1 := ⟨_, rfl⟩
  have HB1 := Lib.hid (show Below w.heap.size w w1 by rw [← hw1]; exact ((Below.refl _ w).alloc (Nat.le_refl _) _).alloc (by simp) _)
  have k3 : w1.heap[w.heap.size]? = some (.cells #[.func (.yield l) #[] #[]] 117 (0, 0)) := by
    rw [← hw1, Below.heap_alloc _ _ _ (by simp)]; exact heap_alloc_new w _
  have k4 : w1.heap[w.heap.size + 1]? = some (.cells #[.bool false] 4 (0, 0)) := by
    rw [← hw1]; have := heap_alloc_new (w.alloc (.cells #[.func (.yield l) #[] #[]] 117)) (.cells #[.bool false] 4); simpa using this
  rw [hw1]
  have HN1 := Lib.hid (Nat.le_trans hN HB1.out.size)
  generalize hn3 : w.heap.size = n3 at *
  have c3 := cell_of_one k3
  have HK3 := Lib.hid k3
  have HK4 := Lib.hid k4
  have HJ1 := Lib.hid (HJ.out 0 _ _ HJ0.out (Rn.of_below (hn3.symm ▸ HB1.out) (hn3.symm ▸ hN)))
  have hf := Lib.hid (fun (W : World) (h : FnAt W b) => funcLine_f b W h)
  clear hw1 k3 k4
  have HJD := Lib.hid (HJ.out 0 w1 w1.drew HJ1.out ⟨(Below.refl _ w1).drew, fun _ _ h _ => h⟩)
  have HFD := Lib.hid (show FnAt w1.drew b from HJF.out 0 w1 HJ1.out)
  gi_wp2_with fail
  refine wpIn_mono (Q := Post1 J Jx b l n3 N w1.drew) ?_ ?_
  · gi_region_with (first
    | (refine ⟨trivial, ?_⟩; gi_at_call 126; refine (callsIn_wide.2 (hf.out w1.drew HFD.out)).mono ?_; rintro e w2 ⟨rfl, hB2⟩; have c3 := (hB2.cell (p := ⟨n3, 0, none⟩) (lt_of_block HK3.out)).trans c3; obtain ⟨fn, tmps, assign, body, hy, hR⟩ := HY.out 0 _ w2 lf_0 (HJ.out 0 w1.drew _ HJD.out (Rn.of_below hB2 (show N ≤ w1.drew.heap.size from HN1.out))); rw [enc_l0] at hy)
    | (refine hR.mono ?_; rintro e w3 ⟨v, rfl, hj, hU⟩))
    all_goals exact ⟨v, w2, rfl, hB2, hj, hU⟩
  intro e a w3 hP
  cases e <;> try exact hP.elim
  obtain ⟨v, w2, rfl, hB2, hj, hU⟩ := hP
  · skip
    have HK3' := Lib.hid (hU.same n3 _ ((hB2.block n3 (lt_of_block HK3.out)).trans HK3.out) hN (buf_fn _ _))
    have HK4' := Lib.hid (hU.same (n3 + 1) _ ((hB2.block (n3 + 1) (lt_of_block HK4.out)).trans HK4.out) (by omega) (buf_bool _ _))
    have HNw := Lib.hid (Nat.le_trans HN1.out (Nat.le_trans (show w1.heap.size ≤ w2.heap.size from hB2.size) hU.size))
    have HV := Lib.hid hj
    clear hj hU hB2 c3 HK3 HK4 HJ0 HJ1 HJD HFD HB1 HN1
    have c4 := cell_of_one HK4'.out
    have f4 := free_of_one HK4'.out
    rcases HV.out with ⟨rfl, hj⟩ | ⟨rfl, hj⟩
    · obtain ⟨c0, c1, c2, c3, c4⟩ := (HJF.out _ _ hj).cells
      gi_wp2_with fail
      gi_loopw [19] (fun i wr => i = .int .i64 0 ∧ wr = w3) (fun _ _ => 0)
      case atStart => exact ⟨rfl, rfl⟩
      case round =>
        obtain ⟨rfl, rfl⟩ := hrel
        gi_wp2_with fail
        refine ⟨trivial, ?_⟩
        refine (callsIn_wide.2 (stmtLines0 _)).mono ?_
        rintro e w4 ⟨bx, rfl, hx, hbx, hB4⟩
        gi_wp2_with fail
        have hz4 : n3 + 1 < wr.heap.size := lt_of_block HK4'.out
        have hzz := hB4.size
        have HI := Lib.hid (show J 1 w4 ∧ w4.heap[n3]? = some (.cells #[.func (.yield l) #[] #[]] 117 (0, 0)) ∧ w4.heap[n3 + 1]? = some (.cells #[.bool false] 4 (0, 0)) from
          ⟨HJ.out _ _ _ hj (Rn.of_below hB4 HNw.out), (hB4.block n3 (by omega)).trans HK3'.out, (hB4.block (n3 + 1) hz4).trans HK4'.out⟩)
        clear c0 c1 c2 c3 c4 f4 hj HV HK3' HK4' hB4 HJF hf
        refine range_own (F := Fence.wide) rfl (by omega) (gf := 107) (lb := #[.pointer (some ⟨bx, 0, none⟩)]) rfl trivial (enters_of Tryz.func107 (by kernel_rfl) rfl)
          (stmtLines1_own bx (M + 1 - 1) (fun _ => True) w4 hx) (Below.refl _ w4) (fun _ => rfl)
          (fun _ W => J 1 W ∧ W.heap[n3]? = some (.cells #[.func (.yield l) #[] #[]] 117 (0, 0)) ∧ W.heap[n3 + 1]? = some (.cells #[.bool false] 4 (0, 0)))
          (fun _ _ _ => False) (fun _ _ _ => trivial)
          (fun k A B h hAB => ⟨HJ.out _ _ _ h.1 (hAB.mono (by have := HNw.out; omega)), (hAB.bel.block n3 (by omega)).trans h.2.1, (hAB.bel.block (n3 + 1) (by omega)).trans h.2.2⟩)
          (fun _ _ _ _ h _ => h) HI.out (fun _ _ _ => True) (fun _ _ _ _ _ _ => trivial) (fun _ _ => ⟨#[], []⟩) ?_ ?_ ?_ ?_
        · intro l k x W K hx
          simp at hx
        · intro l k x b W hx
          simp at hx
        · rintro D W hD ⟨hj, hk3, hk4⟩ hDh
          have c3 := cell_of_one hk3
          have c4 := cell_of_one hk4
          have f4 := free_of_one hk4
          obtain ⟨fn, tmps, assign, body, hy, hR⟩ := HY.out 1 _ W lf_1 hj
          rw [enc_l1] at hy
          have hlt3 := lt_of_block hk3
          have hlt4 := lt_of_block hk4
          have hltD := lt_of_block hDh
          gi_wp2_with fail
          refine hR.mono ?_
          rintro e w5 ⟨v, rfl, hj2, hU⟩
          have k4 := hU.same (n3 + 1) _ hk4 (by omega) (buf_bool _ _)
          have kD := hU.same D _ hDh (by omega) (buf_def _)
          have d4 := cell_of_one k4
          have e4 := free_of_one k4
          have HH := Lib.hid (And.intro hj2 (And.intro k4 kD))
          clear hj2 hU k4 kD c3 c4 f4 hk3 hk4 hDh hy hR hj
          gi_wp2_with fail
          obtain ⟨hj2, k4, kD⟩ := HH.out
          have hr2 := one_setCell (u := .bool v) k4
          have hs2 : Rn N w5 (w5.setCell ⟨n3 + 1, 0, none⟩ (.bool v)) := (Rn.refl _ _).setCell (p := ⟨n3 + 1, 0, none⟩) k4 (buf_bool _ _) (by show N ≤ n3 + 1; omega) _
          have hK' : (w5.setCell ⟨n3 + 1, 0, none⟩ (.bool v)).heap[D]? = some (.deferred (some [])) := (Below.heap_setCell w5 _ _ D (by show D ≠ n3 + 1; omega)).trans kD
          have hc2 : ((w5.setCell ⟨n3 + 1, 0, none⟩ (.bool v)).putObj D (.deferred none)).cell? ⟨n3 + 1, 0, none⟩ = some (.bool v) := (World.cell?_of_block (World.putObj_heap_other (by show n3 + 1 ≠ D; omega))).trans (cell_of_one hr2)
          refine ⟨by simp, .inl ⟨_, _, rfl, run_takeDeferred hK', ?_⟩⟩
          refine ⟨.bool v, by simp [results, Tryz.results86, go_sem, hc2], ?_⟩
          have hs3 := hs2.trans (rn_put (o' := .deferred (some [])) (.deferred none) (by omega) hK' (buf_def _))
          rcases hj2 with ⟨rfl, h⟩ | ⟨rfl, h⟩
          · exact .inl ⟨rfl, HJ.out _ _ _ h hs3⟩
          · exact .inr ⟨rfl, 2, by omega, HJx.out _ _ _ h hs3⟩
        · intro D c k W hD hk h
          exact h.elim
    · gi_wp2_with fail
      have cc : (w3.setCell ⟨n3 + 1, 0, none⟩ (.bool false)).cell? ⟨n3 + 1, 0, none⟩ = some (.bool false) := cell_of_one (one_setCell HK4'.out)
      refine ⟨.bool false, by simp [results, Tryz.results86, go_sem, cc], ?_⟩
      exact .inr ⟨rfl, 1, by omega, HJx.out _ _ _ hj ((Rn.refl _ _).setCell (p := ⟨n3 + 1, 0, none⟩) HK4'.out (buf_bool _ _) (by show N ≤ n3 + 1; omega) _)⟩
end Go.Proofs.YtlhbledakddbbaaGreatDoor
/- The lines of a program with a function f alone. -/
namespace Go.Proofs.YtlhbledakddbbaaGreatDoor
open Go.RowKit
attribute [local go_sem] Oper.semAt_some

/-- the program lies at bp, its function at b -/
def PrAt (W : World) (bp b : Nat) : Prop := FnAt W b ∧ W.heap[bp]? = some (.cells #[.slice none 0 0, .slice (some ⟨b, 0, none⟩) 1 1] 39 (0, 0))
theorem PrAt.cells {W : World} {bp b : Nat} (h : PrAt W bp b) : W.cell? ⟨bp, 0, none⟩ = some (.slice none 0 0) ∧ W.cell? ⟨bp, 1, none⟩ = some (.slice (some ⟨b, 0, none⟩) 1 1) := by
  have h := h.2
  refine ⟨?_, ?_⟩ <;> simp [World.cell?, h]

set_option maxRecDepth 100000 in
set_option maxHeartbeats 3200000 in
theorem programLines1_own (bp b n : Nat) (w0 : World) :
    SeqOwn (fun W => PrAt W bp b) Fence.wide n Tryz.prog 84 #[.pointer (some ⟨bp, 0, none⟩)] encL lf w0 := by
  intro l J Jx W hW hJ hJx hG hY h0
  refine callsIn_wide.2 ?_
  have HS := Lib.hid (fun w hN h => showFunc_f b l J Jx W.heap.size (n - 1) w hN hJ hJx (fun k A h => (hG k A h).1) hY h)
  have HG := Lib.hid (fun k A h => (hG k A h).cells)
  have HJ0 := Lib.hid h0
  clear hJ hJx hG hY h0 hW
  show Calls Tryz.prog 84 #[.func (.yield l) #[] #[], .pointer (some ⟨bp, 0, none⟩)] W _
  obtain ⟨c0, c1⟩ := HG.out 0 W HJ0.out
  go_enter Tryz.func84, Tryz.ntmps84
  go_wp2_with fail
  go_loopw [9] (fun i wr => i = .int .i64 0 ∧ wr = W) (fun _ _ => 0)
  case atStart => exact ⟨rfl, rfl⟩
  case round =>
    obtain ⟨rfl, rfl⟩ := hrel
    go_wp2_with fail
    go_loopw [22] (fun i w2 => (i = .int .i64 0 ∧ w2 = wr) ∨ (i = .int .i64 1 ∧ Hid (J 2 w2))) (fun i _ => 1 - (intOf i).toNat)
    case atStart => exact .inl ⟨rfl, rfl⟩
    case round =>
      rcases hrel with ⟨rfl, rfl⟩ | ⟨rfl, hj⟩
      · go_wp2_with fail
        refine (HS.out _ (Nat.le_refl _) HJ0.out).mono ?_
        rintro e w3 (⟨rfl, h⟩ | ⟨rfl, h⟩)
        · have HH := Lib.hid h
          clear h
          go_wp2_with fail
          go_roundw
          case rel => exact .inr ⟨rfl, HH⟩
          case measure => simp [intOf]
        · have HH := Lib.hid h
          clear h
          go_wp2_with fail
          refine bodyPost_ret (results_none rfl _ _ _) rfl ?_
          obtain ⟨k, hk, h⟩ := HH.out
          exact ⟨⟨_, rfl⟩, .inr ⟨k, hk, h⟩⟩
      · go_wp2_with fail
        go_end0
        exact ⟨⟨_, rfl⟩, .inl hj.out⟩
theorem programLines_any (x y : Value) (w : World) : Calls Tryz.prog 44 #[.agg #[x, y]] w fun e w' => ∃ bp, e = .returned (.func (.func 84) #[] #[.pointer (some ⟨bp, 0, none⟩)]) ∧ w'.heap[bp]? = some (.cells #[x, y] 39 (0, 0)) ∧ w.heap.size ≤ bp ∧ Below w.heap.size w w' := by
  go_enter Tryz.func44, Tryz.ntmps44
  go_wp2_with fail
  go_ret
  exact ⟨_, rfl, heap_alloc_new w _, Nat.le_refl _, (Below.refl _ w).alloc (Nat.le_refl _) _⟩
end Go.Proofs.YtlhbledakddbbaaGreatDoor
/- A Builder: what its methods do, at this program's numbers (after the shelf's pattern). -/
namespace Go.Proofs.YtlhbledakddbbaaGreatDoor
open Go.RowKit

/-- what is no buffer stays -/
structure Keep (A B : World) : Prop where
  size : A.heap.size ≤ B.heap.size
  same : ∀ (k : Nat) (o : Obj), A.heap[k]? = some o → ¬ isBuf o → B.heap[k]? = some o
theorem Keep.refl (A : World) : Keep A A := ⟨Nat.le_refl _, fun _ _ h _ => h⟩
theorem Keep.trans {A B C : World} (h : Keep A B) (k : Keep B C) : Keep A C := ⟨Nat.le_trans h.size k.size, fun b o hb hn => k.same b o (h.same b o hb hn) hn⟩
theorem Keep.up {A B : World} (h : Keep A B) (n : Nat) : Up n A B := ⟨h.size, fun b o hb _ ho => h.same b o hb ho⟩
theorem Keep.alloc {A B : World} (h : Keep A B) (o : Obj) : Keep A (B.alloc o) := ⟨Nat.le_trans h.size (by simp), fun b o' hb ho => (Below.heap_alloc _ _ _ (lt_of_block (h.same b o' hb ho))).trans (h.same b o' hb ho)⟩
theorem Keep.setCell {A B : World} (h : Keep A B) {p : Addr} {o : Obj} (hp : B.heap[p.block]? = some o) (hb : isBuf o) (v : Value) : Keep A (B.setCell p v) :=
  ⟨Nat.le_trans h.size (by simp [World.setCell]), fun b o' h1 ho => by
    have h2 := h.same b o' h1 ho
    rw [Below.heap_setCell _ _ _ _ (fun e => by subst e; rw [hp] at h2; cases h2; exact ho hb)]; exact h2⟩
theorem buf_b (c : Array Value) (fr : Nat × Nat) : isBuf (.cells c 85 fr) := .inr rfl
theorem buf_u (c : Array Value) (fr : Nat × Nat) : isBuf (.cells c 5 fr) := .inl rfl
theorem own_buf {w : World} {B : Nat} {v : Value} {n : Nat} {xs : List Value} (h : w.ownsRow B 5 1 v n xs) {k : Nat} (hk : some k = v.ownBlock) : ∃ cur, w.heap[k]? = some (.cells cur 5 (0, 0)) := by
  rcases h.2 with ⟨hv, _⟩ | ⟨g, cap, cur, hv, _, hg, _⟩
  · subst hv; simp [Value.ownBlock] at hk
  · subst hv; simp [Value.ownBlock] at hk; subst hk; exact ⟨_, hg⟩
theorem Keep.grown {A B C : World} (h : Keep A B) {v : Value} {n : Nat} {xs : List Value} {b0 : Nat} (hown : B.ownsRow b0 5 1 v n xs) (hg : B.grownBy C v.ownBlock) : Keep A C :=
  ⟨Nat.le_trans h.size hg.size, fun k o hk ho => by
    have h2 := h.same k o hk ho
    refine (hg.block k (lt_of_block h2) (fun e => ?_)).trans h2
    obtain ⟨cur, hc⟩ := own_buf hown e
    rw [hc] at h2; cases h2; exact ho (buf_u _ _)⟩
theorem builder_block {T e : Nat} {B b : Nat} {bs : List Value} {p : Value} {w : World} (h : Lib.BuilderAt T e B b p bs w) : ∃ v, w.heap[b]? = some (.cells #[p, v] T (0, 0)) := by
  obtain ⟨_, v, hb, _⟩ := h
  exact ⟨v, hb⟩
/-- a Builder stays where buffers stay -/
theorem builder_at_rn {B b n : Nat} {bs : List Value} {p : Value} {w w' : World} (h : Lib.BuilderAt 85 5 B b p bs w) (k : Rn n w w') : Lib.BuilderAt 85 5 B b p bs w' := by
  obtain ⟨hB, v, hb, ⟨hl, ho⟩, hne⟩ := h
  refine ⟨hB, v, k.buf _ _ hb (buf_b _ _), ⟨hl, ?_⟩, hne⟩
  rcases ho with h0 | ⟨g, cap, cur, hv, hg, hc, rest⟩
  · exact .inl h0
  · exact .inr ⟨g, cap, cur, hv, hg, k.buf _ _ hc (buf_u _ _), rest⟩
theorem builder_rn {B b n : Nat} {bs : List Value} {w w' : World} (h : Lib.IsBuilder 85 5 B b bs w) (k : Rn n w w') : Lib.IsBuilder 85 5 B b bs w' :=
  h.elim (fun h => .inl (builder_at_rn h k)) (fun h => .inr (builder_at_rn h k))
theorem size_builder : (Tryz.prog.info? 85).map (·.size) = some 2 := by kernel_rfl
theorem size_ptr : ∃ j, Tryz.prog.info? 85 = some j ∧ j.size = 2 := Option.map_eq_some_iff.1 size_builder

set_option maxHeartbeats 1000000 in
set_option maxRecDepth 100000 in
theorem copyCheck_used (b : Nat) (w : World) (h0 : w.cell? ⟨b, 0, none⟩ = some (.pointer (some ⟨b, 0, none⟩))) :
    Calls Tryz.prog 87 #[.pointer (some ⟨b, 0, none⟩)] w fun e w' => e = .returned (.tuple #[]) ∧ w' = w := by
  obtain ⟨j, hj, _⟩ := size_ptr
  go_enter Tryz.func87, Tryz.ntmps87
  go_wp2_with fail
  rw [Lib.run_neq_ptr_same w _ Tryz.underlying82 hj]
  go_wp2_with fail
  go_end0
  exact ⟨rfl, rfl⟩

set_option maxHeartbeats 1000000 in
set_option maxRecDepth 100000 in
theorem copyCheck_fresh (b : Nat) (w : World) (h0 : w.cell? ⟨b, 0, none⟩ = some (.pointer none)) (hsh : w.shape? b = some (85, 2)) (hfz : w.frozen? ⟨b, 0, none⟩ = false) :
    Calls Tryz.prog 87 #[.pointer (some ⟨b, 0, none⟩)] w fun e w' => e = .returned (.tuple #[]) ∧ w' = w.setCell ⟨b, 0, none⟩ (.pointer (some ⟨b, 0, none⟩)) := by
  obtain ⟨j, hj, hjs⟩ := size_ptr
  go_enter Tryz.func87, Tryz.ntmps87
  go_wp2_with fail
  rw [Lib.run_to_unsafe w ⟨b, 0, none⟩ Tryz.underlying82 Tryz.underlying162 hj (by rw [hjs]; decide) hsh (Nat.zero_lt_succ 1)]
  simp only [Result.andThen]
  rw [Oper.upon_value]
  go_wp2_with fail
  rw [run_callFunc_extern Tryz.func128 (by kernel_rfl) (by kernel_rfl) (by kernel_rfl) (e := Extern.AbiNoEscape.same) (by kernel_rfl)]
  rw [Lib.run_noEscape]
  simp only [Result.andThen]
  rw [Oper.upon_value]
  go_wp2_with fail
  rw [Lib.run_from_unsafe w ⟨b, 0, none⟩ Tryz.underlying162 Tryz.underlying82 hj hsh Tryz.Builder_Extra_169.toX72.liesBuilder]
  simp only [Result.andThen]
  rw [Oper.upon_value]
  go_wp2_with fail
  go_end0
  exact ⟨rfl, rfl⟩

/-- copyCheck: behind it the Builder holds its own address -/
theorem copyCheck_any (B b : Nat) (bs : List Value) (w : World) (h : Lib.IsBuilder 85 5 B b bs w) :
    Calls Tryz.prog 87 #[.pointer (some ⟨b, 0, none⟩)] w fun e w' => e = .returned (.tuple #[]) ∧ (Lib.BuilderAt 85 5 B b (.pointer (some ⟨b, 0, none⟩)) bs w' ∧ Below B w w' ∧ Keep w w') := by
  rcases h with h | h
  · refine (copyCheck_fresh b w h.cell0 h.shape h.frozen0).mono ?_
    rintro e w' ⟨rfl, rfl⟩
    obtain ⟨v, hv⟩ := builder_block h
    exact ⟨rfl, h.used _, (Below.refl B w).setCell (p := ⟨b, 0, none⟩) h.1 _, (Keep.refl w).setCell (p := ⟨b, 0, none⟩) hv (buf_b _ _) _⟩
  · refine (copyCheck_used b w h.cell0).mono ?_
    rintro e w' ⟨rfl, rfl⟩
    exact ⟨rfl, h, Below.refl B _, Keep.refl _⟩

theorem info_byte' : (Tryz.prog.info? 5).map (fun i => (i.zero, i.size, i.bytes)) = some (some (.int .u8 0), 1, 1) := by kernel_rfl

set_option maxHeartbeats 2000000 in
set_option maxRecDepth 100000 in
theorem writeByte_any (B b : Nat) (bs : List Value) (c : Int) (w : World) (h : Lib.IsBuilder 85 5 B b bs w) (hlen : bs.length + 1 ≤ 140737488355328) (hBw : B ≤ w.heap.size) :
    Calls Tryz.prog 47 #[.pointer (some ⟨b, 0, none⟩), .int .u8 c] w fun e w' => e = .returned .nilIface ∧ (Lib.BuilderAt 85 5 B b (.pointer (some ⟨b, 0, none⟩)) (bs ++ [.int .u8 c]) w' ∧ Below B w w' ∧ Keep w w') := by
  obtain ⟨i0, hi, hz0, hz1, hz2⟩ := info_parts info_byte'
  go_enter Tryz.func47, Tryz.ntmps47
  go_wp2_with fail
  refine (copyCheck_any B b bs _ h).mono ?_
  rintro e w1 ⟨rfl, h1, hb1, hk1⟩
  obtain ⟨hB, v, hbk, hown, hne⟩ := h1
  have c0 : w1.cell? ⟨b, 0, none⟩ = some (.pointer (some ⟨b, 0, none⟩)) := by rw [Lib.cell_of_heap hbk]; rfl
  have c1 : w1.cell? ⟨b, 1, none⟩ = some v := by rw [Lib.cell_of_heap hbk]; rfl
  go_wp2_with (at_builtin; refine wpList_append_own _ rfl _ _ 83 rfl B 5 i0 (.int .u8 0) 1 1 Tryz.underlying83 hi hz0 hz1 hz2 rfl (by decide) _ _ _ rfl (hown.alloc _) ⟨w1.heap.size, 0, none⟩ 1 1 [.int .u8 c] rfl rfl ?c1 ?c2 ?c3 ?c4 ?c5 ?_)
  case c1 =>
    intro j u hj
    match j, hj with
    | 0, hj => simp at hj; subst hj; simp [Addr.add]
  case c2 => intro u hu; simp at hu; subst hu; rfl
  case c3 => unfold maxLen; omega
  case c4 => omega
  case c5 => have := hb1.size; simp; omega
  intro v' w2 hown' hgrow _
  have hlt : b < w1.heap.size := lt_of_block hbk
  have hb2 : w2.heap[b]? = some (.cells #[.pointer (some ⟨b, 0, none⟩), v] 85 (0, 0)) := by
    rw [hgrow.block b (by simp; omega) (fun e => hne e.symm), Lib.alloc_old w1 _ b hlt]
    exact hbk
  have d0 : w2.cell? ⟨b, 0, none⟩ = some (.pointer (some ⟨b, 0, none⟩)) := by rw [Lib.cell_of_heap hb2]; rfl
  have d1 : w2.cell? ⟨b, 1, none⟩ = some v := by rw [Lib.cell_of_heap hb2]; rfl
  have f1 : w2.frozen? ⟨b, 1, none⟩ = false := Lib.frozen_of_heap hb2 1
  obtain ⟨g, cap, rfl⟩ : ∃ g cap, v' = .slice (some ⟨g, 0, none⟩) (bs.length + 1) cap := by
    rcases hown'.2 with ⟨_, h0⟩ | ⟨g, cap, cur, hv, _⟩
    · omega
    · exact ⟨g, cap, hv⟩
  go_wp2_with fail
  go_ret
  refine ⟨rfl, ?_, ?_, ?_⟩
  · exact Lib.BuilderAt.put (T := 85) (e := 5) hB hb2 (bs' := bs ++ [.int .u8 c]) (by simpa using hown') (by decide)
  · exact ((hb1.alloc (by have := hb1.size; omega) _).grown hgrow (by have := hb1.size; simp; omega) (fun k hk => (hown.lt k hk).1)).setCell (p := ⟨b, 1, none⟩) hB _
  · exact ((hk1.alloc _).grown (hown.alloc _) hgrow).setCell (p := ⟨b, 1, none⟩) hb2 (buf_b _ _) _

set_option maxHeartbeats 2000000 in
set_option maxRecDepth 100000 in
theorem writeString_any (B b : Nat) (bs : List Value) (s : ByteArray) (w : World) (h : Lib.IsBuilder 85 5 B b bs w) (hlen : bs.length + s.size ≤ 140737488355328) (hBw : B ≤ w.heap.size) :
    Calls Tryz.prog 45 #[.pointer (some ⟨b, 0, none⟩), .string s] w fun e w' => e = .returned (.tuple #[.int .i64 s.size, .nilIface]) ∧ (Lib.BuilderAt 85 5 B b (.pointer (some ⟨b, 0, none⟩)) (bs ++ Lib.strCells s) w' ∧ Below B w w' ∧ Keep w w') := by
  obtain ⟨i0, hi, hz0, hz1, hz2⟩ := info_parts info_byte'
  go_enter Tryz.func45, Tryz.ntmps45
  go_wp2_with fail
  refine (copyCheck_any B b bs _ h).mono ?_
  rintro e w1 ⟨rfl, h1, hb1, hk1⟩
  obtain ⟨hB, v, hbk, hown, hne⟩ := h1
  have c0 : w1.cell? ⟨b, 0, none⟩ = some (.pointer (some ⟨b, 0, none⟩)) := by rw [Lib.cell_of_heap hbk]; rfl
  have c1 : w1.cell? ⟨b, 1, none⟩ = some v := by rw [Lib.cell_of_heap hbk]; rfl
  go_wp2_with (at_builtin; refine Lib.wpList_append_own_string _ rfl _ _ 83 9 rfl B 5 i0 Tryz.underlying83 Tryz.underlying9 hi hz0 hz1 hz2 _ _ _ rfl hown s rfl ?c3 ?c4 ?c5 ?_)
  case c3 => unfold maxLen; omega
  case c4 => omega
  case c5 => have := hb1.size; omega
  intro v' w2 hown' hgrow _
  have hlt : b < w1.heap.size := lt_of_block hbk
  have hb2 : w2.heap[b]? = some (.cells #[.pointer (some ⟨b, 0, none⟩), v] 85 (0, 0)) := by
    rw [hgrow.block b hlt (fun e => hne e.symm)]
    exact hbk
  have d0 : w2.cell? ⟨b, 0, none⟩ = some (.pointer (some ⟨b, 0, none⟩)) := by rw [Lib.cell_of_heap hb2]; rfl
  have d1 : w2.cell? ⟨b, 1, none⟩ = some v := by rw [Lib.cell_of_heap hb2]; rfl
  have f1 : w2.frozen? ⟨b, 1, none⟩ = false := Lib.frozen_of_heap hb2 1
  obtain ⟨ao, n', cap, rfl⟩ : ∃ ao n' cap, v' = .slice ao n' cap := by
    rcases hown'.2 with ⟨hv, _⟩ | ⟨g, cap, cur, hv, _⟩
    · exact ⟨_, _, _, hv⟩
    · exact ⟨_, _, _, hv⟩
  go_wp2_with fail
  go_ret2
  refine ⟨rfl, ?_, ?_, ?_⟩
  · exact Lib.BuilderAt.put (T := 85) (e := 5) hB hb2 (bs' := bs ++ Lib.strCells s) (by simpa [Lib.strCells_length] using hown') (by decide)
  · exact (hb1.grown hgrow (by have := hb1.size; omega) (fun k hk => (hown.lt k hk).1)).setCell (p := ⟨b, 1, none⟩) hB _
  · exact (hk1.grown hown hgrow).setCell (p := ⟨b, 1, none⟩) hb2 (buf_b _ _) _

theorem keep_freeze {A : World} {g : Nat} {cur : Array Value} (hg : A.heap[g]? = some (.cells cur 5 (0, 0))) (n : Nat) : Keep A (A.drew.freeze ⟨g, 0, none⟩ n) := by
  unfold World.freeze
  split
  · exact ⟨Nat.le_refl _, fun _ _ h _ => h⟩
  · refine ⟨?_, fun k o hk ho => ?_⟩
    · show A.heap.size ≤ (A.heap.modify g _).size
      simp
    · have hne : g ≠ k := fun e => by subst e; rw [hg] at hk; cases hk; exact ho (buf_u _ _)
      show (A.heap.modify g _)[k]? = some o
      rw [Array.getElem?_modify, if_neg hne]; exact hk

set_option maxHeartbeats 2000000 in
set_option maxRecDepth 100000 in
theorem string_any (B b : Nat) (l : List UInt8) (w : World) (h : Lib.IsBuilder 85 5 B b (Lib.byteCells l) w) (h0 : l ≠ []) :
    Calls Tryz.prog 49 #[.pointer (some ⟨b, 0, none⟩)] w fun e w' => e = .returned (.string ⟨l.toArray⟩) ∧ Below B w w' ∧ Keep w w' := by
  obtain ⟨p, hB, v, hbk, hown, hne⟩ : ∃ p, Lib.BuilderAt 85 5 B b p (Lib.byteCells l) w := by
    rcases h with h | h
    · exact ⟨_, h⟩
    · exact ⟨_, h⟩
  have hl0 : l.length ≠ 0 := by simpa using h0
  rw [Lib.byteCells_length] at hown
  obtain ⟨g, cap, cur, rfl, hbg, hg, hnc, hcm, hcs, htake⟩ : ∃ g cap cur, v = .slice (some ⟨g, 0, none⟩) l.length cap ∧ B ≤ g ∧ w.heap[g]? = some (.cells cur 5 (0, 0)) ∧ l.length ≤ cap ∧ cap ≤ maxLen ∧ cur.size = cap * 1 ∧ cur.toList.take (l.length * 1) = Lib.byteCells l := by
    rcases hown.2 with ⟨_, hz⟩ | ⟨g, cap, cur, hv, r⟩
    · exact absurd hz hl0
    · exact ⟨g, cap, cur, hv, r⟩
  have c1 : w.drew.cell? ⟨b, 1, none⟩ = some (.slice (some ⟨g, 0, none⟩) l.length cap) := by
    have : w.drew.heap[b]? = some (.cells #[p, .slice (some ⟨g, 0, none⟩) l.length cap] 85 (0, 0)) := hbk
    rw [Lib.cell_of_heap this]; rfl
  have hSD : (Builtin.unsafeSliceData_ #[83] 135 #[.slice (some ⟨g, 0, none⟩) l.length cap]).run Tryz.prog w.drew = .ok (.pointer (some ⟨g, 0, none⟩)) w.drew :=
    Lib.run_unsafeSliceData_row _ _ _ _ _ _ (by omega)
  have hUS : (Builtin.unsafeString_ #[135, 3] 9 #[.pointer (some ⟨g, 0, none⟩), .int .i64 l.length]).run Tryz.prog w.drew = .ok (.string ⟨l.toArray⟩) (w.drew.freeze ⟨g, 0, none⟩ l.length) := by
    refine Lib.run_unsafeString_row w.drew 135 3 9 5 Tryz.underlying135 Tryz.Builder_Extra_169.cellsByte g cur.size (by have hg' : w.drew.heap[g]? = some (.cells cur 5 (0, 0)) := hg; simp [World.shape?, hg']) l h0 (by omega) (by unfold maxLen at hcm; omega) ?_
    intro j x hx
    have := hown.cells (g := g) rfl j (.int .u8 x.toNat) (by simp [Lib.byteCells, hx])
    exact this
  have HK := Lib.hid (keep_freeze hg l.length)
  go_enter Tryz.func49, Tryz.ntmps49
  go_wp2_with fail
  go_region
  all_goals (go_wp2_with fail; go_ret; exact ⟨rfl, Lib.below_freeze (Below.drew (Below.refl B w)) (p := ⟨g, 0, none⟩) hbg _, HK.out⟩)

set_option maxRecDepth 100000 in
set_option maxHeartbeats 2000000 in
/-- no tabs -/
theorem repeat0 (s : ByteArray) (w : World) : Calls Tryz.prog 46 #[.string s, .int .i64 0] w fun e w' => e = .returned (.string ⟨#[]⟩) ∧ w = w' := by
  go_enter Tryz.func46, Tryz.ntmps46
  go_wp2_with fail
  go_ret
  exact ⟨rfl, rfl⟩
end Go.Proofs.YtlhbledakddbbaaGreatDoor
/- The text of a program with a function f alone. -/
namespace Go.Proofs.YtlhbledakddbbaaGreatDoor
open Go.RowKit
attribute [local go_sem] Oper.semAt_some

/-- the text behind k lines -/
def txt : Nat → List UInt8
  | 0 => []
  | 1 => [102, 110, 32, 102, 40, 41, 32, 123, 10]
  | _ => [102, 110, 32, 102, 40, 41, 32, 123, 10, 125, 10]
theorem lf_step {k : Nat} {x : Nat × List UInt8} (h : lf[k]? = some x) : ∃ s, x = (0, s) ∧ txt (k + 1) = txt k ++ (s ++ [10]) ∧ (txt k).length + s.length + 1 ≤ 100 := by
  rcases k with _ | _ | k
  · simp [lf] at h; subst h; exact ⟨_, rfl, rfl, by decide⟩
  · simp [lf] at h; subst h; exact ⟨_, rfl, rfl, by decide⟩
  · simp [lf] at h
theorem cells_app (a b : List UInt8) : Lib.byteCells (a ++ b) = Lib.byteCells a ++ Lib.byteCells b := by simp [Lib.byteCells]
theorem str_cells (s : List UInt8) : Lib.strCells (str s) = Lib.byteCells s := by simp [Lib.strCells, Lib.byteCells, str]
theorem cells_len (a : List UInt8) : (Lib.byteCells a).length = a.length := by simp [Lib.byteCells]
theorem cells_one : Lib.byteCells [10] = [.int .u8 10] := rfl

/-- what stays while Text goes through the lines -/
structure TI (w0 : World) (bp b nb : Nat) (k : Nat) (W : World) : Prop where
  pr : PrAt W bp b
  bd : Lib.IsBuilder 85 5 nb nb (Lib.byteCells (txt k)) W
  r0 : W.heap[w0.heap.size + 1]? = some (.cells #[.string ⟨#[]⟩] 9 (0, 0))
  r1 : W.heap[w0.heap.size + 2]? = some (.cells #[.int .i64 0] 29 (0, 0))
  bw : Below w0.heap.size w0 W

set_option maxRecDepth 100000 in
set_option maxHeartbeats 3200000 in
theorem text_f (b : Nat) (w : World) (h : FnAt w b) : Calls Tryz.prog 17 #[.agg #[.slice none 0 0, .slice (some ⟨b, 0, none⟩) 1 1]] w fun e w' => e = .returned (.tuple #[.string ⟨(txt 2).toArray⟩, .int .i64 0]) ∧ Below w.heap.size w w' := by
  have hbz := lt_of_block h
  have HF := Lib.hid h
  clear h
  refine (callsIn_wide (n := 4)).1 ?_
  refine callsIn_of_wp_marks Tryz.func17 rfl trivial ?_ rfl
  simp only [Tryz.ntmps17, List.size_toArray, List.length_cons, List.length_nil, Nat.reduceAdd, Nat.reduceSub, Array.replicate_succ, Array.replicate_zero, List.push_toArray, List.append_toArray, List.nil_append, List.cons_append]
  gi_wp2_with fail
  obtain ⟨w1, hw1⟩ : ∃ w1, ((w.alloc (.cells #[.slice none 0 0, .slice (some ⟨b, 0, none⟩) 1 1] 39)).alloc (.cells #[.string ⟨#[]⟩] 9)).alloc (.cells #[.int .i64 0] 29) = w1 := ⟨_, rfl⟩
  have hB1 : Below w.heap.size w w1 := by rw [← hw1]; exact (((Below.refl _ w).alloc (Nat.le_refl _) _).alloc (by simp) _).alloc (by simp; omega) _
  have k0 : w1.heap[w.heap.size]? = some (.cells #[.slice none 0 0, .slice (some ⟨b, 0, none⟩) 1 1] 39 (0, 0)) := by
    rw [← hw1, Below.heap_alloc _ _ _ (by simp; omega), Below.heap_alloc _ _ _ (by simp)]; exact heap_alloc_new w _
  have k1 : w1.heap[w.heap.size + 1]? = some (.cells #[.string ⟨#[]⟩] 9 (0, 0)) := by
    rw [← hw1, Below.heap_alloc _ _ _ (by simp)]; have := heap_alloc_new (w.alloc (.cells #[.slice none 0 0, .slice (some ⟨b, 0, none⟩) 1 1] 39)) (.cells #[.string ⟨#[]⟩] 9); simpa using this
  have k2 : w1.heap[w.heap.size + 2]? = some (.cells #[.int .i64 0] 29 (0, 0)) := by
    rw [← hw1]; have := heap_alloc_new ((w.alloc (.cells #[.slice none 0 0, .slice (some ⟨b, 0, none⟩) 1 1] 39)).alloc (.cells #[.string ⟨#[]⟩] 9)) (.cells #[.int .i64 0] 29); simpa using this
  rw [hw1]
  have HF1 := HF.out.later hbz hB1
  have l2 := lt_of_block k2
  clear hw1
  refine ⟨trivial, ?_⟩
  refine (callsIn_wide.2 (may_f b w1 HF1)).mono ?_
  rintro e w2 ⟨rfl, hB2⟩
  have hBw2 := hB1.trans (hB2.mono (Nat.le_trans (Nat.le_add_right _ 2) (Nat.le_of_lt l2)))
  obtain ⟨w3, hw3⟩ : ∃ w3, w2.alloc (.cells #[.pointer none, .slice none 0 0] 85) = w3 := ⟨_, rfl⟩
  have hB3 : Below w2.heap.size w2 w3 := by rw [← hw3]; exact (Below.refl _ w2).alloc (Nat.le_refl _) _
  have kb : w3.heap[w2.heap.size]? = some (.cells #[.pointer none, .slice none 0 0] 85 (0, 0)) := by rw [← hw3]; exact heap_alloc_new w2 _
  have z2 := hB2.size
  have z3 := hB3.size
  have m0 := (hB3.block _ (by omega)).trans ((hB2.block _ (lt_of_block k0)).trans k0)
  have m1 := (hB3.block _ (by omega)).trans ((hB2.block _ (lt_of_block k1)).trans k1)
  have m2 := (hB3.block _ (by omega)).trans ((hB2.block _ (lt_of_block k2)).trans k2)
  have hBw3 := hBw2.trans (hB3.mono (by omega))
  have hb3 : Lib.IsBuilder 85 5 w2.heap.size w2.heap.size (Lib.byteCells (txt 0)) w3 := .inl ⟨Nat.le_refl _, _, kb, World.ownsRow_nil _ _ _ _, by simp [Value.ownBlock]⟩
  have p0 : w2.cell? ⟨w.heap.size, 0, none⟩ = some (.slice none 0 0) := by simp [World.cell?, (hB2.block _ (lt_of_block k0)).trans k0]
  have p1 : w2.cell? ⟨w.heap.size, 1, none⟩ = some (.slice (some ⟨b, 0, none⟩) 1 1) := by simp [World.cell?, (hB2.block _ (lt_of_block k0)).trans k0]
  have q0 : w3.cell? ⟨w.heap.size, 0, none⟩ = some (.slice none 0 0) := by simp [World.cell?, m0]
  have q1 : w3.cell? ⟨w.heap.size, 1, none⟩ = some (.slice (some ⟨b, 0, none⟩) 1 1) := by simp [World.cell?, m0]
  gi_wp2_with fail
  refine ⟨trivial, ?_⟩
  refine (callsIn_wide.2 (programLines_any _ _ w3)).mono ?_
  rintro e w4 ⟨bp, rfl, hbp, hbz4, hB4⟩
  have z4 := hB4.size
  have lbp := lt_of_block hbp
  have HI : Hid (TI w bp b w2.heap.size 0 w4) := Lib.hid
    { pr := ⟨HF.out.later hbz (hBw3.trans (hB4.mono (by omega))), hbp⟩
      bd := builder_rn hb3 (Rn.of_below hB4 (Nat.le_refl _))
      r0 := (hB4.block _ (by omega)).trans m1
      r1 := (hB4.block _ (by omega)).trans m2
      bw := hBw3.trans (hB4.mono (by omega)) }
  have hz : w.heap.size + 2 < w2.heap.size ∧ w2.heap.size < w4.heap.size ∧ bp < w4.heap.size ∧ b < w.heap.size := by
    have := lt_of_block kb
    exact ⟨by omega, by omega, lbp, hbz⟩
  clear k0 k1 k2 l2 z2 z3 z4 m0 m1 m2 p0 p1 q0 q1 kb hw3 hb3 hB1 hB2 hB3 hB4 hBw2 hBw3 HF1 hbp hbz4 lbp HF
  generalize w2.heap.size = nb at *
  gi_wp2_with fail
  refine range_own (F := Fence.wide) rfl (by omega) (gf := 84) (lb := #[.pointer (some ⟨bp, 0, none⟩)]) rfl trivial (enters_of Tryz.func84 (by kernel_rfl) rfl)
    (programLines1_own bp b (4 - 1) w4) (Below.refl _ w4) (fun _ => rfl)
    (fun k W => TI w bp b nb k W) (fun _ _ _ => False) (fun k A h => h.pr)
    (fun k A B h hAB => ⟨⟨(hAB.bel.block b (by omega)).trans h.pr.1, (hAB.bel.block bp (by omega)).trans h.pr.2⟩, builder_rn h.bd hAB, (hAB.bel.block _ (by omega)).trans h.r0, (hAB.bel.block _ (by omega)).trans h.r1, h.bw.trans (hAB.bel.mono (by omega))⟩)
    (fun _ _ _ _ h _ => h) HI.out (fun _ _ _ => True) (fun _ _ _ _ _ _ => trivial)
    (fun x _ => ⟨#[.agg #[.slice none 0 0, .slice (some ⟨b, 0, none⟩) 1 1], .pointer (some ⟨w.heap.size, 0, none⟩), .pointer (some ⟨w.heap.size + 1, 0, none⟩), .pointer (some ⟨w.heap.size + 1 + 1, 0, none⟩), .pointer (some ⟨nb, 0, none⟩), .int .i64 0, .string (str x.2), .agg #[.slice none 0 0, .slice (some ⟨b, 0, none⟩) 1 1], .bool true, .bool false, .agg #[.slice none 0 0, .slice (some ⟨b, 0, none⟩) 1 1], .func (.func 84) #[] #[.pointer (some ⟨bp, 0, none⟩)], .int .i64 0, .string (str x.2), undef, undef, undef, undef, undef, undef, undef, undef, undef], []⟩) ?_ ?_ ?_ ?_
  · intro l k x W K hx hi hW hK
    obtain ⟨ln, rfl, _, _⟩ := lf_step hx
    simp only [encL]
    simp only [List.zip_toArray, List.zip_cons_cons, List.zip_nil_left]
    gi_wp2_with fail
    exact hK 0 _ (Below.refl _ _) trivial
  · intro l k x bb W hx hi hA hW
    obtain ⟨ln, rfl, ht, hle⟩ := lf_step hx
    have hnW : nb ≤ W.heap.size := by omega
    have hln := size_len (str ln)
    rw [str_data] at hln
    have hcl := cells_len (txt k)
    gi_wp2_with fail
    refine ⟨trivial, ?_⟩
    refine (CallsIn.inRound l (callsIn_wide.2 (repeat0 _ W))).mono ?_
    rintro e wr ⟨rfl, rfl⟩
    gi_wp2_with fail
    refine ⟨trivial, ?_⟩
    refine (CallsIn.inRound l (callsIn_wide.2 (writeString_any nb nb (Lib.byteCells (txt k)) (str []) W hi.bd (by rw [hcl]; show (txt k).length + 0 ≤ _; omega) hnW))).mono ?_
    rintro e w5 ⟨rfl, hb5, hB5, hk5⟩
    have z5 := hB5.size
    rw [str_cells, ← cells_app] at hb5
    gi_wp2_with fail
    refine ⟨trivial, ?_⟩
    refine (CallsIn.inRound l (callsIn_wide.2 (writeString_any nb nb _ (str ln) w5 (.inr hb5) (by rw [cells_len, hln]; simp; omega) (by omega)))).mono ?_
    rintro e w6 ⟨rfl, hb6, hB6, hk6⟩
    have z6 := hB6.size
    rw [str_cells, ← cells_app] at hb6
    gi_wp2_with fail
    refine ⟨trivial, ?_⟩
    refine (CallsIn.inRound l (callsIn_wide.2 (writeByte_any nb nb _ 10 w6 (.inr hb6) (by rw [cells_len]; simp; omega) (by omega)))).mono ?_
    rintro e w7 ⟨rfl, hb7, hB7, hk7⟩
    have z7 := hB7.size
    rw [← cells_one, ← cells_app] at hb7
    have ht7 : txt k ++ [] ++ ln ++ [10] = txt (k + 1) := by rw [ht]; simp
    rw [ht7] at hb7
    have hle7 : (txt (k + 1)).length ≤ 100 := by rw [ht]; simp; omega
    have HT := Lib.hid (show Up w4.heap.size W w7 ∧ TI w bp b nb (k + 1) w7 from
      ⟨(hk5.trans (hk6.trans hk7)).up _, by
        have hB : Below nb W w7 := hB5.trans (hB6.trans hB7)
        have hk := hk5.trans (hk6.trans hk7)
        exact ⟨⟨(hB.block b (by omega)).trans hi.pr.1, hk.same _ _ hi.pr.2 (by intro h; rcases h with h | h <;> exact absurd h (by decide))⟩, .inr hb7, (hB.block _ (by omega)).trans hi.r0, (hB.block _ (by omega)).trans hi.r1, hi.bw.trans (hB.mono (by omega))⟩⟩)
    have hLen := Tryz.Builder_Len nb nb _ w7 (.inr hb7)
    rw [cells_len] at hLen
    clear hb5 hb6 hb7 hB5 hB6 hB7 hk5 hk6 hk7 ht ht7 hln hcl
    gi_wp2_with fail
    refine ⟨trivial, ?_⟩
    refine (CallsIn.inRound l (callsIn_wide.2 hLen)).mono ?_
    rintro e wr ⟨rfl, rfl⟩
    have hgt : decide ((65536 : Int) < ((txt (k + 1)).length : Int)) = false := by simp; omega
    gi_wp2_with fail
    exact HT.out
  · rintro D W hD hi hDh
    replace hi : TI w bp b nb 2 W := hi
    have lW := lt_of_block hDh
    gi_wp2_with fail
    refine ⟨trivial, ?_⟩
    refine (callsIn_wide.2 (string_any nb nb (txt 2) W hi.bd (by decide))).mono ?_
    rintro e w5 ⟨rfl, hB5, hK5⟩
    have kD := hK5.same _ _ hDh (buf_def _)
    have k1 := (hB5.block _ (by omega)).trans hi.r0
    have k2 := (hB5.block _ (by omega)).trans hi.r1
    have c1 := cell_of_one k1
    have c2 := cell_of_one k2
    have f1 := free_of_one k1
    have f2 := free_of_one k2
    have hbw := hi.bw.trans (hB5.mono (by omega))
    gi_wp2_with fail
    obtain ⟨X, hX⟩ : ∃ X, w5.setCell ⟨w.heap.size + 1, 0, none⟩ (.string ⟨(txt 2).toArray⟩) = X := ⟨_, rfl⟩
    have x1 : X.heap[w.heap.size + 1]? = some (.cells #[.string ⟨(txt 2).toArray⟩] 9 (0, 0)) := by rw [← hX]; exact one_setCell k1
    have x2 : X.heap[w.heap.size + 2]? = some (.cells #[.int .i64 0] 29 (0, 0)) := by rw [← hX]; exact (Below.heap_setCell w5 _ _ _ (by show w.heap.size + 2 ≠ w.heap.size + 1; omega)).trans k2
    have xD : X.heap[D]? = some (.deferred (some [])) := by rw [← hX]; exact (Below.heap_setCell w5 _ _ _ (by show D ≠ w.heap.size + 1; omega)).trans kD
    have hbX : Below w.heap.size w X := by rw [← hX]; exact hbw.setCell (p := ⟨w.heap.size + 1, 0, none⟩) (by show w.heap.size ≤ w.heap.size + 1; omega) _
    obtain ⟨Y, hY⟩ : ∃ Y, X.setCell ⟨w.heap.size + 1 + 1, 0, none⟩ (.int .i64 0) = Y := ⟨_, rfl⟩
    have y1 : Y.heap[w.heap.size + 1]? = some (.cells #[.string ⟨(txt 2).toArray⟩] 9 (0, 0)) := by rw [← hY]; exact (Below.heap_setCell X _ _ _ (by show w.heap.size + 1 ≠ w.heap.size + 1 + 1; omega)).trans x1
    have y2 : Y.heap[w.heap.size + 1 + 1]? = some (.cells #[.int .i64 0] 29 (0, 0)) := by rw [← hY]; exact one_setCell x2
    have yD : Y.heap[D]? = some (.deferred (some [])) := by rw [← hY]; exact (Below.heap_setCell X _ _ _ (by show D ≠ w.heap.size + 1 + 1; omega)).trans xD
    have hbY : Below w.heap.size w Y := by rw [← hY]; exact hbX.setCell (p := ⟨w.heap.size + 1 + 1, 0, none⟩) (by show w.heap.size ≤ w.heap.size + 1 + 1; omega) _
    rw [hX, hY]
    have d1 : (Y.putObj D (.deferred none)).cell? ⟨w.heap.size + 1, 0, none⟩ = some (.string ⟨(txt 2).toArray⟩) := (World.cell?_of_block (World.putObj_heap_other (by show w.heap.size + 1 ≠ D; omega))).trans (cell_of_one y1)
    have d2 : (Y.putObj D (.deferred none)).cell? ⟨w.heap.size + 1 + 1, 0, none⟩ = some (.int .i64 0) := (World.cell?_of_block (World.putObj_heap_other (by show w.heap.size + 1 + 1 ≠ D; omega))).trans (cell_of_one y2)
    have hbZ : Below w.heap.size w (Y.putObj D (.deferred none)) := hbY.trans ⟨rfl, rfl, rfl, by simp, fun _ hk => World.putObj_heap_other (by omega)⟩
    refine ⟨by simp, .inl ⟨_, _, rfl, run_takeDeferred yD, ?_⟩⟩
    refine ⟨.tuple #[.string ⟨(txt 2).toArray⟩, .int .i64 0], ?_, rfl, hbZ⟩
    simp [results, Tryz.results17, go_sem, d1, d2]
  · intro D c k W hD hk h
    exact h.elim
end Go.Proofs.YtlhbledakddbbaaGreatDoor
/- The law's small functions. -/
namespace Go.Proofs.YtlhbledakddbbaaGreatDoor
open Go.RowKit

theorem num_any (v : Value) (w : World) : Calls Tryz.prog 14 #[v] w fun e w' => e = .returned v ∧ w = w' := by
  go_enter Tryz.func14, Tryz.ntmps14
  go_wp2_with fail
  go_ret
  exact ⟨rfl, rfl⟩

theorem v_any (s : ByteArray) (w : World) : Calls Tryz.prog 32 #[.string s] w fun e w' => e = .returned (.agg #[.int .i64 2, .int .u64 0, .string s, .slice none 0 0]) ∧ Below w.heap.size w w' := by
  go_enter Tryz.func32, Tryz.ntmps32
  go_wp2_with fail
  have h0 : (w.alloc (.cells #[.int .i64 2, .int .u64 0, .string s, .slice none 0 0] 26)).cell? ⟨w.heap.size, 0, none⟩ = some (#[.int .i64 2, .int .u64 0, .string s, .slice none 0 0][0]) := by simp [go_sem]
  have h1 : (w.alloc (.cells #[.int .i64 2, .int .u64 0, .string s, .slice none 0 0] 26)).cell? ⟨w.heap.size, 1, none⟩ = some (#[.int .i64 2, .int .u64 0, .string s, .slice none 0 0][1]) := by simp [go_sem]
  have h2 : (w.alloc (.cells #[.int .i64 2, .int .u64 0, .string s, .slice none 0 0] 26)).cell? ⟨w.heap.size, 2, none⟩ = some (#[.int .i64 2, .int .u64 0, .string s, .slice none 0 0][2]) := by simp [go_sem]
  have h3 : (w.alloc (.cells #[.int .i64 2, .int .u64 0, .string s, .slice none 0 0] 26)).cell? ⟨w.heap.size, 3, none⟩ = some (#[.int .i64 2, .int .u64 0, .string s, .slice none 0 0][3]) := by simp [go_sem]
  refine bodyPost_ret (v := .agg #[.int .i64 2, .int .u64 0, .string s, .slice none 0 0]) (by simp [results, Tryz.results32, go_sem]) rfl ?_
  exact ⟨rfl, (Below.refl _ _).alloc (Nat.le_refl _) _⟩

theorem c_any (n : Int) (w : World) : Calls Tryz.prog 34 #[.int .u64 n] w fun e w' => e = .returned (.agg #[.int .i64 1, .int .u64 n, .string ⟨#[]⟩, .slice none 0 0]) ∧ Below w.heap.size w w' := by
  go_enter Tryz.func34, Tryz.ntmps34
  go_wp2_with fail
  have h0 : (w.alloc (.cells #[.int .i64 1, .int .u64 n, .string ⟨#[]⟩, .slice none 0 0] 26)).cell? ⟨w.heap.size, 0, none⟩ = some (#[.int .i64 1, .int .u64 n, .string ⟨#[]⟩, .slice none 0 0][0]) := by simp [go_sem]
  have h1 : (w.alloc (.cells #[.int .i64 1, .int .u64 n, .string ⟨#[]⟩, .slice none 0 0] 26)).cell? ⟨w.heap.size, 1, none⟩ = some (#[.int .i64 1, .int .u64 n, .string ⟨#[]⟩, .slice none 0 0][1]) := by simp [go_sem]
  have h2 : (w.alloc (.cells #[.int .i64 1, .int .u64 n, .string ⟨#[]⟩, .slice none 0 0] 26)).cell? ⟨w.heap.size, 2, none⟩ = some (#[.int .i64 1, .int .u64 n, .string ⟨#[]⟩, .slice none 0 0][2]) := by simp [go_sem]
  have h3 : (w.alloc (.cells #[.int .i64 1, .int .u64 n, .string ⟨#[]⟩, .slice none 0 0] 26)).cell? ⟨w.heap.size, 3, none⟩ = some (#[.int .i64 1, .int .u64 n, .string ⟨#[]⟩, .slice none 0 0][3]) := by simp [go_sem]
  refine bodyPost_ret (v := .agg #[.int .i64 1, .int .u64 n, .string ⟨#[]⟩, .slice none 0 0]) (by simp [results, Tryz.results34, go_sem]) rfl ?_
  exact ⟨rfl, (Below.refl _ _).alloc (Nat.le_refl _) _⟩

theorem op_any (o : Int) (p : Option Addr) (n c : Nat) (w : World) : Calls Tryz.prog 31 #[.int .i64 o, .slice p n c] w fun e w' => e = .returned (.agg #[.int .i64 o, .int .u64 0, .string ⟨#[]⟩, .slice p n c]) ∧ Below w.heap.size w w' := by
  go_enter Tryz.func31, Tryz.ntmps31
  go_wp2_with fail
  have h0 : (w.alloc (.cells #[.int .i64 o, .int .u64 0, .string ⟨#[]⟩, .slice p n c] 26)).cell? ⟨w.heap.size, 0, none⟩ = some (#[.int .i64 o, .int .u64 0, .string ⟨#[]⟩, .slice p n c][0]) := by simp [go_sem]
  have h1 : (w.alloc (.cells #[.int .i64 o, .int .u64 0, .string ⟨#[]⟩, .slice p n c] 26)).cell? ⟨w.heap.size, 1, none⟩ = some (#[.int .i64 o, .int .u64 0, .string ⟨#[]⟩, .slice p n c][1]) := by simp [go_sem]
  have h2 : (w.alloc (.cells #[.int .i64 o, .int .u64 0, .string ⟨#[]⟩, .slice p n c] 26)).cell? ⟨w.heap.size, 2, none⟩ = some (#[.int .i64 o, .int .u64 0, .string ⟨#[]⟩, .slice p n c][2]) := by simp [go_sem]
  have h3 : (w.alloc (.cells #[.int .i64 o, .int .u64 0, .string ⟨#[]⟩, .slice p n c] 26)).cell? ⟨w.heap.size, 3, none⟩ = some (#[.int .i64 o, .int .u64 0, .string ⟨#[]⟩, .slice p n c][3]) := by simp [go_sem]
  refine bodyPost_ret (v := .agg #[.int .i64 o, .int .u64 0, .string ⟨#[]⟩, .slice p n c]) (by simp [results, Tryz.results31, go_sem]) rfl ?_
  exact ⟨rfl, (Below.refl _ _).alloc (Nat.le_refl _) _⟩


set_option maxHeartbeats 1600000 in
theorem tells_any (x : Ex) (p : Option Addr) (c N : Nat) (s : List UInt8) (w : World) (hx6 : x.size ≤ 1000000) (h : x.Ok w N p) (hN : N ≤ w.heap.size) (hG : Glob w) (hl : x.may = true → x.text.length ≤ 1000000000) (hR : exprR x = s) (hE : exprE x = 0) :
    Calls Tryz.prog 33 #[x.val p c, .string (str s)] w fun e w' => e = .returned (.bool true) ∧ Below w.heap.size w w' := by
  have hB0 : Below w.heap.size w (w.alloc (.cells #[.int .i64 x.op, .int .u64 (x.word : Int), .string (str x.name), .slice p x.args.len c] 26)) := (Below.refl _ _).alloc (Nat.le_refl _) _
  have HX := Lib.hid (expr_any x p c N (w.alloc (.cells #[.int .i64 x.op, .int .u64 (x.word : Int), .string (str x.name), .slice p x.args.len c] 26)) hx6 (h.later (hB0.mono hN) (Nat.le_refl _)) (by simp; omega) (hG.later hB0) hl)
  rw [hR, hE] at HX
  have HB0 := Lib.hid hB0
  unfold Ex.val at HX ⊢
  clear hR hE hl hG h hB0
  go_enter Tryz.func33, Tryz.ntmps33
  go_wp2_with fail
  refine HX.out.mono ?_
  rintro e w2 ⟨rfl, hB2⟩
  have HB2 := Lib.hid (HB0.out.trans (hB2.mono (by simp)))
  clear hB2
  go_wp2_with fail
  refine (num_any _ _).mono ?_
  rintro e w' ⟨rfl, rfl⟩
  go_wp2_with fail
  go_ret
  exact ⟨rfl, HB2.out⟩
end Go.Proofs.YtlhbledakddbbaaGreatDoor
/- The chapter's rows. -/
namespace Go.Proofs.YtlhbledakddbbaaGreatDoor
open Go.RowKit

def xX : Ex := .mk 2 0 [120] .nil
def xN (n : Nat) : Ex := .mk 1 n [] .nil
def e1 : Ex := .mk 6 0 [] (.cons xX .nil)
def e2 : Ex := .mk 2 0 [102, 111, 114] .nil
def eN : Ex := .mk 4 0 [] (.cons xX .nil)
def e3 : Ex := .mk 3 0 [114] (.cons eN .nil)
def e4 : Ex := .mk 6 0 [] (.cons xX (.cons (xN 1) .nil))
def e5 : Ex := .mk 21 0 [] (.cons (xN 1) (.cons (xN 2) (.cons (xN 3) .nil)))
theorem r1 : exprR e1 = [] ∧ exprE e1 = 2 ∧ e1.may = false ∧ e1.size ≤ 1000000 := by decide
theorem r2 : exprR e2 = [] ∧ exprE e2 = 2 ∧ e2.may = false ∧ e2.size ≤ 1000000 := by decide
theorem r3 : exprR e3 = [114, 91, 126, 120, 93] ∧ exprE e3 = 0 ∧ e3.size ≤ 1000000 ∧ e3.text.length ≤ 1000000000 := by decide
theorem dg1 : Lib.decDigits 1 = [49] := by rw [Lib.decDigits]; rfl
theorem dg2 : Lib.decDigits 2 = [50] := by rw [Lib.decDigits]; rfl
theorem dg3 : Lib.decDigits 3 = [51] := by rw [Lib.decDigits]; rfl
theorem t4 : e4.text = [40, 120, 32, 43, 32, 49, 41] := by
  have h : e4.text = [40] ++ [120] ++ [32] ++ signOf 6 ++ [32] ++ Lib.decDigits 1 ++ [41] := rfl
  rw [h, dg1]; decide
theorem t5 : e5.text = [112, 105, 99, 107, 40, 49, 44, 32, 50, 44, 32, 51, 41] := by
  have h : e5.text = [112, 105, 99, 107] ++ [40] ++ Lib.join [Lib.decDigits 1, Lib.decDigits 2, Lib.decDigits 3] [44, 32] ++ [41] := rfl
  rw [h, dg1, dg2, dg3]; decide
theorem m4 : e4.depth ≤ 64 ∧ e4.may = true ∧ e4.size ≤ 1000000 := by decide
theorem m5 : e5.depth ≤ 64 ∧ e5.may = true ∧ e5.size ≤ 1000000 := by decide
theorem exprR_ok {x : Ex} (h1 : x.depth ≤ 64) (h2 : x.may = true) (h3 : x.text.length ≤ 65536) : exprR x = x.text ∧ exprE x = 0 := by
  unfold exprR exprE
  rw [h2]
  have : ¬ (64 < x.depth ∨ true = false) := by rintro (h | h); omega; exact absurd h (by decide)
  rw [if_neg this, if_neg this, if_neg (by omega), if_neg (by omega)]
  exact ⟨rfl, rfl⟩
theorem r4 : exprR e4 = [40, 120, 32, 43, 32, 49, 41] ∧ exprE e4 = 0 ∧ e4.size ≤ 1000000 ∧ e4.text.length ≤ 1000000000 := by
  obtain ⟨h1, h2⟩ := exprR_ok m4.1 m4.2.1 (by rw [t4]; decide)
  exact ⟨by rw [h1, t4], h2, m4.2.2, by rw [t4]; decide⟩
theorem r5 : exprR e5 = [112, 105, 99, 107, 40, 49, 44, 32, 50, 44, 32, 51, 41] ∧ exprE e5 = 0 ∧ e5.size ≤ 1000000 ∧ e5.text.length ≤ 1000000000 := by
  obtain ⟨h1, h2⟩ := exprR_ok m5.1 m5.2.1 (by rw [t5]; decide)
  exact ⟨by rw [h1, t5], h2, m5.2.2, by rw [t5]; decide⟩

theorem in1 {w : World} {N : Nat} {x : Ex} {p : Option Addr} {c : Nat} (h : x.Ok w N p) (hN : N ≤ w.heap.size) :
    (Exs.cons x .nil).In (w.alloc (.cells #[.int .i64 x.op, .int .u64 (x.word : Int), .string (str x.name), .slice p x.args.len c] 26)) (w.heap.size + 1) (some ⟨w.heap.size, 0, none⟩) :=
  ⟨by show 0 + 1 ≤ _; omega, .inr ⟨_, _, rfl, Nat.lt_succ_self _, Ex.At.new h hN, trivial⟩⟩
theorem okX (w : World) (N : Nat) : xX.Ok w N none := ⟨Exs.In.nil _ _ _, by decide⟩
theorem in2 (w : World) : (Exs.cons xX (.cons (xN 1) .nil)).In (w.alloc (.cells #[.int .i64 2, .int .u64 0, .string (str [120]), .slice none 0 0, .int .i64 1, .int .u64 1, .string (str []), .slice none 0 0] 26)) (w.heap.size + 1) (some ⟨w.heap.size, 0, none⟩) :=
  ⟨by decide, .inr ⟨_, _, rfl, Nat.lt_succ_self _,
    ⟨⟨by simp [go_sem], by simp [go_sem], by simp [go_sem], by decide⟩, ⟨none, 0, by simp [go_sem, Exs.len], Exs.In.nil _ _ _⟩⟩,
    ⟨⟨by simp [go_sem], by simp [go_sem], by simp [go_sem], by decide⟩, ⟨none, 0, by simp [go_sem, Exs.len], Exs.In.nil _ _ _⟩⟩, trivial⟩⟩
theorem in3 (w : World) : (Exs.cons (xN 1) (.cons (xN 2) (.cons (xN 3) .nil))).In (w.alloc (.cells #[.int .i64 1, .int .u64 1, .string (str []), .slice none 0 0, .int .i64 1, .int .u64 2, .string (str []), .slice none 0 0, .int .i64 1, .int .u64 3, .string (str []), .slice none 0 0] 26)) (w.heap.size + 1) (some ⟨w.heap.size, 0, none⟩) :=
  ⟨by decide, .inr ⟨_, _, rfl, Nat.lt_succ_self _,
    ⟨⟨by simp [go_sem], by simp [go_sem], by simp [go_sem], by decide⟩, ⟨none, 0, by simp [go_sem, Exs.len], Exs.In.nil _ _ _⟩⟩,
    ⟨⟨by simp [go_sem], by simp [go_sem], by simp [go_sem], by decide⟩, ⟨none, 0, by simp [go_sem, Exs.len], Exs.In.nil _ _ _⟩⟩,
    ⟨⟨by simp [go_sem], by simp [go_sem], by simp [go_sem], by decide⟩, ⟨none, 0, by simp [go_sem, Exs.len], Exs.In.nil _ _ _⟩⟩, trivial⟩⟩

set_option maxRecDepth 100000 in
set_option maxHeartbeats 6400000 in
theorem known_any (w : World) (hG : Glob w) : Calls Tryz.prog 9 #[] w fun e w' => e = .returned (.bool true) ∧ Below w.heap.size w w' := by
  have HT := Lib.hid (text_f w.heap.size (w.alloc (.cells #[.string ⟨#[102]⟩, .slice none 0 0, .slice none 0 0, .slice none 0 0, .slice none 0 0] 49)) (heap_alloc_new w _))
  have HG := Lib.hid (fun w' (h : Below w.heap.size w w') => hG.later h)
  clear hG
  go_enter Tryz.func9, Tryz.ntmps9
  go_wp2_with fail
  refine HT.out.mono ?_
  rintro e w1 ⟨rfl, hB⟩
  have HB1 := Lib.hid (((Below.refl _ w).alloc (Nat.le_refl _) _).trans (hB.mono (by simp)))
  clear hB HT
  go_wp2_with fail
  -- region 2
  refine (v_any _ w1).mono ?_
  rintro e w2 ⟨rfl, hB⟩
  have HB2 := Lib.hid (HB1.out.trans (hB.mono HB1.out.size))
  clear hB
  go_wp2_with fail
  refine (op_any _ _ _ _ _).mono ?_
  rintro e w3 ⟨rfl, hB⟩
  have HI := Lib.hid (((in1 (c := 0) (okX w2 0) (Nat.zero_le _))).later (hB.mono (by simp)) (show w2.heap.size + 1 ≤ w3.heap.size by have := hB.size; simpa using this))
  have HB3 := Lib.hid (HB2.out.trans ((((Below.refl _ w2).alloc (Nat.le_refl _) _).trans (hB.mono (by simp))).mono HB2.out.size))
  clear hB
  go_wp2_with fail
  have HX := Lib.hid (expr_any e1 (some ⟨w2.heap.size, 0, none⟩) 1 w3.heap.size w3 r1.2.2.2 ⟨HI.out, by decide⟩ (Nat.le_refl _) (HG.out _ HB3.out) (fun h => absurd (r1.2.2.1.symm.trans h) (by decide)))
  rw [r1.1, r1.2.1] at HX
  refine HX.out.mono ?_
  rintro e w4 ⟨rfl, hB⟩
  have HB4 := Lib.hid (HB3.out.trans (hB.mono HB3.out.size))
  clear hB HX HI HB2 HB3 HB1
  go_wp2_with fail
  -- region 3
  refine (v_any _ w4).mono ?_
  rintro e w5 ⟨rfl, hB⟩
  have HB5 := Lib.hid (HB4.out.trans (hB.mono HB4.out.size))
  clear hB
  go_wp2_with fail
  have HX := Lib.hid (expr_any e2 none 0 0 w5 r2.2.2.2 ⟨Exs.In.nil _ _ _, by decide⟩ (Nat.zero_le _) (HG.out _ HB5.out) (fun h => absurd (r2.2.2.1.symm.trans h) (by decide)))
  rw [r2.1, r2.2.1] at HX
  refine HX.out.mono ?_
  rintro e w6 ⟨rfl, hB⟩
  have HB6 := Lib.hid (HB5.out.trans (hB.mono HB5.out.size))
  clear hB HX HB4 HB5
  go_wp2_with fail
  -- region 4
  refine (v_any _ w6).mono ?_
  rintro e w7 ⟨rfl, hB⟩
  have HB7 := Lib.hid (HB6.out.trans (hB.mono HB6.out.size))
  clear hB
  go_wp2_with fail
  refine (op_any _ _ _ _ _).mono ?_
  rintro e w8 ⟨rfl, hB⟩
  have hI8 := (in1 (c := 0) (okX w7 0) (Nat.zero_le _)).later (hB.mono (by simp)) (show w7.heap.size + 1 ≤ w8.heap.size by have := hB.size; simpa using this)
  have hN8 : eN.Ok w8 w8.heap.size (some ⟨w7.heap.size, 0, none⟩) := ⟨hI8, by decide⟩
  have hI9 := in1 (c := 1) hN8 (Nat.le_refl _)
  have HB8 := Lib.hid (HB7.out.trans ((((Below.refl _ w7).alloc (Nat.le_refl _) _).trans (hB.mono (by simp))).mono HB7.out.size))
  clear hB
  obtain ⟨w9, hw9⟩ : ∃ w9, w8.alloc (.cells #[.int .i64 4, .int .u64 0, .string ⟨#[]⟩, .slice (some ⟨w7.heap.size, 0, none⟩) 1 1] 26) = w9 := ⟨_, rfl⟩
  obtain ⟨w10, hw10⟩ : ∃ w10, w9.alloc (.cells #[.int .i64 3, .int .u64 0, .string ⟨#[114]⟩, .slice (some ⟨w8.heap.size, 0, none⟩) 1 1] 26) = w10 := ⟨_, rfl⟩
  go_wp2_with fail
  have hz9 : w9.heap.size = w8.heap.size + 1 := by rw [← hw9]; simp
  have hz10 : w10.heap.size = w9.heap.size + 1 := by rw [← hw10]; simp
  have hB9 : Below w8.heap.size w8 w9 := by rw [← hw9]; exact (Below.refl _ _).alloc (Nat.le_refl _) _
  have hB10 : Below w9.heap.size w9 w10 := by rw [← hw10]; exact (Below.refl _ _).alloc (Nat.le_refl _) _
  have hI9' : (Exs.cons eN .nil).In w9 (w8.heap.size + 1) (some ⟨w8.heap.size, 0, none⟩) := by rw [← hw9]; exact hI9
  have k7 : w10.heap[w9.heap.size]? = some (.cells #[.int .i64 3, .int .u64 0, .string ⟨#[114]⟩, .slice (some ⟨w8.heap.size, 0, none⟩) 1 1] 26 (0, 0)) := by rw [← hw10]; exact heap_alloc_new w9 _
  have hI10 := hI9'.later (hB10.mono (by omega)) (show w8.heap.size + 1 ≤ w10.heap.size by omega)
  have HE3 := Lib.hid (show ∀ W, Below w10.heap.size w10 W → e3.Ok W W.heap.size (some ⟨w8.heap.size, 0, none⟩) ∧ W.cell? ⟨w9.heap.size, 0, none⟩ = some (.int .i64 3) ∧ W.cell? ⟨w9.heap.size, 1, none⟩ = some (.int .u64 0) ∧ W.cell? ⟨w9.heap.size, 2, none⟩ = some (.string ⟨#[114]⟩) ∧ W.cell? ⟨w9.heap.size, 3, none⟩ = some (.slice (some ⟨w8.heap.size, 0, none⟩) 1 1) from fun W hW => by
    have k := (hW.block _ (lt_of_block k7)).trans k7
    refine ⟨⟨hI10.later hW hW.size, by decide⟩, ?_, ?_, ?_, ?_⟩ <;> simp [World.cell?, k])
  have HB10 := Lib.hid (HB8.out.trans ((hB9.trans (hB10.mono (by omega))).mono HB8.out.size))
  clear hI8 hN8 hI9 hI9' hI10 k7 hB9 hB10 hz9 hz10 hw9 hw10 HB6 HB7 HB8
  generalize w9.heap.size = n9 at HE3 ⊢
  generalize w8.heap.size = n8 at HE3 ⊢
  -- region 5
  have step : ∀ {A B : World}, Below w10.heap.size w10 A → Below A.heap.size A B → Below w10.heap.size w10 B := fun h k => h.trans (k.mono h.size)
  refine (v_any _ w10).mono ?_
  rintro e w11 ⟨rfl, hB11⟩
  go_wp2_with fail
  refine (c_any _ w11).mono ?_
  rintro e w12 ⟨rfl, hB⟩
  have HB12 := Lib.hid (step hB11 hB)
  clear hB hB11
  go_wp2_with fail
  refine (op_any _ _ _ _ _).mono ?_
  rintro e w13 ⟨rfl, hB⟩
  have hI := Lib.hid ((in2 w12).later (hB.mono (by simp)) (show w12.heap.size + 1 ≤ w13.heap.size by have := hB.size; simpa using this))
  have HB13 := Lib.hid (step HB12.out (((Below.refl _ w12).alloc (Nat.le_refl _) _).trans (hB.mono (by simp))))
  clear hB HB12
  have HX := Lib.hid (tells_any e4 (some ⟨w12.heap.size, 0, none⟩) 2 w13.heap.size _ w13 r4.2.2.1 ⟨hI.out, by decide⟩ (Nat.le_refl _) (HG.out _ (HB10.out.trans (HB13.out.mono HB10.out.size))) (fun _ => r4.2.2.2) r4.1 r4.2.1)
  go_wp2_with fail
  refine HX.out.mono ?_
  rintro e w14 ⟨rfl, hB⟩
  have HB14 := Lib.hid (step HB13.out hB)
  clear hB HX hI HB13
  obtain ⟨ok3, c30, c31, c32, c33⟩ := HE3.out w14 HB14.out
  have HX := Lib.hid (tells_any e3 (some ⟨n8, 0, none⟩) 1 w14.heap.size _ w14 r3.2.2.1 ok3 (Nat.le_refl _) (HG.out _ (HB10.out.trans (HB14.out.mono HB10.out.size))) (fun _ => r3.2.2.2) r3.1 r3.2.1)
  clear ok3
  go_wp2_with fail
  refine HX.out.mono ?_
  rintro e w15 ⟨rfl, hB⟩
  have HB15 := Lib.hid (step HB14.out hB)
  clear hB HX c30 c31 c32 c33 HE3 HB14
  go_wp2_with fail
  refine (c_any _ w15).mono ?_
  rintro e w16 ⟨rfl, hB⟩
  have HB16 := Lib.hid (step HB15.out hB)
  clear hB HB15
  go_wp2_with fail
  refine (c_any _ w16).mono ?_
  rintro e w17 ⟨rfl, hB⟩
  have HB17 := Lib.hid (step HB16.out hB)
  clear hB HB16
  go_wp2_with fail
  refine (c_any _ w17).mono ?_
  rintro e w18 ⟨rfl, hB⟩
  have HB18 := Lib.hid (step HB17.out hB)
  clear hB HB17
  go_wp2_with fail
  refine (op_any _ _ _ _ _).mono ?_
  rintro e w19 ⟨rfl, hB⟩
  have hI := Lib.hid ((in3 w18).later (hB.mono (by simp)) (show w18.heap.size + 1 ≤ w19.heap.size by have := hB.size; simpa using this))
  have HB19 := Lib.hid (step HB18.out (((Below.refl _ w18).alloc (Nat.le_refl _) _).trans (hB.mono (by simp))))
  clear hB HB18
  have HX := Lib.hid (tells_any e5 (some ⟨w18.heap.size, 0, none⟩) 3 w19.heap.size _ w19 r5.2.2.1 ⟨hI.out, by decide⟩ (Nat.le_refl _) (HG.out _ (HB10.out.trans (HB19.out.mono HB10.out.size))) (fun _ => r5.2.2.2) r5.1 r5.2.1)
  go_wp2_with fail
  refine HX.out.mono ?_
  rintro e w20 ⟨rfl, hB⟩
  have HBz := Lib.hid (HB10.out.trans ((step HB19.out hB).mono HB10.out.size))
  clear hB HX hI HB19 HB10 step HG
  have ht : (⟨(txt 2).toArray⟩ : ByteArray) = ⟨#[102, 110, 32, 102, 40, 41, 32, 123, 10, 125, 10]⟩ := rfl
  rw [ht]
  go_wp2_with fail
  refine (num_any _ _).mono ?_
  rintro e wq ⟨rfl, rfl⟩
  go_wp2_with fail
  refine (num_any _ _).mono ?_
  rintro e wq ⟨rfl, rfl⟩
  go_wp2_with fail
  refine (num_any _ _).mono ?_
  rintro e wq ⟨rfl, rfl⟩
  go_wp2_with fail
  go_ret
  exact ⟨rfl, HBz.out⟩
end Go.Proofs.YtlhbledakddbbaaGreatDoor
