/- The text of an expression that may be: the document's Expr. -/
import Derived.Test.YtlhbledakddbbaaGreatDoorF1
import Derived.Test.YtlhbledakddbbaaGreatDoorF2
import Derived.Test.YtlhbledakddbbaaGreatDoorF3
import Derived.Laws.Concat
namespace Go.Proofs.YtlhbledakddbbaaGreatDoor
open Go.RowKit

theorem ret_strE {a b : ByteArray} (h : a = b) : Ending.returned (.string a) = .returned (.string b) := by rw [h]
theorem str_app (a b : List UInt8) : str a ++ str b = str (a ++ b) := ByteArray.mk_append_mk _ _
theorem add_str (a b : List UInt8) (h : a.length + b.length ≤ 9000000) (w : World) : (Op.stringOp .add (str a) (str b)).run Tryz.prog w = .ok (.string (str (a ++ b))) w := by
  rw [run_string_add_sum w _ _ (by rw [size_str, size_str]; omega), str_app]
def RE (n : Nat) : Prop := ∀ x : Ex, x.size < n → x.may = true → x.text.length ≤ 1000000 → ∀ (p : Option Addr) (c N : Nat) (w : World), x.Ok w N p → N ≤ w.heap.size → Glob w →
    Calls Tryz.prog 15 #[x.val p c] w fun e w' => e = .returned (.string (str x.text)) ∧ Below w.heap.size w w'

set_option maxRecDepth 100000 in
set_option maxHeartbeats 6400000 in
theorem re_index (n : Nat) (ih : RE n) (wd : Nat) (nm : List UInt8) (b2 o2 c N : Nat) (w : World) (hG : Glob w) (hN : N ≤ w.heap.size) (hbN : b2 < N) (y0 : Ex) (hs0 : y0.size < n) (hm0 : y0.may = true) (hy0 : y0.At w N b2 (o2)) (hl : (Ex.mk 3 wd nm (.cons y0 .nil)).text.length ≤ 1000000) :
    Calls Tryz.prog 15 #[.agg #[.int .i64 3, .int .u64 (wd : Int), .string (str nm), .slice (some ⟨b2, o2, none⟩) 1 c]] w fun e w' => e = .returned (.string (str (Ex.mk 3 wd nm (.cons y0 .nil)).text)) ∧ Below w.heap.size w w' := by
  have ht : (Ex.mk 3 wd nm (.cons y0 .nil)).text = (nm ++ [91] ++ y0.text) ++ [93] := rfl
  have hlen : nm.length + y0.text.length ≤ 1000000 := by rw [ht] at hl; simp at hl; omega
  obtain ⟨W1, hW1⟩ : ∃ W1, w.alloc (.cells #[.int .i64 3, .int .u64 (wd : Int), .string (str nm), .slice (some ⟨b2, o2, none⟩) 1 c] 26) = W1 := ⟨_, rfl⟩
  have HB1 := Lib.hid (show Below w.heap.size w W1 by rw [← hW1]; exact (Below.refl _ _).alloc (Nat.le_refl _) _)
  have HX := Lib.hid (fun w1 hb => cells_later (w0 := W1) (w1 := w1) (b := w.heap.size) (A := #[.int .i64 3, .int .u64 (wd : Int), .string (str nm), .slice (some ⟨b2, o2, none⟩) 1 c]) (t := 26) (by rw [← hW1]; exact heap_alloc_new w _) hb)
  have x0 : W1.cell? ⟨w.heap.size, 0, none⟩ = some (.int .i64 3) := HX.out _ (Below.refl _ _) 0 _ rfl
  have x1 : W1.cell? ⟨w.heap.size, 1, none⟩ = some (.int .u64 (wd : Int)) := HX.out _ (Below.refl _ _) 1 _ rfl
  have x2 : W1.cell? ⟨w.heap.size, 2, none⟩ = some (.string (str nm)) := HX.out _ (Below.refl _ _) 2 _ rfl
  have x3 : W1.cell? ⟨w.heap.size, 3, none⟩ = some (.slice (some ⟨b2, o2, none⟩) 1 c) := HX.out _ (Below.refl _ _) 3 _ rfl
  have hbw : b2 < w.heap.size := by omega
  have hb2 : b2 < W1.heap.size := by have := HB1.out.size; omega
  obtain ⟨q0, c0, e00, e01, e02, e03, ok0⟩ := hy0.open'
  have d00 : W1.cell? ⟨b2, o2, none⟩ = some (.int .i64 y0.op) := (HB1.out.cell hbw).trans e00
  have d01 : W1.cell? ⟨b2, o2 + 1, none⟩ = some (.int .u64 (y0.word : Int)) := (HB1.out.cell hbw).trans e01
  have d02 : W1.cell? ⟨b2, o2 + 2, none⟩ = some (.string (str y0.name)) := (HB1.out.cell hbw).trans e02
  have d03 : W1.cell? ⟨b2, o2 + 3, none⟩ = some (.slice q0 y0.args.len c0) := (HB1.out.cell hbw).trans e03
  have HC0 := Lib.hid (fun (w1 : World) (hb : Below W1.heap.size W1 w1) => ih y0 hs0 hm0 (by omega) q0 c0 w1.heap.size w1 (ok0.later ((HB1.out.trans (hb.mono HB1.out.size)).mono hN) (Nat.le_trans hN (HB1.out.trans (hb.mono HB1.out.size)).size)) (Nat.le_refl _) (hG.later (HB1.out.trans (hb.mono HB1.out.size))))
  unfold Ex.val at HC0
  clear e00 e01 e02 e03 ok0 hy0 hs0 hm0
  obtain ⟨A0, hA0⟩ : ∃ A, A = str y0.text := ⟨_, rfl⟩
  rw [← hA0] at HC0
  obtain ⟨B2, hB2⟩ : ∃ B, B = str (nm ++ [91]) := ⟨_, rfl⟩
  obtain ⟨B8, hB8⟩ : ∃ B, B = str ((nm ++ [91]) ++ y0.text) := ⟨_, rfl⟩
  obtain ⟨B9, hB9⟩ : ∃ B, B = str ((nm ++ [91] ++ y0.text) ++ [93]) := ⟨_, rfl⟩
  have qB2 : ∀ w : World, (Op.stringOp .add (str nm) ⟨#[91]⟩).run Tryz.prog w = .ok (.string B2) w := fun w => by
    (try rw [hB2]); (try rw [Nat.add_zero]); (try rw [Nat.add_zero]); exact add_str (nm) ([91]) (by simp; omega) w
  have qB8 : ∀ w : World, (Op.stringOp .add B2 A0).run Tryz.prog w = .ok (.string B8) w := fun w => by
    (try rw [hB8]); (try rw [hB2]); (try rw [hA0]); exact add_str ((nm ++ [91])) (y0.text) (by simp; omega) w
  have qB9 : ∀ w : World, (Op.stringOp .add B8 ⟨#[93]⟩).run Tryz.prog w = .ok (.string B9) w := fun w => by
    (try rw [hB9]); (try rw [hB8]); (try rw [Nat.add_zero]); exact add_str ((nm ++ [91] ++ y0.text)) ([93]) (by simp; omega) w
  have HF := Lib.hid (show str (Ex.mk 3 wd nm (.cons y0 .nil)).text = B9 by rw [ht, hB9])
  clear hA0 hB2 hB8 hB9
  clear hl ht ih hG
  go_enter Tryz.func15, Tryz.ntmps15
  go_wp2_with fail
  clear hW1 x0 x1 x2 x3
  have HS : Below W1.heap.size W1 W1.drew := (Below.refl _ _).drew
  refine wp_region_held_drew (S := fun W => Below W1.heap.size W1 W ∧ W.cell? ⟨w.heap.size, 2, none⟩ = some (.string (str nm)) ∧ W.cell? ⟨w.heap.size, 3, none⟩ = some (.slice (some ⟨b2, o2, none⟩) 1 c) ∧ W.cell? ⟨b2, o2, none⟩ = some (.int .i64 y0.op) ∧ W.cell? ⟨b2, o2 + 1, none⟩ = some (.int .u64 (y0.word : Int)) ∧ W.cell? ⟨b2, o2 + 2, none⟩ = some (.string (str y0.name)) ∧ W.cell? ⟨b2, o2 + 3, none⟩ = some (.slice q0 y0.args.len c0)) (by kernel_rfl) ?_ (fun hHeld => ?_)
  · exact ⟨HS, HX.out _ HS 2 _ rfl, HX.out _ HS 3 _ rfl, (HS.cell hb2).trans d00, (HS.cell hb2).trans d01, (HS.cell hb2).trans d02, (HS.cell hb2).trans d03⟩
  refine wpAnyH_take (i := 0) (oi := { dst := Option.some 16, op := Go.Op.fieldAddr 26 (Go.Operand.tmp 1) 2, type := 0, pos := "ref.go:213", after := #[], guard := Option.none }) (v := ?_) rfl (by kernel_rfl) (by kernel_rfl) (by kernel_rfl) (fun _ _ _ h => h) (Or.inl ⟨by rfl, ?_⟩) (by assumption) ?_
  rotate_left
  · (intro w hSw; (try dsimp only at hSw); go_simp; try with_reducible rfl)
  try simp only [Act.put, List.setIfInBounds_toArray, List.set_cons_zero, List.set_cons_succ]
  refine wpAnyH_take (i := 1) (oi := { dst := Option.some 17, op := Go.Op.load 9 (Go.Operand.tmp 16), type := 9, pos := "ref.go:213", after := #[{ on := 0, ground := Go.Ground.data }], guard := Option.none }) (v := ?_) rfl (by kernel_rfl) (by kernel_rfl) (by kernel_rfl) (fun _ _ _ h => h) (Or.inl ⟨by rfl, ?_⟩) (by assumption) ?_
  rotate_left
  · (intro w hSw; (try dsimp only at hSw); go_simp; try with_reducible rfl)
  try simp only [Act.put, List.setIfInBounds_toArray, List.set_cons_zero, List.set_cons_succ]
  refine wpAnyH_take (i := 3) (oi := { dst := Option.some 19, op := Go.Op.fieldAddr 26 (Go.Operand.tmp 1) 3, type := 0, pos := "ref.go:213", after := #[], guard := Option.none }) (v := ?_) rfl (by kernel_rfl) (by kernel_rfl) (by kernel_rfl) (fun _ _ _ h => h) (Or.inl ⟨by rfl, ?_⟩) (by assumption) ?_
  rotate_left
  · (intro w hSw; (try dsimp only at hSw); go_simp; try with_reducible rfl)
  try simp only [Act.put, List.setIfInBounds_toArray, List.set_cons_zero, List.set_cons_succ]
  refine wpAnyH_take (i := 4) (oi := { dst := Option.some 20, op := Go.Op.load 24 (Go.Operand.tmp 19), type := 24, pos := "ref.go:213", after := #[{ on := 3, ground := Go.Ground.data }], guard := Option.none }) (v := ?_) rfl (by kernel_rfl) (by kernel_rfl) (by kernel_rfl) (fun _ _ _ h => h) (Or.inl ⟨by rfl, ?_⟩) (by assumption) ?_
  rotate_left
  · (intro w hSw; (try dsimp only at hSw); go_simp; try with_reducible rfl)
  try simp only [Act.put, List.setIfInBounds_toArray, List.set_cons_zero, List.set_cons_succ]
  refine wpAnyH_take (i := 5) (oi := { dst := Option.some 21, op := Go.Op.indexAddr 24 (Go.Operand.tmp 20) (Go.Operand.const (Go.Value.int Go.IntKind.i64 0)), type := 0, pos := "ref.go:213", after := #[{ on := 4, ground := Go.Ground.data }], guard := Option.none }) (v := ?_) rfl (by kernel_rfl) (by kernel_rfl) (by kernel_rfl) (fun _ _ _ h => h) (Or.inl ⟨by rfl, ?_⟩) (by assumption) ?_
  rotate_left
  · (intro w hSw; (try dsimp only at hSw); go_simp; try with_reducible rfl)
  try simp only [Act.put, List.setIfInBounds_toArray, List.set_cons_zero, List.set_cons_succ]
  refine wpAnyH_take (i := 6) (oi := { dst := Option.some 22, op := Go.Op.load 26 (Go.Operand.tmp 21), type := 26, pos := "ref.go:213", after := #[{ on := 5, ground := Go.Ground.data }], guard := Option.none }) (v := ?_) rfl (by kernel_rfl) (by kernel_rfl) (by kernel_rfl) (fun _ _ _ h => h) (Or.inl ⟨by rfl, ?_⟩) (by assumption) ?_
  rotate_left
  · (intro w hSw; (try dsimp only at hSw); go_simp; try with_reducible rfl)
  try simp only [Act.put, List.setIfInBounds_toArray, List.set_cons_zero, List.set_cons_succ]
  refine wpAnyH_take (i := 2) (oi := { dst := Option.some 18, op := Go.Op.binOp Go.BinOp.add 9 (Go.Operand.tmp 17) (Go.Operand.const (Go.Value.string { data := #[91] })) 9, type := 9, pos := "ref.go:213", after := #[{ on := 1, ground := Go.Ground.data }], guard := Option.none }) (v := .string B2) rfl (by kernel_rfl) (by kernel_rfl) (by kernel_rfl) (fun _ _ _ h => h) (Or.inl ⟨by rfl, ?_⟩) (by assumption) ?_
  · (intro w hSw; (try dsimp only at hSw); go_simp)
  try simp only [Act.put, List.setIfInBounds_toArray, List.set_cons_zero, List.set_cons_succ]
  refine wpAnyH_ready (rs := [7]) (by kernel_rfl) (by simp) ?_
  refine AllReadyH.cons (o := { dst := Option.some 23, op := Go.Op.call { callee := Go.Callee.value (Go.Operand.func 15), args := #[Go.Operand.tmp 22], argTypes := #[26] }, type := 9, pos := "ref.go:213", after := #[{ on := 6, ground := Go.Ground.data }], guard := Option.none }) rfl (fun K hK => ?_) AllReadyH.nil
  go_simp
  refine (HC0.out _ HS).mono ?_
  rintro z wa ⟨rfl, hB'⟩
  replace HS := HS.trans (hB'.mono HS.size)
  clear hB'
  refine hK.out _ _ ?_ (fun hHeld => ?_)
  · exact ⟨HS, HX.out _ HS 2 _ rfl, HX.out _ HS 3 _ rfl, (HS.cell hb2).trans d00, (HS.cell hb2).trans d01, (HS.cell hb2).trans d02, (HS.cell hb2).trans d03⟩
  clear hK K
  try simp only [Act.put, List.setIfInBounds_toArray, List.set_cons_zero, List.set_cons_succ]
  refine wpAnyH_take (i := 8) (oi := { dst := Option.some 24, op := Go.Op.binOp Go.BinOp.add 9 (Go.Operand.tmp 18) (Go.Operand.tmp 23) 9, type := 9, pos := "ref.go:213", after := #[{ on := 2, ground := Go.Ground.data }, { on := 7, ground := Go.Ground.data }], guard := Option.none }) (v := .string B8) rfl (by kernel_rfl) (by kernel_rfl) (by kernel_rfl) (fun _ _ _ h => h) (Or.inl ⟨by rfl, ?_⟩) (by assumption) ?_
  · (intro w hSw; (try dsimp only at hSw); go_simp)
  try simp only [Act.put, List.setIfInBounds_toArray, List.set_cons_zero, List.set_cons_succ]
  refine wpAnyH_take (i := 9) (oi := { dst := Option.some 25, op := Go.Op.binOp Go.BinOp.add 9 (Go.Operand.tmp 24) (Go.Operand.const (Go.Value.string { data := #[93] })) 9, type := 9, pos := "ref.go:213", after := #[{ on := 8, ground := Go.Ground.data }], guard := Option.none }) (v := .string B9) rfl (by kernel_rfl) (by kernel_rfl) (by kernel_rfl) (fun _ _ _ h => h) (Or.inl ⟨by rfl, ?_⟩) (by assumption) ?_
  · (intro w hSw; (try dsimp only at hSw); go_simp)
  try simp only [Act.put, List.setIfInBounds_toArray, List.set_cons_zero, List.set_cons_succ]
  refine wpAnyH_take (i := 10) (oi := { dst := Option.some 2, op := Go.Op.assign (Go.Operand.tmp 25), type := 9, pos := "ref.go:213", after := #[{ on := 9, ground := Go.Ground.data }, { on := 7, ground := Go.Ground.chain }, { on := 0, ground := Go.Ground.phase }, { on := 1, ground := Go.Ground.phase }, { on := 2, ground := Go.Ground.phase }, { on := 3, ground := Go.Ground.phase }, { on := 4, ground := Go.Ground.phase }, { on := 5, ground := Go.Ground.phase }, { on := 6, ground := Go.Ground.phase }, { on := 7, ground := Go.Ground.phase }, { on := 8, ground := Go.Ground.phase }, { on := 9, ground := Go.Ground.phase }], guard := Option.none }) (v := ?_) rfl (by kernel_rfl) (by kernel_rfl) (by kernel_rfl) (fun _ _ _ h => h) (Or.inl ⟨by rfl, ?_⟩) (by assumption) ?_
  rotate_left
  · (intro w hSw; (try dsimp only at hSw); go_simp; try with_reducible rfl)
  try simp only [Act.put, List.setIfInBounds_toArray, List.set_cons_zero, List.set_cons_succ]
  refine wpAnyH_done (by kernel_rfl) ?_ _
  have HE := Lib.hid (HB1.out.trans (HS.mono HB1.out.size))
  go_wp2_with fail
  go_ret
  exact ⟨ret_strE HF.out.symm, HE.out⟩

set_option maxRecDepth 100000 in
set_option maxHeartbeats 6400000 in
theorem re_not (n : Nat) (ih : RE n) (wd : Nat) (nm : List UInt8) (b2 o2 c N : Nat) (w : World) (hG : Glob w) (hN : N ≤ w.heap.size) (hbN : b2 < N) (y0 : Ex) (hs0 : y0.size < n) (hm0 : y0.may = true) (hy0 : y0.At w N b2 (o2)) (hl : (Ex.mk 4 wd nm (.cons y0 .nil)).text.length ≤ 1000000) :
    Calls Tryz.prog 15 #[.agg #[.int .i64 4, .int .u64 (wd : Int), .string (str nm), .slice (some ⟨b2, o2, none⟩) 1 c]] w fun e w' => e = .returned (.string (str (Ex.mk 4 wd nm (.cons y0 .nil)).text)) ∧ Below w.heap.size w w' := by
  have ht : (Ex.mk 4 wd nm (.cons y0 .nil)).text = [126] ++ y0.text := rfl
  have hlen : y0.text.length ≤ 1000000 := by rw [ht] at hl; simp at hl; omega
  obtain ⟨W1, hW1⟩ : ∃ W1, w.alloc (.cells #[.int .i64 4, .int .u64 (wd : Int), .string (str nm), .slice (some ⟨b2, o2, none⟩) 1 c] 26) = W1 := ⟨_, rfl⟩
  have HB1 := Lib.hid (show Below w.heap.size w W1 by rw [← hW1]; exact (Below.refl _ _).alloc (Nat.le_refl _) _)
  have HX := Lib.hid (fun w1 hb => cells_later (w0 := W1) (w1 := w1) (b := w.heap.size) (A := #[.int .i64 4, .int .u64 (wd : Int), .string (str nm), .slice (some ⟨b2, o2, none⟩) 1 c]) (t := 26) (by rw [← hW1]; exact heap_alloc_new w _) hb)
  have x0 : W1.cell? ⟨w.heap.size, 0, none⟩ = some (.int .i64 4) := HX.out _ (Below.refl _ _) 0 _ rfl
  have x1 : W1.cell? ⟨w.heap.size, 1, none⟩ = some (.int .u64 (wd : Int)) := HX.out _ (Below.refl _ _) 1 _ rfl
  have x2 : W1.cell? ⟨w.heap.size, 2, none⟩ = some (.string (str nm)) := HX.out _ (Below.refl _ _) 2 _ rfl
  have x3 : W1.cell? ⟨w.heap.size, 3, none⟩ = some (.slice (some ⟨b2, o2, none⟩) 1 c) := HX.out _ (Below.refl _ _) 3 _ rfl
  have hbw : b2 < w.heap.size := by omega
  have hb2 : b2 < W1.heap.size := by have := HB1.out.size; omega
  obtain ⟨q0, c0, e00, e01, e02, e03, ok0⟩ := hy0.open'
  have d00 : W1.cell? ⟨b2, o2, none⟩ = some (.int .i64 y0.op) := (HB1.out.cell hbw).trans e00
  have d01 : W1.cell? ⟨b2, o2 + 1, none⟩ = some (.int .u64 (y0.word : Int)) := (HB1.out.cell hbw).trans e01
  have d02 : W1.cell? ⟨b2, o2 + 2, none⟩ = some (.string (str y0.name)) := (HB1.out.cell hbw).trans e02
  have d03 : W1.cell? ⟨b2, o2 + 3, none⟩ = some (.slice q0 y0.args.len c0) := (HB1.out.cell hbw).trans e03
  have HC0 := Lib.hid (fun (w1 : World) (hb : Below W1.heap.size W1 w1) => ih y0 hs0 hm0 (by omega) q0 c0 w1.heap.size w1 (ok0.later ((HB1.out.trans (hb.mono HB1.out.size)).mono hN) (Nat.le_trans hN (HB1.out.trans (hb.mono HB1.out.size)).size)) (Nat.le_refl _) (hG.later (HB1.out.trans (hb.mono HB1.out.size))))
  unfold Ex.val at HC0
  clear e00 e01 e02 e03 ok0 hy0 hs0 hm0
  obtain ⟨A0, hA0⟩ : ∃ A, A = str y0.text := ⟨_, rfl⟩
  rw [← hA0] at HC0
  obtain ⟨B2, hB2⟩ : ∃ B, B = str ([126] ++ y0.text) := ⟨_, rfl⟩
  have qB2 : ∀ w : World, (Op.stringOp .add ⟨#[126]⟩ A0).run Tryz.prog w = .ok (.string B2) w := fun w => by
    (try rw [hB2]); (try rw [Nat.add_zero]); (try rw [hA0]); exact add_str ([126]) (y0.text) (by simp; omega) w
  have HF := Lib.hid (show str (Ex.mk 4 wd nm (.cons y0 .nil)).text = B2 by rw [ht, hB2])
  clear hA0 hB2
  clear hl ht ih hG
  go_enter Tryz.func15, Tryz.ntmps15
  go_wp2_with fail
  refine (HC0.out _ (Below.refl _ _)).mono ?_
  rintro e w2 ⟨rfl, hB⟩
  have HE := Lib.hid (HB1.out.trans (hB.mono HB1.out.size))
  clear hB
  go_wp2_with fail
  go_ret
  exact ⟨ret_strE HF.out.symm, HE.out⟩

set_option maxRecDepth 100000 in
set_option maxHeartbeats 6400000 in
theorem re_neg (n : Nat) (ih : RE n) (wd : Nat) (nm : List UInt8) (b2 o2 c N : Nat) (w : World) (hG : Glob w) (hN : N ≤ w.heap.size) (hbN : b2 < N) (y0 : Ex) (hs0 : y0.size < n) (hm0 : y0.may = true) (hy0 : y0.At w N b2 (o2)) (hl : (Ex.mk 5 wd nm (.cons y0 .nil)).text.length ≤ 1000000) :
    Calls Tryz.prog 15 #[.agg #[.int .i64 5, .int .u64 (wd : Int), .string (str nm), .slice (some ⟨b2, o2, none⟩) 1 c]] w fun e w' => e = .returned (.string (str (Ex.mk 5 wd nm (.cons y0 .nil)).text)) ∧ Below w.heap.size w w' := by
  have ht : (Ex.mk 5 wd nm (.cons y0 .nil)).text = [45] ++ y0.text := rfl
  have hlen : y0.text.length ≤ 1000000 := by rw [ht] at hl; simp at hl; omega
  obtain ⟨W1, hW1⟩ : ∃ W1, w.alloc (.cells #[.int .i64 5, .int .u64 (wd : Int), .string (str nm), .slice (some ⟨b2, o2, none⟩) 1 c] 26) = W1 := ⟨_, rfl⟩
  have HB1 := Lib.hid (show Below w.heap.size w W1 by rw [← hW1]; exact (Below.refl _ _).alloc (Nat.le_refl _) _)
  have HX := Lib.hid (fun w1 hb => cells_later (w0 := W1) (w1 := w1) (b := w.heap.size) (A := #[.int .i64 5, .int .u64 (wd : Int), .string (str nm), .slice (some ⟨b2, o2, none⟩) 1 c]) (t := 26) (by rw [← hW1]; exact heap_alloc_new w _) hb)
  have x0 : W1.cell? ⟨w.heap.size, 0, none⟩ = some (.int .i64 5) := HX.out _ (Below.refl _ _) 0 _ rfl
  have x1 : W1.cell? ⟨w.heap.size, 1, none⟩ = some (.int .u64 (wd : Int)) := HX.out _ (Below.refl _ _) 1 _ rfl
  have x2 : W1.cell? ⟨w.heap.size, 2, none⟩ = some (.string (str nm)) := HX.out _ (Below.refl _ _) 2 _ rfl
  have x3 : W1.cell? ⟨w.heap.size, 3, none⟩ = some (.slice (some ⟨b2, o2, none⟩) 1 c) := HX.out _ (Below.refl _ _) 3 _ rfl
  have hbw : b2 < w.heap.size := by omega
  have hb2 : b2 < W1.heap.size := by have := HB1.out.size; omega
  obtain ⟨q0, c0, e00, e01, e02, e03, ok0⟩ := hy0.open'
  have d00 : W1.cell? ⟨b2, o2, none⟩ = some (.int .i64 y0.op) := (HB1.out.cell hbw).trans e00
  have d01 : W1.cell? ⟨b2, o2 + 1, none⟩ = some (.int .u64 (y0.word : Int)) := (HB1.out.cell hbw).trans e01
  have d02 : W1.cell? ⟨b2, o2 + 2, none⟩ = some (.string (str y0.name)) := (HB1.out.cell hbw).trans e02
  have d03 : W1.cell? ⟨b2, o2 + 3, none⟩ = some (.slice q0 y0.args.len c0) := (HB1.out.cell hbw).trans e03
  have HC0 := Lib.hid (fun (w1 : World) (hb : Below W1.heap.size W1 w1) => ih y0 hs0 hm0 (by omega) q0 c0 w1.heap.size w1 (ok0.later ((HB1.out.trans (hb.mono HB1.out.size)).mono hN) (Nat.le_trans hN (HB1.out.trans (hb.mono HB1.out.size)).size)) (Nat.le_refl _) (hG.later (HB1.out.trans (hb.mono HB1.out.size))))
  unfold Ex.val at HC0
  clear e00 e01 e02 e03 ok0 hy0 hs0 hm0
  obtain ⟨A0, hA0⟩ : ∃ A, A = str y0.text := ⟨_, rfl⟩
  rw [← hA0] at HC0
  obtain ⟨B2, hB2⟩ : ∃ B, B = str ([45] ++ y0.text) := ⟨_, rfl⟩
  have qB2 : ∀ w : World, (Op.stringOp .add ⟨#[45]⟩ A0).run Tryz.prog w = .ok (.string B2) w := fun w => by
    (try rw [hB2]); (try rw [Nat.add_zero]); (try rw [hA0]); exact add_str ([45]) (y0.text) (by simp; omega) w
  have HF := Lib.hid (show str (Ex.mk 5 wd nm (.cons y0 .nil)).text = B2 by rw [ht, hB2])
  clear hA0 hB2
  clear hl ht ih hG
  go_enter Tryz.func15, Tryz.ntmps15
  go_wp2_with fail
  refine (HC0.out _ (Below.refl _ _)).mono ?_
  rintro e w2 ⟨rfl, hB⟩
  have HE := Lib.hid (HB1.out.trans (hB.mono HB1.out.size))
  clear hB
  go_wp2_with fail
  go_ret
  exact ⟨ret_strE HF.out.symm, HE.out⟩

set_option maxRecDepth 100000 in
set_option maxHeartbeats 6400000 in
theorem re_pick (n : Nat) (ih : RE n) (wd : Nat) (nm : List UInt8) (b2 o2 c N : Nat) (w : World) (hG : Glob w) (hN : N ≤ w.heap.size) (hbN : b2 < N) (y0 : Ex) (hs0 : y0.size < n) (hm0 : y0.may = true) (hy0 : y0.At w N b2 (o2)) (y1 : Ex) (hs1 : y1.size < n) (hm1 : y1.may = true) (hy1 : y1.At w N b2 (o2 + 4)) (y2 : Ex) (hs2 : y2.size < n) (hm2 : y2.may = true) (hy2 : y2.At w N b2 (o2 + 8)) (hl : (Ex.mk 21 wd nm (.cons y0 (.cons y1 (.cons y2 .nil)))).text.length ≤ 1000000) :
    Calls Tryz.prog 15 #[.agg #[.int .i64 21, .int .u64 (wd : Int), .string (str nm), .slice (some ⟨b2, o2, none⟩) 3 c]] w fun e w' => e = .returned (.string (str (Ex.mk 21 wd nm (.cons y0 (.cons y1 (.cons y2 .nil)))).text)) ∧ Below w.heap.size w w' := by
  have ht : (Ex.mk 21 wd nm (.cons y0 (.cons y1 (.cons y2 .nil)))).text = ((((([112, 105, 99, 107, 40] ++ y0.text) ++ [44, 32]) ++ y1.text) ++ [44, 32]) ++ y2.text) ++ [41] := by
    rw [Ex.text, textOf, if_neg (by omega), if_neg (by omega), if_neg (by omega), if_neg (by omega), if_neg (by omega), if_pos rfl]
    simp [Exs.texts, Lib.join]
  have hlen : y0.text.length + y1.text.length + y2.text.length ≤ 1000000 := by rw [ht] at hl; simp at hl; omega
  obtain ⟨W1, hW1⟩ : ∃ W1, w.alloc (.cells #[.int .i64 21, .int .u64 (wd : Int), .string (str nm), .slice (some ⟨b2, o2, none⟩) 3 c] 26) = W1 := ⟨_, rfl⟩
  have HB1 := Lib.hid (show Below w.heap.size w W1 by rw [← hW1]; exact (Below.refl _ _).alloc (Nat.le_refl _) _)
  have HX := Lib.hid (fun w1 hb => cells_later (w0 := W1) (w1 := w1) (b := w.heap.size) (A := #[.int .i64 21, .int .u64 (wd : Int), .string (str nm), .slice (some ⟨b2, o2, none⟩) 3 c]) (t := 26) (by rw [← hW1]; exact heap_alloc_new w _) hb)
  have x0 : W1.cell? ⟨w.heap.size, 0, none⟩ = some (.int .i64 21) := HX.out _ (Below.refl _ _) 0 _ rfl
  have x1 : W1.cell? ⟨w.heap.size, 1, none⟩ = some (.int .u64 (wd : Int)) := HX.out _ (Below.refl _ _) 1 _ rfl
  have x2 : W1.cell? ⟨w.heap.size, 2, none⟩ = some (.string (str nm)) := HX.out _ (Below.refl _ _) 2 _ rfl
  have x3 : W1.cell? ⟨w.heap.size, 3, none⟩ = some (.slice (some ⟨b2, o2, none⟩) 3 c) := HX.out _ (Below.refl _ _) 3 _ rfl
  have hbw : b2 < w.heap.size := by omega
  have hb2 : b2 < W1.heap.size := by have := HB1.out.size; omega
  obtain ⟨q0, c0, e00, e01, e02, e03, ok0⟩ := hy0.open'
  have d00 : W1.cell? ⟨b2, o2, none⟩ = some (.int .i64 y0.op) := (HB1.out.cell hbw).trans e00
  have d01 : W1.cell? ⟨b2, o2 + 1, none⟩ = some (.int .u64 (y0.word : Int)) := (HB1.out.cell hbw).trans e01
  have d02 : W1.cell? ⟨b2, o2 + 2, none⟩ = some (.string (str y0.name)) := (HB1.out.cell hbw).trans e02
  have d03 : W1.cell? ⟨b2, o2 + 3, none⟩ = some (.slice q0 y0.args.len c0) := (HB1.out.cell hbw).trans e03
  have HC0 := Lib.hid (fun (w1 : World) (hb : Below W1.heap.size W1 w1) => ih y0 hs0 hm0 (by omega) q0 c0 w1.heap.size w1 (ok0.later ((HB1.out.trans (hb.mono HB1.out.size)).mono hN) (Nat.le_trans hN (HB1.out.trans (hb.mono HB1.out.size)).size)) (Nat.le_refl _) (hG.later (HB1.out.trans (hb.mono HB1.out.size))))
  unfold Ex.val at HC0
  obtain ⟨q1, c1, e10, e11, e12, e13, ok1⟩ := hy1.open'
  have d10 : W1.cell? ⟨b2, o2 + 4, none⟩ = some (.int .i64 y1.op) := (HB1.out.cell hbw).trans e10
  have d11 : W1.cell? ⟨b2, o2 + 4 + 1, none⟩ = some (.int .u64 (y1.word : Int)) := (HB1.out.cell hbw).trans e11
  have d12 : W1.cell? ⟨b2, o2 + 4 + 2, none⟩ = some (.string (str y1.name)) := (HB1.out.cell hbw).trans e12
  have d13 : W1.cell? ⟨b2, o2 + 4 + 3, none⟩ = some (.slice q1 y1.args.len c1) := (HB1.out.cell hbw).trans e13
  have HC1 := Lib.hid (fun (w1 : World) (hb : Below W1.heap.size W1 w1) => ih y1 hs1 hm1 (by omega) q1 c1 w1.heap.size w1 (ok1.later ((HB1.out.trans (hb.mono HB1.out.size)).mono hN) (Nat.le_trans hN (HB1.out.trans (hb.mono HB1.out.size)).size)) (Nat.le_refl _) (hG.later (HB1.out.trans (hb.mono HB1.out.size))))
  unfold Ex.val at HC1
  obtain ⟨q2, c2, e20, e21, e22, e23, ok2⟩ := hy2.open'
  have d20 : W1.cell? ⟨b2, o2 + 8, none⟩ = some (.int .i64 y2.op) := (HB1.out.cell hbw).trans e20
  have d21 : W1.cell? ⟨b2, o2 + 8 + 1, none⟩ = some (.int .u64 (y2.word : Int)) := (HB1.out.cell hbw).trans e21
  have d22 : W1.cell? ⟨b2, o2 + 8 + 2, none⟩ = some (.string (str y2.name)) := (HB1.out.cell hbw).trans e22
  have d23 : W1.cell? ⟨b2, o2 + 8 + 3, none⟩ = some (.slice q2 y2.args.len c2) := (HB1.out.cell hbw).trans e23
  have HC2 := Lib.hid (fun (w1 : World) (hb : Below W1.heap.size W1 w1) => ih y2 hs2 hm2 (by omega) q2 c2 w1.heap.size w1 (ok2.later ((HB1.out.trans (hb.mono HB1.out.size)).mono hN) (Nat.le_trans hN (HB1.out.trans (hb.mono HB1.out.size)).size)) (Nat.le_refl _) (hG.later (HB1.out.trans (hb.mono HB1.out.size))))
  unfold Ex.val at HC2
  clear e00 e01 e02 e03 e10 e11 e12 e13 e20 e21 e22 e23 ok0 hy0 hs0 hm0 ok1 hy1 hs1 hm1 ok2 hy2 hs2 hm2
  obtain ⟨A0, hA0⟩ : ∃ A, A = str y0.text := ⟨_, rfl⟩
  rw [← hA0] at HC0
  obtain ⟨A1, hA1⟩ : ∃ A, A = str y1.text := ⟨_, rfl⟩
  rw [← hA1] at HC1
  obtain ⟨A2, hA2⟩ : ∃ A, A = str y2.text := ⟨_, rfl⟩
  rw [← hA2] at HC2
  obtain ⟨B5, hB5⟩ : ∃ B, B = str ([112, 105, 99, 107, 40] ++ y0.text) := ⟨_, rfl⟩
  obtain ⟨B6, hB6⟩ : ∃ B, B = str (([112, 105, 99, 107, 40] ++ y0.text) ++ [44, 32]) := ⟨_, rfl⟩
  obtain ⟨B12, hB12⟩ : ∃ B, B = str ((([112, 105, 99, 107, 40] ++ y0.text) ++ [44, 32]) ++ y1.text) := ⟨_, rfl⟩
  obtain ⟨B13, hB13⟩ : ∃ B, B = str (((([112, 105, 99, 107, 40] ++ y0.text) ++ [44, 32]) ++ y1.text) ++ [44, 32]) := ⟨_, rfl⟩
  obtain ⟨B19, hB19⟩ : ∃ B, B = str ((((([112, 105, 99, 107, 40] ++ y0.text) ++ [44, 32]) ++ y1.text) ++ [44, 32]) ++ y2.text) := ⟨_, rfl⟩
  obtain ⟨B20, hB20⟩ : ∃ B, B = str (((((([112, 105, 99, 107, 40] ++ y0.text) ++ [44, 32]) ++ y1.text) ++ [44, 32]) ++ y2.text) ++ [41]) := ⟨_, rfl⟩
  have qB5 : ∀ w : World, (Op.stringOp .add ⟨#[112, 105, 99, 107, 40]⟩ A0).run Tryz.prog w = .ok (.string B5) w := fun w => by
    (try rw [hB5]); (try rw [Nat.add_zero]); (try rw [hA0]); exact add_str ([112, 105, 99, 107, 40]) (y0.text) (by simp; omega) w
  have qB6 : ∀ w : World, (Op.stringOp .add B5 ⟨#[44, 32]⟩).run Tryz.prog w = .ok (.string B6) w := fun w => by
    (try rw [hB6]); (try rw [hB5]); (try rw [Nat.add_zero]); exact add_str (([112, 105, 99, 107, 40] ++ y0.text)) ([44, 32]) (by simp; omega) w
  have qB12 : ∀ w : World, (Op.stringOp .add B6 A1).run Tryz.prog w = .ok (.string B12) w := fun w => by
    (try rw [hB12]); (try rw [hB6]); (try rw [hA1]); exact add_str ((([112, 105, 99, 107, 40] ++ y0.text) ++ [44, 32])) (y1.text) (by simp; omega) w
  have qB13 : ∀ w : World, (Op.stringOp .add B12 ⟨#[44, 32]⟩).run Tryz.prog w = .ok (.string B13) w := fun w => by
    (try rw [hB13]); (try rw [hB12]); (try rw [Nat.add_zero]); exact add_str (((([112, 105, 99, 107, 40] ++ y0.text) ++ [44, 32]) ++ y1.text)) ([44, 32]) (by simp; omega) w
  have qB19 : ∀ w : World, (Op.stringOp .add B13 A2).run Tryz.prog w = .ok (.string B19) w := fun w => by
    (try rw [hB19]); (try rw [hB13]); (try rw [hA2]); exact add_str ((((([112, 105, 99, 107, 40] ++ y0.text) ++ [44, 32]) ++ y1.text) ++ [44, 32])) (y2.text) (by simp; omega) w
  have qB20 : ∀ w : World, (Op.stringOp .add B19 ⟨#[41]⟩).run Tryz.prog w = .ok (.string B20) w := fun w => by
    (try rw [hB20]); (try rw [hB19]); (try rw [Nat.add_zero]); exact add_str (((((([112, 105, 99, 107, 40] ++ y0.text) ++ [44, 32]) ++ y1.text) ++ [44, 32]) ++ y2.text)) ([41]) (by simp; omega) w
  have HF := Lib.hid (show str (Ex.mk 21 wd nm (.cons y0 (.cons y1 (.cons y2 .nil)))).text = B20 by rw [ht, hB20])
  clear hA0 hA1 hA2 hB5 hB6 hB12 hB13 hB19 hB20
  clear hl ht ih hG
  go_enter Tryz.func15, Tryz.ntmps15
  go_wp2_with fail
  clear hW1 x0 x1 x2 x3
  have HS : Below W1.heap.size W1 W1.drew := (Below.refl _ _).drew
  refine wp_region_held_drew (S := fun W => Below W1.heap.size W1 W ∧ W.cell? ⟨w.heap.size, 3, none⟩ = some (.slice (some ⟨b2, o2, none⟩) 3 c) ∧ W.cell? ⟨b2, o2, none⟩ = some (.int .i64 y0.op) ∧ W.cell? ⟨b2, o2 + 1, none⟩ = some (.int .u64 (y0.word : Int)) ∧ W.cell? ⟨b2, o2 + 2, none⟩ = some (.string (str y0.name)) ∧ W.cell? ⟨b2, o2 + 3, none⟩ = some (.slice q0 y0.args.len c0) ∧ W.cell? ⟨b2, o2 + 4, none⟩ = some (.int .i64 y1.op) ∧ W.cell? ⟨b2, o2 + 4 + 1, none⟩ = some (.int .u64 (y1.word : Int)) ∧ W.cell? ⟨b2, o2 + 4 + 2, none⟩ = some (.string (str y1.name)) ∧ W.cell? ⟨b2, o2 + 4 + 3, none⟩ = some (.slice q1 y1.args.len c1) ∧ W.cell? ⟨b2, o2 + 8, none⟩ = some (.int .i64 y2.op) ∧ W.cell? ⟨b2, o2 + 8 + 1, none⟩ = some (.int .u64 (y2.word : Int)) ∧ W.cell? ⟨b2, o2 + 8 + 2, none⟩ = some (.string (str y2.name)) ∧ W.cell? ⟨b2, o2 + 8 + 3, none⟩ = some (.slice q2 y2.args.len c2)) (by kernel_rfl) ?_ (fun hHeld => ?_)
  · exact ⟨HS, HX.out _ HS 3 _ rfl, (HS.cell hb2).trans d00, (HS.cell hb2).trans d01, (HS.cell hb2).trans d02, (HS.cell hb2).trans d03, (HS.cell hb2).trans d10, (HS.cell hb2).trans d11, (HS.cell hb2).trans d12, (HS.cell hb2).trans d13, (HS.cell hb2).trans d20, (HS.cell hb2).trans d21, (HS.cell hb2).trans d22, (HS.cell hb2).trans d23⟩
  refine wpAnyH_take (i := 0) (oi := { dst := Option.some 44, op := Go.Op.fieldAddr 26 (Go.Operand.tmp 1) 3, type := 0, pos := "ref.go:219", after := #[], guard := Option.none }) (v := ?_) rfl (by kernel_rfl) (by kernel_rfl) (by kernel_rfl) (fun _ _ _ h => h) (Or.inl ⟨by rfl, ?_⟩) (by assumption) ?_
  rotate_left
  · (intro w hSw; (try dsimp only at hSw); go_simp; try with_reducible rfl)
  try simp only [Act.put, List.setIfInBounds_toArray, List.set_cons_zero, List.set_cons_succ]
  refine wpAnyH_take (i := 1) (oi := { dst := Option.some 45, op := Go.Op.load 24 (Go.Operand.tmp 44), type := 24, pos := "ref.go:219", after := #[{ on := 0, ground := Go.Ground.data }], guard := Option.none }) (v := ?_) rfl (by kernel_rfl) (by kernel_rfl) (by kernel_rfl) (fun _ _ _ h => h) (Or.inl ⟨by rfl, ?_⟩) (by assumption) ?_
  rotate_left
  · (intro w hSw; (try dsimp only at hSw); go_simp; try with_reducible rfl)
  try simp only [Act.put, List.setIfInBounds_toArray, List.set_cons_zero, List.set_cons_succ]
  refine wpAnyH_take (i := 2) (oi := { dst := Option.some 46, op := Go.Op.indexAddr 24 (Go.Operand.tmp 45) (Go.Operand.const (Go.Value.int Go.IntKind.i64 0)), type := 0, pos := "ref.go:219", after := #[{ on := 1, ground := Go.Ground.data }], guard := Option.none }) (v := ?_) rfl (by kernel_rfl) (by kernel_rfl) (by kernel_rfl) (fun _ _ _ h => h) (Or.inl ⟨by rfl, ?_⟩) (by assumption) ?_
  rotate_left
  · (intro w hSw; (try dsimp only at hSw); go_simp; try with_reducible rfl)
  try simp only [Act.put, List.setIfInBounds_toArray, List.set_cons_zero, List.set_cons_succ]
  refine wpAnyH_take (i := 3) (oi := { dst := Option.some 47, op := Go.Op.load 26 (Go.Operand.tmp 46), type := 26, pos := "ref.go:219", after := #[{ on := 2, ground := Go.Ground.data }], guard := Option.none }) (v := ?_) rfl (by kernel_rfl) (by kernel_rfl) (by kernel_rfl) (fun _ _ _ h => h) (Or.inl ⟨by rfl, ?_⟩) (by assumption) ?_
  rotate_left
  · (intro w hSw; (try dsimp only at hSw); go_simp; try with_reducible rfl)
  try simp only [Act.put, List.setIfInBounds_toArray, List.set_cons_zero, List.set_cons_succ]
  refine wpAnyH_take (i := 7) (oi := { dst := Option.some 51, op := Go.Op.fieldAddr 26 (Go.Operand.tmp 1) 3, type := 0, pos := "ref.go:219", after := #[], guard := Option.none }) (v := ?_) rfl (by kernel_rfl) (by kernel_rfl) (by kernel_rfl) (fun _ _ _ h => h) (Or.inl ⟨by rfl, ?_⟩) (by assumption) ?_
  rotate_left
  · (intro w hSw; (try dsimp only at hSw); go_simp; try with_reducible rfl)
  try simp only [Act.put, List.setIfInBounds_toArray, List.set_cons_zero, List.set_cons_succ]
  refine wpAnyH_take (i := 8) (oi := { dst := Option.some 52, op := Go.Op.load 24 (Go.Operand.tmp 51), type := 24, pos := "ref.go:219", after := #[{ on := 7, ground := Go.Ground.data }], guard := Option.none }) (v := ?_) rfl (by kernel_rfl) (by kernel_rfl) (by kernel_rfl) (fun _ _ _ h => h) (Or.inl ⟨by rfl, ?_⟩) (by assumption) ?_
  rotate_left
  · (intro w hSw; (try dsimp only at hSw); go_simp; try with_reducible rfl)
  try simp only [Act.put, List.setIfInBounds_toArray, List.set_cons_zero, List.set_cons_succ]
  refine wpAnyH_take (i := 9) (oi := { dst := Option.some 53, op := Go.Op.indexAddr 24 (Go.Operand.tmp 52) (Go.Operand.const (Go.Value.int Go.IntKind.i64 1)), type := 0, pos := "ref.go:219", after := #[{ on := 8, ground := Go.Ground.data }], guard := Option.none }) (v := ?_) rfl (by kernel_rfl) (by kernel_rfl) (by kernel_rfl) (fun _ _ _ h => h) (Or.inl ⟨by rfl, ?_⟩) (by assumption) ?_
  rotate_left
  · (intro w hSw; (try dsimp only at hSw); go_simp; try with_reducible rfl)
  try simp only [Act.put, List.setIfInBounds_toArray, List.set_cons_zero, List.set_cons_succ]
  refine wpAnyH_take (i := 10) (oi := { dst := Option.some 54, op := Go.Op.load 26 (Go.Operand.tmp 53), type := 26, pos := "ref.go:219", after := #[{ on := 9, ground := Go.Ground.data }], guard := Option.none }) (v := ?_) rfl (by kernel_rfl) (by kernel_rfl) (by kernel_rfl) (fun _ _ _ h => h) (Or.inl ⟨by rfl, ?_⟩) (by assumption) ?_
  rotate_left
  · (intro w hSw; (try dsimp only at hSw); go_simp; try with_reducible rfl)
  try simp only [Act.put, List.setIfInBounds_toArray, List.set_cons_zero, List.set_cons_succ]
  refine wpAnyH_take (i := 14) (oi := { dst := Option.some 58, op := Go.Op.fieldAddr 26 (Go.Operand.tmp 1) 3, type := 0, pos := "ref.go:219", after := #[], guard := Option.none }) (v := ?_) rfl (by kernel_rfl) (by kernel_rfl) (by kernel_rfl) (fun _ _ _ h => h) (Or.inl ⟨by rfl, ?_⟩) (by assumption) ?_
  rotate_left
  · (intro w hSw; (try dsimp only at hSw); go_simp; try with_reducible rfl)
  try simp only [Act.put, List.setIfInBounds_toArray, List.set_cons_zero, List.set_cons_succ]
  refine wpAnyH_take (i := 15) (oi := { dst := Option.some 59, op := Go.Op.load 24 (Go.Operand.tmp 58), type := 24, pos := "ref.go:219", after := #[{ on := 14, ground := Go.Ground.data }], guard := Option.none }) (v := ?_) rfl (by kernel_rfl) (by kernel_rfl) (by kernel_rfl) (fun _ _ _ h => h) (Or.inl ⟨by rfl, ?_⟩) (by assumption) ?_
  rotate_left
  · (intro w hSw; (try dsimp only at hSw); go_simp; try with_reducible rfl)
  try simp only [Act.put, List.setIfInBounds_toArray, List.set_cons_zero, List.set_cons_succ]
  refine wpAnyH_take (i := 16) (oi := { dst := Option.some 60, op := Go.Op.indexAddr 24 (Go.Operand.tmp 59) (Go.Operand.const (Go.Value.int Go.IntKind.i64 2)), type := 0, pos := "ref.go:219", after := #[{ on := 15, ground := Go.Ground.data }], guard := Option.none }) (v := ?_) rfl (by kernel_rfl) (by kernel_rfl) (by kernel_rfl) (fun _ _ _ h => h) (Or.inl ⟨by rfl, ?_⟩) (by assumption) ?_
  rotate_left
  · (intro w hSw; (try dsimp only at hSw); go_simp; try with_reducible rfl)
  try simp only [Act.put, List.setIfInBounds_toArray, List.set_cons_zero, List.set_cons_succ]
  refine wpAnyH_take (i := 17) (oi := { dst := Option.some 61, op := Go.Op.load 26 (Go.Operand.tmp 60), type := 26, pos := "ref.go:219", after := #[{ on := 16, ground := Go.Ground.data }], guard := Option.none }) (v := ?_) rfl (by kernel_rfl) (by kernel_rfl) (by kernel_rfl) (fun _ _ _ h => h) (Or.inl ⟨by rfl, ?_⟩) (by assumption) ?_
  rotate_left
  · (intro w hSw; (try dsimp only at hSw); go_simp; try with_reducible rfl)
  try simp only [Act.put, List.setIfInBounds_toArray, List.set_cons_zero, List.set_cons_succ]
  refine wpAnyH_ready (rs := [4]) (by kernel_rfl) (by simp) ?_
  refine AllReadyH.cons (o := { dst := Option.some 48, op := Go.Op.call { callee := Go.Callee.value (Go.Operand.func 15), args := #[Go.Operand.tmp 47], argTypes := #[26] }, type := 9, pos := "ref.go:219", after := #[{ on := 3, ground := Go.Ground.data }], guard := Option.none }) rfl (fun K hK => ?_) AllReadyH.nil
  go_simp
  refine (HC0.out _ HS).mono ?_
  rintro z wa ⟨rfl, hB'⟩
  replace HS := HS.trans (hB'.mono HS.size)
  clear hB'
  refine hK.out _ _ ?_ (fun hHeld => ?_)
  · exact ⟨HS, HX.out _ HS 3 _ rfl, (HS.cell hb2).trans d00, (HS.cell hb2).trans d01, (HS.cell hb2).trans d02, (HS.cell hb2).trans d03, (HS.cell hb2).trans d10, (HS.cell hb2).trans d11, (HS.cell hb2).trans d12, (HS.cell hb2).trans d13, (HS.cell hb2).trans d20, (HS.cell hb2).trans d21, (HS.cell hb2).trans d22, (HS.cell hb2).trans d23⟩
  clear hK K
  try simp only [Act.put, List.setIfInBounds_toArray, List.set_cons_zero, List.set_cons_succ]
  refine wpAnyH_take (i := 5) (oi := { dst := Option.some 49, op := Go.Op.binOp Go.BinOp.add 9 (Go.Operand.const (Go.Value.string { data := #[112, 105, 99, 107, 40] })) (Go.Operand.tmp 48) 9, type := 9, pos := "ref.go:219", after := #[{ on := 4, ground := Go.Ground.data }], guard := Option.none }) (v := .string B5) rfl (by kernel_rfl) (by kernel_rfl) (by kernel_rfl) (fun _ _ _ h => h) (Or.inl ⟨by rfl, ?_⟩) (by assumption) ?_
  · (intro w hSw; (try dsimp only at hSw); go_simp)
  try simp only [Act.put, List.setIfInBounds_toArray, List.set_cons_zero, List.set_cons_succ]
  refine wpAnyH_take (i := 6) (oi := { dst := Option.some 50, op := Go.Op.binOp Go.BinOp.add 9 (Go.Operand.tmp 49) (Go.Operand.const (Go.Value.string { data := #[44, 32] })) 9, type := 9, pos := "ref.go:219", after := #[{ on := 5, ground := Go.Ground.data }], guard := Option.none }) (v := .string B6) rfl (by kernel_rfl) (by kernel_rfl) (by kernel_rfl) (fun _ _ _ h => h) (Or.inl ⟨by rfl, ?_⟩) (by assumption) ?_
  · (intro w hSw; (try dsimp only at hSw); go_simp)
  try simp only [Act.put, List.setIfInBounds_toArray, List.set_cons_zero, List.set_cons_succ]
  refine wpAnyH_ready (rs := [11]) (by kernel_rfl) (by simp) ?_
  refine AllReadyH.cons (o := { dst := Option.some 55, op := Go.Op.call { callee := Go.Callee.value (Go.Operand.func 15), args := #[Go.Operand.tmp 54], argTypes := #[26] }, type := 9, pos := "ref.go:219", after := #[{ on := 10, ground := Go.Ground.data }, { on := 4, ground := Go.Ground.chain }], guard := Option.none }) rfl (fun K hK => ?_) AllReadyH.nil
  go_simp
  refine (HC1.out _ HS).mono ?_
  rintro z wa ⟨rfl, hB'⟩
  replace HS := HS.trans (hB'.mono HS.size)
  clear hB'
  refine hK.out _ _ ?_ (fun hHeld => ?_)
  · exact ⟨HS, HX.out _ HS 3 _ rfl, (HS.cell hb2).trans d00, (HS.cell hb2).trans d01, (HS.cell hb2).trans d02, (HS.cell hb2).trans d03, (HS.cell hb2).trans d10, (HS.cell hb2).trans d11, (HS.cell hb2).trans d12, (HS.cell hb2).trans d13, (HS.cell hb2).trans d20, (HS.cell hb2).trans d21, (HS.cell hb2).trans d22, (HS.cell hb2).trans d23⟩
  clear hK K
  try simp only [Act.put, List.setIfInBounds_toArray, List.set_cons_zero, List.set_cons_succ]
  refine wpAnyH_take (i := 12) (oi := { dst := Option.some 56, op := Go.Op.binOp Go.BinOp.add 9 (Go.Operand.tmp 50) (Go.Operand.tmp 55) 9, type := 9, pos := "ref.go:219", after := #[{ on := 6, ground := Go.Ground.data }, { on := 11, ground := Go.Ground.data }], guard := Option.none }) (v := .string B12) rfl (by kernel_rfl) (by kernel_rfl) (by kernel_rfl) (fun _ _ _ h => h) (Or.inl ⟨by rfl, ?_⟩) (by assumption) ?_
  · (intro w hSw; (try dsimp only at hSw); go_simp)
  try simp only [Act.put, List.setIfInBounds_toArray, List.set_cons_zero, List.set_cons_succ]
  refine wpAnyH_take (i := 13) (oi := { dst := Option.some 57, op := Go.Op.binOp Go.BinOp.add 9 (Go.Operand.tmp 56) (Go.Operand.const (Go.Value.string { data := #[44, 32] })) 9, type := 9, pos := "ref.go:219", after := #[{ on := 12, ground := Go.Ground.data }], guard := Option.none }) (v := .string B13) rfl (by kernel_rfl) (by kernel_rfl) (by kernel_rfl) (fun _ _ _ h => h) (Or.inl ⟨by rfl, ?_⟩) (by assumption) ?_
  · (intro w hSw; (try dsimp only at hSw); go_simp)
  try simp only [Act.put, List.setIfInBounds_toArray, List.set_cons_zero, List.set_cons_succ]
  refine wpAnyH_ready (rs := [18]) (by kernel_rfl) (by simp) ?_
  refine AllReadyH.cons (o := { dst := Option.some 62, op := Go.Op.call { callee := Go.Callee.value (Go.Operand.func 15), args := #[Go.Operand.tmp 61], argTypes := #[26] }, type := 9, pos := "ref.go:219", after := #[{ on := 17, ground := Go.Ground.data }, { on := 11, ground := Go.Ground.chain }], guard := Option.none }) rfl (fun K hK => ?_) AllReadyH.nil
  go_simp
  refine (HC2.out _ HS).mono ?_
  rintro z wa ⟨rfl, hB'⟩
  replace HS := HS.trans (hB'.mono HS.size)
  clear hB'
  refine hK.out _ _ ?_ (fun hHeld => ?_)
  · exact ⟨HS, HX.out _ HS 3 _ rfl, (HS.cell hb2).trans d00, (HS.cell hb2).trans d01, (HS.cell hb2).trans d02, (HS.cell hb2).trans d03, (HS.cell hb2).trans d10, (HS.cell hb2).trans d11, (HS.cell hb2).trans d12, (HS.cell hb2).trans d13, (HS.cell hb2).trans d20, (HS.cell hb2).trans d21, (HS.cell hb2).trans d22, (HS.cell hb2).trans d23⟩
  clear hK K
  try simp only [Act.put, List.setIfInBounds_toArray, List.set_cons_zero, List.set_cons_succ]
  refine wpAnyH_take (i := 19) (oi := { dst := Option.some 63, op := Go.Op.binOp Go.BinOp.add 9 (Go.Operand.tmp 57) (Go.Operand.tmp 62) 9, type := 9, pos := "ref.go:219", after := #[{ on := 13, ground := Go.Ground.data }, { on := 18, ground := Go.Ground.data }], guard := Option.none }) (v := .string B19) rfl (by kernel_rfl) (by kernel_rfl) (by kernel_rfl) (fun _ _ _ h => h) (Or.inl ⟨by rfl, ?_⟩) (by assumption) ?_
  · (intro w hSw; (try dsimp only at hSw); go_simp)
  try simp only [Act.put, List.setIfInBounds_toArray, List.set_cons_zero, List.set_cons_succ]
  refine wpAnyH_take (i := 20) (oi := { dst := Option.some 64, op := Go.Op.binOp Go.BinOp.add 9 (Go.Operand.tmp 63) (Go.Operand.const (Go.Value.string { data := #[41] })) 9, type := 9, pos := "ref.go:219", after := #[{ on := 19, ground := Go.Ground.data }], guard := Option.none }) (v := .string B20) rfl (by kernel_rfl) (by kernel_rfl) (by kernel_rfl) (fun _ _ _ h => h) (Or.inl ⟨by rfl, ?_⟩) (by assumption) ?_
  · (intro w hSw; (try dsimp only at hSw); go_simp)
  try simp only [Act.put, List.setIfInBounds_toArray, List.set_cons_zero, List.set_cons_succ]
  refine wpAnyH_take (i := 21) (oi := { dst := Option.some 2, op := Go.Op.assign (Go.Operand.tmp 64), type := 9, pos := "ref.go:219", after := #[{ on := 20, ground := Go.Ground.data }, { on := 18, ground := Go.Ground.chain }, { on := 0, ground := Go.Ground.phase }, { on := 1, ground := Go.Ground.phase }, { on := 2, ground := Go.Ground.phase }, { on := 3, ground := Go.Ground.phase }, { on := 4, ground := Go.Ground.phase }, { on := 5, ground := Go.Ground.phase }, { on := 6, ground := Go.Ground.phase }, { on := 7, ground := Go.Ground.phase }, { on := 8, ground := Go.Ground.phase }, { on := 9, ground := Go.Ground.phase }, { on := 10, ground := Go.Ground.phase }, { on := 11, ground := Go.Ground.phase }, { on := 12, ground := Go.Ground.phase }, { on := 13, ground := Go.Ground.phase }, { on := 14, ground := Go.Ground.phase }, { on := 15, ground := Go.Ground.phase }, { on := 16, ground := Go.Ground.phase }, { on := 17, ground := Go.Ground.phase }, { on := 18, ground := Go.Ground.phase }, { on := 19, ground := Go.Ground.phase }, { on := 20, ground := Go.Ground.phase }], guard := Option.none }) (v := ?_) rfl (by kernel_rfl) (by kernel_rfl) (by kernel_rfl) (fun _ _ _ h => h) (Or.inl ⟨by rfl, ?_⟩) (by assumption) ?_
  rotate_left
  · (intro w hSw; (try dsimp only at hSw); go_simp; try with_reducible rfl)
  try simp only [Act.put, List.setIfInBounds_toArray, List.set_cons_zero, List.set_cons_succ]
  refine wpAnyH_done (by kernel_rfl) ?_ _
  have HE := Lib.hid (HB1.out.trans (HS.mono HB1.out.size))
  go_wp2_with fail
  go_ret
  exact ⟨ret_strE HF.out.symm, HE.out⟩

set_option maxRecDepth 100000 in
set_option maxHeartbeats 6400000 in
theorem re_two (n : Nat) (ih : RE n) (op : Int) (hop : 6 ≤ op ∧ op ≤ 20) (wd : Nat) (nm : List UInt8) (b2 o2 c N : Nat) (w : World) (hG : Glob w) (hN : N ≤ w.heap.size) (hbN : b2 < N) (y0 : Ex) (hs0 : y0.size < n) (hm0 : y0.may = true) (hy0 : y0.At w N b2 (o2)) (y1 : Ex) (hs1 : y1.size < n) (hm1 : y1.may = true) (hy1 : y1.At w N b2 (o2 + 4)) (hl : (Ex.mk op wd nm (.cons y0 (.cons y1 .nil))).text.length ≤ 1000000) :
    Calls Tryz.prog 15 #[.agg #[.int .i64 op, .int .u64 (wd : Int), .string (str nm), .slice (some ⟨b2, o2, none⟩) 2 c]] w fun e w' => e = .returned (.string (str (Ex.mk op wd nm (.cons y0 (.cons y1 .nil))).text)) ∧ Below w.heap.size w w' := by
  have ht : (Ex.mk op wd nm (.cons y0 (.cons y1 .nil))).text = ((((([40] ++ y0.text) ++ [32]) ++ signOf op) ++ [32]) ++ y1.text) ++ [41] := by
    rw [Ex.text, textOf, if_neg (by omega), if_neg (by omega), if_neg (by omega), if_neg (by omega), if_neg (by omega), if_neg (by omega)]; rfl
  have hlen : y0.text.length + (signOf op).length + y1.text.length ≤ 1000000 := by rw [ht] at hl; simp at hl; omega
  obtain ⟨W1, hW1⟩ : ∃ W1, w.alloc (.cells #[.int .i64 op, .int .u64 (wd : Int), .string (str nm), .slice (some ⟨b2, o2, none⟩) 2 c] 26) = W1 := ⟨_, rfl⟩
  have HB1 := Lib.hid (show Below w.heap.size w W1 by rw [← hW1]; exact (Below.refl _ _).alloc (Nat.le_refl _) _)
  have HX := Lib.hid (fun w1 hb => cells_later (w0 := W1) (w1 := w1) (b := w.heap.size) (A := #[.int .i64 op, .int .u64 (wd : Int), .string (str nm), .slice (some ⟨b2, o2, none⟩) 2 c]) (t := 26) (by rw [← hW1]; exact heap_alloc_new w _) hb)
  have x0 : W1.cell? ⟨w.heap.size, 0, none⟩ = some (.int .i64 op) := HX.out _ (Below.refl _ _) 0 _ rfl
  have x1 : W1.cell? ⟨w.heap.size, 1, none⟩ = some (.int .u64 (wd : Int)) := HX.out _ (Below.refl _ _) 1 _ rfl
  have x2 : W1.cell? ⟨w.heap.size, 2, none⟩ = some (.string (str nm)) := HX.out _ (Below.refl _ _) 2 _ rfl
  have x3 : W1.cell? ⟨w.heap.size, 3, none⟩ = some (.slice (some ⟨b2, o2, none⟩) 2 c) := HX.out _ (Below.refl _ _) 3 _ rfl
  have hbw : b2 < w.heap.size := by omega
  have hb2 : b2 < W1.heap.size := by have := HB1.out.size; omega
  obtain ⟨q0, c0, e00, e01, e02, e03, ok0⟩ := hy0.open'
  have d00 : W1.cell? ⟨b2, o2, none⟩ = some (.int .i64 y0.op) := (HB1.out.cell hbw).trans e00
  have d01 : W1.cell? ⟨b2, o2 + 1, none⟩ = some (.int .u64 (y0.word : Int)) := (HB1.out.cell hbw).trans e01
  have d02 : W1.cell? ⟨b2, o2 + 2, none⟩ = some (.string (str y0.name)) := (HB1.out.cell hbw).trans e02
  have d03 : W1.cell? ⟨b2, o2 + 3, none⟩ = some (.slice q0 y0.args.len c0) := (HB1.out.cell hbw).trans e03
  have HC0 := Lib.hid (fun (w1 : World) (hb : Below W1.heap.size W1 w1) => ih y0 hs0 hm0 (by omega) q0 c0 w1.heap.size w1 (ok0.later ((HB1.out.trans (hb.mono HB1.out.size)).mono hN) (Nat.le_trans hN (HB1.out.trans (hb.mono HB1.out.size)).size)) (Nat.le_refl _) (hG.later (HB1.out.trans (hb.mono HB1.out.size))))
  unfold Ex.val at HC0
  obtain ⟨q1, c1, e10, e11, e12, e13, ok1⟩ := hy1.open'
  have d10 : W1.cell? ⟨b2, o2 + 4, none⟩ = some (.int .i64 y1.op) := (HB1.out.cell hbw).trans e10
  have d11 : W1.cell? ⟨b2, o2 + 4 + 1, none⟩ = some (.int .u64 (y1.word : Int)) := (HB1.out.cell hbw).trans e11
  have d12 : W1.cell? ⟨b2, o2 + 4 + 2, none⟩ = some (.string (str y1.name)) := (HB1.out.cell hbw).trans e12
  have d13 : W1.cell? ⟨b2, o2 + 4 + 3, none⟩ = some (.slice q1 y1.args.len c1) := (HB1.out.cell hbw).trans e13
  have HC1 := Lib.hid (fun (w1 : World) (hb : Below W1.heap.size W1 w1) => ih y1 hs1 hm1 (by omega) q1 c1 w1.heap.size w1 (ok1.later ((HB1.out.trans (hb.mono HB1.out.size)).mono hN) (Nat.le_trans hN (HB1.out.trans (hb.mono HB1.out.size)).size)) (Nat.le_refl _) (hG.later (HB1.out.trans (hb.mono HB1.out.size))))
  unfold Ex.val at HC1
  clear e00 e01 e02 e03 e10 e11 e12 e13 ok0 hy0 hs0 hm0 ok1 hy1 hs1 hm1
  have HSg := Lib.hid (fun w => refSign_any op w (by omega) (by omega))
  obtain ⟨AS, hAS⟩ : ∃ A, A = str (signOf op) := ⟨_, rfl⟩
  rw [← hAS] at HSg
  obtain ⟨A0, hA0⟩ : ∃ A, A = str y0.text := ⟨_, rfl⟩
  rw [← hA0] at HC0
  obtain ⟨A1, hA1⟩ : ∃ A, A = str y1.text := ⟨_, rfl⟩
  rw [← hA1] at HC1
  obtain ⟨B5, hB5⟩ : ∃ B, B = str ([40] ++ y0.text) := ⟨_, rfl⟩
  obtain ⟨B6, hB6⟩ : ∃ B, B = str (([40] ++ y0.text) ++ [32]) := ⟨_, rfl⟩
  obtain ⟨B10, hB10⟩ : ∃ B, B = str ((([40] ++ y0.text) ++ [32]) ++ signOf op) := ⟨_, rfl⟩
  obtain ⟨B11, hB11⟩ : ∃ B, B = str (((([40] ++ y0.text) ++ [32]) ++ signOf op) ++ [32]) := ⟨_, rfl⟩
  obtain ⟨B17, hB17⟩ : ∃ B, B = str ((((([40] ++ y0.text) ++ [32]) ++ signOf op) ++ [32]) ++ y1.text) := ⟨_, rfl⟩
  obtain ⟨B18, hB18⟩ : ∃ B, B = str (((((([40] ++ y0.text) ++ [32]) ++ signOf op) ++ [32]) ++ y1.text) ++ [41]) := ⟨_, rfl⟩
  have qB5 : ∀ w : World, (Op.stringOp .add ⟨#[40]⟩ A0).run Tryz.prog w = .ok (.string B5) w := fun w => by
    (try rw [hB5]); (try rw [Nat.add_zero]); (try rw [hA0]); exact add_str ([40]) (y0.text) (by simp; omega) w
  have qB6 : ∀ w : World, (Op.stringOp .add B5 ⟨#[32]⟩).run Tryz.prog w = .ok (.string B6) w := fun w => by
    (try rw [hB6]); (try rw [hB5]); (try rw [Nat.add_zero]); exact add_str (([40] ++ y0.text)) ([32]) (by simp; omega) w
  have qB10 : ∀ w : World, (Op.stringOp .add B6 AS).run Tryz.prog w = .ok (.string B10) w := fun w => by
    (try rw [hB10]); (try rw [hB6]); (try rw [hAS]); exact add_str ((([40] ++ y0.text) ++ [32])) (signOf op) (by simp; omega) w
  have qB11 : ∀ w : World, (Op.stringOp .add B10 ⟨#[32]⟩).run Tryz.prog w = .ok (.string B11) w := fun w => by
    (try rw [hB11]); (try rw [hB10]); (try rw [Nat.add_zero]); exact add_str (((([40] ++ y0.text) ++ [32]) ++ signOf op)) ([32]) (by simp; omega) w
  have qB17 : ∀ w : World, (Op.stringOp .add B11 A1).run Tryz.prog w = .ok (.string B17) w := fun w => by
    (try rw [hB17]); (try rw [hB11]); (try rw [hA1]); exact add_str ((((([40] ++ y0.text) ++ [32]) ++ signOf op) ++ [32])) (y1.text) (by simp; omega) w
  have qB18 : ∀ w : World, (Op.stringOp .add B17 ⟨#[41]⟩).run Tryz.prog w = .ok (.string B18) w := fun w => by
    (try rw [hB18]); (try rw [hB17]); (try rw [Nat.add_zero]); exact add_str (((((([40] ++ y0.text) ++ [32]) ++ signOf op) ++ [32]) ++ y1.text)) ([41]) (by simp; omega) w
  have HF := Lib.hid (show str (Ex.mk op wd nm (.cons y0 (.cons y1 .nil))).text = B18 by rw [ht, hB18])
  clear hA0 hA1 hB5 hB6 hB10 hB11 hB17 hB18
  have t1 : (op == 1) = false := by simp; omega
  have t2 : (op == 2) = false := by simp; omega
  have t3 : (op == 3) = false := by simp; omega
  have t4 : (op == 4) = false := by simp; omega
  have t5 : (op == 5) = false := by simp; omega
  have t21 : (op == 21) = false := by simp; omega
  clear hl ht ih hG hop hAS
  go_enter Tryz.func15, Tryz.ntmps15
  go_wp2_with fail
  clear hW1 x0 x1 x2 x3
  have HS : Below W1.heap.size W1 W1.drew := (Below.refl _ _).drew
  refine wp_region_held_drew (S := fun W => Below W1.heap.size W1 W ∧ W.cell? ⟨w.heap.size, 0, none⟩ = some (.int .i64 op) ∧ W.cell? ⟨w.heap.size, 3, none⟩ = some (.slice (some ⟨b2, o2, none⟩) 2 c) ∧ W.cell? ⟨b2, o2, none⟩ = some (.int .i64 y0.op) ∧ W.cell? ⟨b2, o2 + 1, none⟩ = some (.int .u64 (y0.word : Int)) ∧ W.cell? ⟨b2, o2 + 2, none⟩ = some (.string (str y0.name)) ∧ W.cell? ⟨b2, o2 + 3, none⟩ = some (.slice q0 y0.args.len c0) ∧ W.cell? ⟨b2, o2 + 4, none⟩ = some (.int .i64 y1.op) ∧ W.cell? ⟨b2, o2 + 4 + 1, none⟩ = some (.int .u64 (y1.word : Int)) ∧ W.cell? ⟨b2, o2 + 4 + 2, none⟩ = some (.string (str y1.name)) ∧ W.cell? ⟨b2, o2 + 4 + 3, none⟩ = some (.slice q1 y1.args.len c1)) (by kernel_rfl) ?_ (fun hHeld => ?_)
  · exact ⟨HS, HX.out _ HS 0 _ rfl, HX.out _ HS 3 _ rfl, (HS.cell hb2).trans d00, (HS.cell hb2).trans d01, (HS.cell hb2).trans d02, (HS.cell hb2).trans d03, (HS.cell hb2).trans d10, (HS.cell hb2).trans d11, (HS.cell hb2).trans d12, (HS.cell hb2).trans d13⟩
  refine wpAnyH_take (i := 0) (oi := { dst := Option.some 65, op := Go.Op.fieldAddr 26 (Go.Operand.tmp 1) 3, type := 0, pos := "ref.go:221", after := #[], guard := Option.none }) (v := ?_) rfl (by kernel_rfl) (by kernel_rfl) (by kernel_rfl) (fun _ _ _ h => h) (Or.inl ⟨by rfl, ?_⟩) (by assumption) ?_
  rotate_left
  · (intro w hSw; (try dsimp only at hSw); go_simp; try with_reducible rfl)
  try simp only [Act.put, List.setIfInBounds_toArray, List.set_cons_zero, List.set_cons_succ]
  refine wpAnyH_take (i := 1) (oi := { dst := Option.some 66, op := Go.Op.load 24 (Go.Operand.tmp 65), type := 24, pos := "ref.go:221", after := #[{ on := 0, ground := Go.Ground.data }], guard := Option.none }) (v := ?_) rfl (by kernel_rfl) (by kernel_rfl) (by kernel_rfl) (fun _ _ _ h => h) (Or.inl ⟨by rfl, ?_⟩) (by assumption) ?_
  rotate_left
  · (intro w hSw; (try dsimp only at hSw); go_simp; try with_reducible rfl)
  try simp only [Act.put, List.setIfInBounds_toArray, List.set_cons_zero, List.set_cons_succ]
  refine wpAnyH_take (i := 2) (oi := { dst := Option.some 67, op := Go.Op.indexAddr 24 (Go.Operand.tmp 66) (Go.Operand.const (Go.Value.int Go.IntKind.i64 0)), type := 0, pos := "ref.go:221", after := #[{ on := 1, ground := Go.Ground.data }], guard := Option.none }) (v := ?_) rfl (by kernel_rfl) (by kernel_rfl) (by kernel_rfl) (fun _ _ _ h => h) (Or.inl ⟨by rfl, ?_⟩) (by assumption) ?_
  rotate_left
  · (intro w hSw; (try dsimp only at hSw); go_simp; try with_reducible rfl)
  try simp only [Act.put, List.setIfInBounds_toArray, List.set_cons_zero, List.set_cons_succ]
  refine wpAnyH_take (i := 3) (oi := { dst := Option.some 68, op := Go.Op.load 26 (Go.Operand.tmp 67), type := 26, pos := "ref.go:221", after := #[{ on := 2, ground := Go.Ground.data }], guard := Option.none }) (v := ?_) rfl (by kernel_rfl) (by kernel_rfl) (by kernel_rfl) (fun _ _ _ h => h) (Or.inl ⟨by rfl, ?_⟩) (by assumption) ?_
  rotate_left
  · (intro w hSw; (try dsimp only at hSw); go_simp; try with_reducible rfl)
  try simp only [Act.put, List.setIfInBounds_toArray, List.set_cons_zero, List.set_cons_succ]
  refine wpAnyH_take (i := 7) (oi := { dst := Option.some 72, op := Go.Op.fieldAddr 26 (Go.Operand.tmp 1) 0, type := 0, pos := "ref.go:221", after := #[], guard := Option.none }) (v := ?_) rfl (by kernel_rfl) (by kernel_rfl) (by kernel_rfl) (fun _ _ _ h => h) (Or.inl ⟨by rfl, ?_⟩) (by assumption) ?_
  rotate_left
  · (intro w hSw; (try dsimp only at hSw); go_simp; try with_reducible rfl)
  try simp only [Act.put, List.setIfInBounds_toArray, List.set_cons_zero, List.set_cons_succ]
  refine wpAnyH_take (i := 8) (oi := { dst := Option.some 73, op := Go.Op.load 22 (Go.Operand.tmp 72), type := 22, pos := "ref.go:221", after := #[{ on := 7, ground := Go.Ground.data }], guard := Option.none }) (v := ?_) rfl (by kernel_rfl) (by kernel_rfl) (by kernel_rfl) (fun _ _ _ h => h) (Or.inl ⟨by rfl, ?_⟩) (by assumption) ?_
  rotate_left
  · (intro w hSw; (try dsimp only at hSw); go_simp; try with_reducible rfl)
  try simp only [Act.put, List.setIfInBounds_toArray, List.set_cons_zero, List.set_cons_succ]
  refine wpAnyH_take (i := 12) (oi := { dst := Option.some 77, op := Go.Op.fieldAddr 26 (Go.Operand.tmp 1) 3, type := 0, pos := "ref.go:221", after := #[], guard := Option.none }) (v := ?_) rfl (by kernel_rfl) (by kernel_rfl) (by kernel_rfl) (fun _ _ _ h => h) (Or.inl ⟨by rfl, ?_⟩) (by assumption) ?_
  rotate_left
  · (intro w hSw; (try dsimp only at hSw); go_simp; try with_reducible rfl)
  try simp only [Act.put, List.setIfInBounds_toArray, List.set_cons_zero, List.set_cons_succ]
  refine wpAnyH_take (i := 13) (oi := { dst := Option.some 78, op := Go.Op.load 24 (Go.Operand.tmp 77), type := 24, pos := "ref.go:221", after := #[{ on := 12, ground := Go.Ground.data }], guard := Option.none }) (v := ?_) rfl (by kernel_rfl) (by kernel_rfl) (by kernel_rfl) (fun _ _ _ h => h) (Or.inl ⟨by rfl, ?_⟩) (by assumption) ?_
  rotate_left
  · (intro w hSw; (try dsimp only at hSw); go_simp; try with_reducible rfl)
  try simp only [Act.put, List.setIfInBounds_toArray, List.set_cons_zero, List.set_cons_succ]
  refine wpAnyH_take (i := 14) (oi := { dst := Option.some 79, op := Go.Op.indexAddr 24 (Go.Operand.tmp 78) (Go.Operand.const (Go.Value.int Go.IntKind.i64 1)), type := 0, pos := "ref.go:221", after := #[{ on := 13, ground := Go.Ground.data }], guard := Option.none }) (v := ?_) rfl (by kernel_rfl) (by kernel_rfl) (by kernel_rfl) (fun _ _ _ h => h) (Or.inl ⟨by rfl, ?_⟩) (by assumption) ?_
  rotate_left
  · (intro w hSw; (try dsimp only at hSw); go_simp; try with_reducible rfl)
  try simp only [Act.put, List.setIfInBounds_toArray, List.set_cons_zero, List.set_cons_succ]
  refine wpAnyH_take (i := 15) (oi := { dst := Option.some 80, op := Go.Op.load 26 (Go.Operand.tmp 79), type := 26, pos := "ref.go:221", after := #[{ on := 14, ground := Go.Ground.data }], guard := Option.none }) (v := ?_) rfl (by kernel_rfl) (by kernel_rfl) (by kernel_rfl) (fun _ _ _ h => h) (Or.inl ⟨by rfl, ?_⟩) (by assumption) ?_
  rotate_left
  · (intro w hSw; (try dsimp only at hSw); go_simp; try with_reducible rfl)
  try simp only [Act.put, List.setIfInBounds_toArray, List.set_cons_zero, List.set_cons_succ]
  refine wpAnyH_ready (rs := [4]) (by kernel_rfl) (by simp) ?_
  refine AllReadyH.cons (o := { dst := Option.some 69, op := Go.Op.call { callee := Go.Callee.value (Go.Operand.func 15), args := #[Go.Operand.tmp 68], argTypes := #[26] }, type := 9, pos := "ref.go:221", after := #[{ on := 3, ground := Go.Ground.data }], guard := Option.none }) rfl (fun K hK => ?_) AllReadyH.nil
  go_simp
  refine (HC0.out _ HS).mono ?_
  rintro z wa ⟨rfl, hB'⟩
  replace HS := HS.trans (hB'.mono HS.size)
  clear hB'
  refine hK.out _ _ ?_ (fun hHeld => ?_)
  · exact ⟨HS, HX.out _ HS 0 _ rfl, HX.out _ HS 3 _ rfl, (HS.cell hb2).trans d00, (HS.cell hb2).trans d01, (HS.cell hb2).trans d02, (HS.cell hb2).trans d03, (HS.cell hb2).trans d10, (HS.cell hb2).trans d11, (HS.cell hb2).trans d12, (HS.cell hb2).trans d13⟩
  clear hK K
  try simp only [Act.put, List.setIfInBounds_toArray, List.set_cons_zero, List.set_cons_succ]
  refine wpAnyH_take (i := 5) (oi := { dst := Option.some 70, op := Go.Op.binOp Go.BinOp.add 9 (Go.Operand.const (Go.Value.string { data := #[40] })) (Go.Operand.tmp 69) 9, type := 9, pos := "ref.go:221", after := #[{ on := 4, ground := Go.Ground.data }], guard := Option.none }) (v := .string B5) rfl (by kernel_rfl) (by kernel_rfl) (by kernel_rfl) (fun _ _ _ h => h) (Or.inl ⟨by rfl, ?_⟩) (by assumption) ?_
  · (intro w hSw; (try dsimp only at hSw); go_simp)
  try simp only [Act.put, List.setIfInBounds_toArray, List.set_cons_zero, List.set_cons_succ]
  refine wpAnyH_take (i := 6) (oi := { dst := Option.some 71, op := Go.Op.binOp Go.BinOp.add 9 (Go.Operand.tmp 70) (Go.Operand.const (Go.Value.string { data := #[32] })) 9, type := 9, pos := "ref.go:221", after := #[{ on := 5, ground := Go.Ground.data }], guard := Option.none }) (v := .string B6) rfl (by kernel_rfl) (by kernel_rfl) (by kernel_rfl) (fun _ _ _ h => h) (Or.inl ⟨by rfl, ?_⟩) (by assumption) ?_
  · (intro w hSw; (try dsimp only at hSw); go_simp)
  try simp only [Act.put, List.setIfInBounds_toArray, List.set_cons_zero, List.set_cons_succ]
  refine wpAnyH_ready (rs := [9]) (by kernel_rfl) (by simp) ?_
  refine AllReadyH.cons (o := { dst := Option.some 74, op := Go.Op.call { callee := Go.Callee.value (Go.Operand.func 41), args := #[Go.Operand.tmp 73], argTypes := #[22] }, type := 9, pos := "ref.go:221", after := #[{ on := 8, ground := Go.Ground.data }, { on := 4, ground := Go.Ground.chain }], guard := Option.none }) rfl (fun K hK => ?_) AllReadyH.nil
  go_simp
  refine (HSg.out _).mono ?_
  rintro z wa ⟨rfl, hB'⟩
  replace HS := HS.trans (hB'.mono HS.size)
  clear hB'
  refine hK.out _ _ ?_ (fun hHeld => ?_)
  · exact ⟨HS, HX.out _ HS 0 _ rfl, HX.out _ HS 3 _ rfl, (HS.cell hb2).trans d00, (HS.cell hb2).trans d01, (HS.cell hb2).trans d02, (HS.cell hb2).trans d03, (HS.cell hb2).trans d10, (HS.cell hb2).trans d11, (HS.cell hb2).trans d12, (HS.cell hb2).trans d13⟩
  clear hK K
  try simp only [Act.put, List.setIfInBounds_toArray, List.set_cons_zero, List.set_cons_succ]
  refine wpAnyH_take (i := 10) (oi := { dst := Option.some 75, op := Go.Op.binOp Go.BinOp.add 9 (Go.Operand.tmp 71) (Go.Operand.tmp 74) 9, type := 9, pos := "ref.go:221", after := #[{ on := 6, ground := Go.Ground.data }, { on := 9, ground := Go.Ground.data }], guard := Option.none }) (v := .string B10) rfl (by kernel_rfl) (by kernel_rfl) (by kernel_rfl) (fun _ _ _ h => h) (Or.inl ⟨by rfl, ?_⟩) (by assumption) ?_
  · (intro w hSw; (try dsimp only at hSw); go_simp)
  try simp only [Act.put, List.setIfInBounds_toArray, List.set_cons_zero, List.set_cons_succ]
  refine wpAnyH_take (i := 11) (oi := { dst := Option.some 76, op := Go.Op.binOp Go.BinOp.add 9 (Go.Operand.tmp 75) (Go.Operand.const (Go.Value.string { data := #[32] })) 9, type := 9, pos := "ref.go:221", after := #[{ on := 10, ground := Go.Ground.data }], guard := Option.none }) (v := .string B11) rfl (by kernel_rfl) (by kernel_rfl) (by kernel_rfl) (fun _ _ _ h => h) (Or.inl ⟨by rfl, ?_⟩) (by assumption) ?_
  · (intro w hSw; (try dsimp only at hSw); go_simp)
  try simp only [Act.put, List.setIfInBounds_toArray, List.set_cons_zero, List.set_cons_succ]
  refine wpAnyH_ready (rs := [16]) (by kernel_rfl) (by simp) ?_
  refine AllReadyH.cons (o := { dst := Option.some 81, op := Go.Op.call { callee := Go.Callee.value (Go.Operand.func 15), args := #[Go.Operand.tmp 80], argTypes := #[26] }, type := 9, pos := "ref.go:221", after := #[{ on := 15, ground := Go.Ground.data }, { on := 9, ground := Go.Ground.chain }], guard := Option.none }) rfl (fun K hK => ?_) AllReadyH.nil
  go_simp
  refine (HC1.out _ HS).mono ?_
  rintro z wa ⟨rfl, hB'⟩
  replace HS := HS.trans (hB'.mono HS.size)
  clear hB'
  refine hK.out _ _ ?_ (fun hHeld => ?_)
  · exact ⟨HS, HX.out _ HS 0 _ rfl, HX.out _ HS 3 _ rfl, (HS.cell hb2).trans d00, (HS.cell hb2).trans d01, (HS.cell hb2).trans d02, (HS.cell hb2).trans d03, (HS.cell hb2).trans d10, (HS.cell hb2).trans d11, (HS.cell hb2).trans d12, (HS.cell hb2).trans d13⟩
  clear hK K
  try simp only [Act.put, List.setIfInBounds_toArray, List.set_cons_zero, List.set_cons_succ]
  refine wpAnyH_take (i := 17) (oi := { dst := Option.some 82, op := Go.Op.binOp Go.BinOp.add 9 (Go.Operand.tmp 76) (Go.Operand.tmp 81) 9, type := 9, pos := "ref.go:221", after := #[{ on := 11, ground := Go.Ground.data }, { on := 16, ground := Go.Ground.data }], guard := Option.none }) (v := .string B17) rfl (by kernel_rfl) (by kernel_rfl) (by kernel_rfl) (fun _ _ _ h => h) (Or.inl ⟨by rfl, ?_⟩) (by assumption) ?_
  · (intro w hSw; (try dsimp only at hSw); go_simp)
  try simp only [Act.put, List.setIfInBounds_toArray, List.set_cons_zero, List.set_cons_succ]
  refine wpAnyH_take (i := 18) (oi := { dst := Option.some 83, op := Go.Op.binOp Go.BinOp.add 9 (Go.Operand.tmp 82) (Go.Operand.const (Go.Value.string { data := #[41] })) 9, type := 9, pos := "ref.go:221", after := #[{ on := 17, ground := Go.Ground.data }], guard := Option.none }) (v := .string B18) rfl (by kernel_rfl) (by kernel_rfl) (by kernel_rfl) (fun _ _ _ h => h) (Or.inl ⟨by rfl, ?_⟩) (by assumption) ?_
  · (intro w hSw; (try dsimp only at hSw); go_simp)
  try simp only [Act.put, List.setIfInBounds_toArray, List.set_cons_zero, List.set_cons_succ]
  refine wpAnyH_take (i := 19) (oi := { dst := Option.some 2, op := Go.Op.assign (Go.Operand.tmp 83), type := 9, pos := "ref.go:221", after := #[{ on := 18, ground := Go.Ground.data }, { on := 16, ground := Go.Ground.chain }, { on := 0, ground := Go.Ground.phase }, { on := 1, ground := Go.Ground.phase }, { on := 2, ground := Go.Ground.phase }, { on := 3, ground := Go.Ground.phase }, { on := 4, ground := Go.Ground.phase }, { on := 5, ground := Go.Ground.phase }, { on := 6, ground := Go.Ground.phase }, { on := 7, ground := Go.Ground.phase }, { on := 8, ground := Go.Ground.phase }, { on := 9, ground := Go.Ground.phase }, { on := 10, ground := Go.Ground.phase }, { on := 11, ground := Go.Ground.phase }, { on := 12, ground := Go.Ground.phase }, { on := 13, ground := Go.Ground.phase }, { on := 14, ground := Go.Ground.phase }, { on := 15, ground := Go.Ground.phase }, { on := 16, ground := Go.Ground.phase }, { on := 17, ground := Go.Ground.phase }, { on := 18, ground := Go.Ground.phase }], guard := Option.none }) (v := ?_) rfl (by kernel_rfl) (by kernel_rfl) (by kernel_rfl) (fun _ _ _ h => h) (Or.inl ⟨by rfl, ?_⟩) (by assumption) ?_
  rotate_left
  · (intro w hSw; (try dsimp only at hSw); go_simp; try with_reducible rfl)
  try simp only [Act.put, List.setIfInBounds_toArray, List.set_cons_zero, List.set_cons_succ]
  refine wpAnyH_done (by kernel_rfl) ?_ _
  have HE := Lib.hid (HB1.out.trans (HS.mono HB1.out.size))
  go_wp2_with fail
  go_ret
  exact ⟨ret_strE HF.out.symm, HE.out⟩

set_option maxHeartbeats 6400000 in
theorem re_const (wd : Nat) (nm : List UInt8) (p : Option Addr) (l c : Nat) (w : World) (hG : Glob w) (hw : wd < 18446744073709551616) :
    Calls Tryz.prog 15 #[.agg #[.int .i64 1, .int .u64 (wd : Int), .string (str nm), .slice p l c]] w fun e w' => e = .returned (.string (str (Lib.decDigits wd))) ∧ Below w.heap.size w w' := by
  have HB1 := Lib.hid ((Below.refl _ w).alloc (Nat.le_refl _) (.cells #[.int .i64 1, .int .u64 (wd : Int), .string (str nm), .slice p l c] 26))
  have HU := Lib.hid (formatUint_any wd hw _ (hG.later HB1.out))
  clear hG
  go_enter Tryz.func15, Tryz.ntmps15
  go_wp2_with fail
  refine HU.out.mono ?_
  rintro e w2 ⟨rfl, hB⟩
  have HE := Lib.hid (HB1.out.trans (hB.mono HB1.out.size))
  clear hB
  go_wp2_with fail
  go_ret
  exact ⟨rfl, HE.out⟩
set_option maxHeartbeats 6400000 in
theorem re_var (wd : Nat) (nm : List UInt8) (p : Option Addr) (l c : Nat) (w : World) :
    Calls Tryz.prog 15 #[.agg #[.int .i64 2, .int .u64 (wd : Int), .string (str nm), .slice p l c]] w fun e w' => e = .returned (.string (str nm)) ∧ Below w.heap.size w w' := by
  have HB1 := Lib.hid ((Below.refl _ w).alloc (Nat.le_refl _) (.cells #[.int .i64 2, .int .u64 (wd : Int), .string (str nm), .slice p l c] 26))
  go_enter Tryz.func15, Tryz.ntmps15
  go_wp2_with fail
  go_ret
  exact ⟨rfl, HB1.out⟩
theorem re_step (n : Nat) (ih : RE n) : RE (n + 1) := by
  intro x hxs hm hl p c N w hx hN hG
  obtain ⟨op, wd, nm, ar⟩ := x
  obtain ⟨hlen, hma, hok⟩ := may_parts hm
  have hin := hx.1
  have hwd := hx.2
  simp only [Ex.args] at hin
  simp only [Ex.word] at hwd
  simp only [Ex.size] at hxs
  have hop : op = 1 ∨ op = 2 ∨ op = 3 ∨ op = 4 ∨ op = 5 ∨ op = 21 ∨ (6 ≤ op ∧ op ≤ 20) := by
    rcases Int.lt_or_le op 1 with h | h
    · rw [okOp_no (by omega)] at hok; cases hok
    · rcases Int.lt_or_le 21 op with h' | h'
      · rw [okOp_no (by omega)] at hok; cases hok
      · omega
  have one : ar.len = 1 → ∃ y, ar = .cons y .nil ∧ y.size < n ∧ y.may = true ∧ ∃ b2 o2, p = some ⟨b2, o2, none⟩ ∧ b2 < N ∧ y.At w N b2 o2 := fun h => by
    obtain ⟨y, rfl⟩ := Exs.one h
    simp only [Exs.size] at hxs
    rw [Exs.may, Bool.and_eq_true] at hma
    obtain ⟨b2, o2, e1, e2, e3⟩ := Exs.In.some' (l := .cons y .nil) hin (by simp [Exs.len])
    exact ⟨y, rfl, by omega, hma.1, b2, o2, e1, e2, e3.1⟩
  rcases hop with rfl | rfl | rfl | rfl | rfl | rfl | hop
  · exact re_const wd nm p _ c w hG hwd
  · exact re_var wd nm p _ c w
  · obtain ⟨y, rfl, hys, hym, b2, o2, rfl, hb, hy⟩ := one hlen
    exact re_index n ih wd nm b2 o2 c N w hG hN hb y hys hym hy hl
  · obtain ⟨y, rfl, hys, hym, b2, o2, rfl, hb, hy⟩ := one hlen
    exact re_not n ih wd nm b2 o2 c N w hG hN hb y hys hym hy hl
  · obtain ⟨y, rfl, hys, hym, b2, o2, rfl, hb, hy⟩ := one hlen
    exact re_neg n ih wd nm b2 o2 c N w hG hN hb y hys hym hy hl
  · obtain ⟨y, z, u, rfl⟩ : ∃ y z u, ar = .cons y (.cons z (.cons u .nil)) := by
      cases ar with
      | nil => simp [Exs.len, argsN] at hlen
      | cons y r => cases r with
        | nil => simp [Exs.len, argsN] at hlen
        | cons z r => cases r with
          | nil => simp [Exs.len, argsN] at hlen
          | cons u r => cases r with
            | nil => exact ⟨y, z, u, rfl⟩
            | cons => simp [Exs.len, argsN] at hlen
    simp only [Exs.size] at hxs
    rw [Exs.may, Exs.may, Exs.may, Bool.and_eq_true, Bool.and_eq_true, Bool.and_eq_true] at hma
    obtain ⟨b2, o2, rfl, e2, e3⟩ := Exs.In.some' (l := .cons y (.cons z (.cons u .nil))) hin (by simp [Exs.len])
    exact re_pick n ih wd nm b2 o2 c N w hG hN e2 y (by omega) hma.1 e3.1 z (by omega) hma.2.1 e3.2.1 u (by omega) hma.2.2.1 e3.2.2.1 hl
  · have h2' : ar.len = 2 := by rw [hlen, argsN, if_neg (by omega), if_pos hop]
    obtain ⟨y, z, rfl⟩ := Exs.two h2'
    simp only [Exs.size] at hxs
    rw [Exs.may, Exs.may, Bool.and_eq_true, Bool.and_eq_true] at hma
    obtain ⟨b2, o2, rfl, e2, e3⟩ := Exs.In.some' (l := .cons y (.cons z .nil)) hin (by simp [Exs.len])
    exact re_two n ih op hop wd nm b2 o2 c N w hG hN e2 y (by omega) hma.1 e3.1 z (by omega) hma.2.1 e3.2.1 hl
theorem re_to : ∀ n, RE n
  | 0 => fun _ h => absurd h (Nat.not_lt_zero _)
  | n + 1 => re_step n (re_to n)
theorem rExpr_any (x : Ex) (hm : x.may = true) (hl : x.text.length ≤ 1000000) (p : Option Addr) (c N : Nat) (w : World) (h : x.Ok w N p) (hN : N ≤ w.heap.size) (hG : Glob w) :
    Calls Tryz.prog 15 #[x.val p c] w fun e w' => e = .returned (.string (str x.text)) ∧ Below w.heap.size w w' :=
  re_to _ x (Nat.lt_succ_self _) hm hl p c N w h hN hG
end Go.Proofs.YtlhbledakddbbaaGreatDoor
