/- K1, K2, V1, V2 as one. -/
import Derived.Laws.Concat
import Derived.Deep.RegionHeld
import Derived.WalkMore
import Derived.Deep.CutBlock
import Derived.Deep.CutRange
import Derived.Test.YtlhbledakddbbaaGreatDoorZaD
/- A statement's first line: the program's firstLine. -/
namespace Go.Proofs.YtlhbledakddbbaaGreatDoor
open Go.RowKit

/-- the cells of a statement that lies there, its expressions as they lie -/
theorem St.At.parts {w : World} {N : Nat} {kd : Int} {nm : List UInt8} {ns : List (List UInt8)} {e a : Ex} {g : Exs} {lo hi : Nat} {bd el : Sts} {b o : Nat} (h : (St.mk kd nm ns e a g lo hi bd el).At w N b o) :
    w.cell? ⟨b, o, none⟩ = some (.int .i64 kd) ∧ w.cell? ⟨b, o + 1, none⟩ = some (.string (str nm)) ∧ e.At w N b (o + 3) ∧ a.At w N b (o + 7) ∧ (∃ p c, w.cell? ⟨b, o + 2, none⟩ = some (.slice p ns.length c) ∧ (ns.length ≤ c ∧ RowIn N (StrAt w) 1 ns p)) ∧
    (∃ p c, w.cell? ⟨b, o + 11, none⟩ = some (.slice p g.len c) ∧ g.In w N p) ∧ w.cell? ⟨b, o + 12, none⟩ = some (.int .u64 (lo : Int)) ∧ w.cell? ⟨b, o + 13, none⟩ = some (.int .u64 (hi : Int)) ∧ lo < 18446744073709551616 ∧ hi < 18446744073709551616 ∧
    (∃ p c, w.cell? ⟨b, o + 14, none⟩ = some (.slice p bd.len c) ∧ bd.In w N p) ∧ (∃ p c, w.cell? ⟨b, o + 15, none⟩ = some (.slice p el.len c) ∧ el.In w N p) := by
  obtain ⟨⟨h0, h1, h2, h3, h4, h5⟩, s1, he, ha, s2, s3, s4⟩ := h
  exact ⟨h0, h1, he, ha, s1, s2, h2, h3, h4, h5, s3, s4⟩
theorem Glob.tab {w : World} (h : Glob w) (B : Nat) (hB : w.heap.size ≤ B) : Lib.TabBelow Tryz.prog B w "internal/strconv.uint64pow10" .u64 Lib.pow10Tab := fun w2 h2 => h w2 (h2.mono hB)

set_option maxRecDepth 100000 in
set_option maxHeartbeats 6400000 in
theorem first_1 (nm : List UInt8) (ns : List (List UInt8)) (e a : Ex) (g : Exs) (lo hi : Nat) (bd el : Sts) (he : e.may = true) (b o m : Nat) (w : World) (hb : b < w.heap.size) (hx : (St.mk 1 nm ns e a g lo hi bd el).At w w.heap.size b o) (hmp : w.heap[m]? = some (fmap signT)) (hG : Glob w) (hl : (St.mk 1 nm ns e a g lo hi bd el).first.length ≤ 1000000) :
    Calls Tryz.prog 109 #[.agg #[.map (some m)], .pointer (some ⟨b, o, none⟩)] w fun z w' => z = .returned (.string (str (St.mk 1 nm ns e a g lo hi bd el).first)) ∧ Below w.heap.size w w' := by
  have ht : (St.mk 1 nm ns e a g lo hi bd el).first = ((nm ++ [32, 61, 32]) ++ e.text) ++ [59] := by rw [← first_eq, firstT, if_pos rfl]
  have hlen : nm.length + e.text.length ≤ 1000000 := by rw [ht] at hl; simp only [List.length_append, List.length_cons, List.length_nil] at hl; omega
  obtain ⟨W1, hW1⟩ : ∃ W1, w.alloc (.cells #[.map (some m)] 68) = W1 := ⟨_, rfl⟩
  have hB1 : Below w.heap.size w W1 := by rw [← hW1]; exact (Below.refl _ _).alloc (Nat.le_refl _) _
  have hz1 : W1.heap.size = w.heap.size + 1 := by rw [← hW1]; simp
  have xt : W1.cell? ⟨w.heap.size, 0, none⟩ = some (.map (some m)) := cell_block (show W1.heap[w.heap.size]? = some (.cells #[.map (some m)] 68 (0, 0)) by rw [← hW1]; exact heap_alloc_new w _) rfl
  obtain ⟨y0, y1, ye, ya, ⟨pn, cn, y2, hcn, sn⟩, ⟨pg, cg, y11, sg⟩, y12, y13, hlo, hhi, _, _⟩ := hx.parts
  have x0 := (hB1.cell hb).trans y0
  have x1 := (hB1.cell hb).trans y1
  have x2 := (hB1.cell hb).trans y2
  have x11 := (hB1.cell hb).trans y11
  have x12 := (hB1.cell hb).trans y12
  have x13 := (hB1.cell hb).trans y13
  have hmp1 := (hB1.block m (lt_of_block hmp)).trans hmp
  have hb1 : b < W1.heap.size := by omega
  have ht1 : w.heap.size < W1.heap.size := by omega
  have hG1 := hG.later hB1
  have HB1 := Lib.hid hB1
  have HTe := Lib.hid (fun (w1 : World) (hB : Below W1.heap.size W1 w1) => exprText_any e he b (o + 3) m w1 (Nat.lt_of_lt_of_le hb1 hB.size) (Ex.At.later ((hB1.trans (hB.mono hB1.size))) (Nat.le_trans hB1.size hB.size) e b (o + 3) hb ye) ((hB.block m (lt_of_block hmp1)).trans hmp1) (hG1.later hB) (by omega))
  obtain ⟨NM, hNM⟩ : ∃ A, A = str (nm) := ⟨_, rfl⟩
  obtain ⟨A0, hA0⟩ : ∃ A, A = str (e.text) := ⟨_, rfl⟩
  rw [← hNM] at x1
  rw [← hA0] at HTe
  obtain ⟨B4, hB4⟩ : ∃ B, B = str (nm ++ [32, 61, 32]) := ⟨_, rfl⟩
  obtain ⟨B10, hB10⟩ : ∃ B, B = str ((nm ++ [32, 61, 32]) ++ e.text) := ⟨_, rfl⟩
  obtain ⟨B11, hB11⟩ : ∃ B, B = str (((nm ++ [32, 61, 32]) ++ e.text) ++ [59]) := ⟨_, rfl⟩
  have qB4 : ∀ w : World, (Op.stringOp .add NM ⟨#[32, 61, 32]⟩).run Tryz.prog w = .ok (.string B4) w := fun w => by
    (try rw [hB4]); (try rw [hNM]); exact add_str (nm) ([32, 61, 32]) (by simp only [List.length_cons, List.length_nil] at hlen ⊢; omega) w
  have qB10 : ∀ w : World, (Op.stringOp .add B4 A0).run Tryz.prog w = .ok (.string B10) w := fun w => by
    (try rw [hB10]); (try rw [hB4]); (try rw [hA0]); exact add_str ((nm ++ [32, 61, 32])) (e.text) (by simp only [List.length_append, List.length_cons, List.length_nil] at hlen ⊢; omega) w
  have qB11 : ∀ w : World, (Op.stringOp .add B10 ⟨#[59]⟩).run Tryz.prog w = .ok (.string B11) w := fun w => by
    (try rw [hB11]); (try rw [hB10]); exact add_str (((nm ++ [32, 61, 32]) ++ e.text)) ([59]) (by simp only [List.length_append, List.length_cons, List.length_nil] at hlen ⊢; omega) w
  have HF := Lib.hid (show str (St.mk 1 nm ns e a g lo hi bd el).first = B11 by rw [ht, hB11])
  clear hNM hA0 hB4 hB10 hB11 hl ht hx y0 y1 y2 y11 y12 y13 ye ya sn sg hG hG1 hmp hmp1 hB1 hlo hhi x2 x11 x12 x13
  go_enter Tryz.func109, Tryz.ntmps109
  go_wp2_with fail
  clear hW1 x0
  have HS : Below W1.heap.size W1 W1.drew := (Below.refl _ _).drew
  refine wp_region_held_drew (S := fun W => Below W1.heap.size W1 W ∧ W.cell? ⟨w.heap.size, 0, none⟩ = some (.map (some m)) ∧ W.cell? ⟨b, o + 1, none⟩ = some (.string NM)) (by kernel_rfl) ?_ (fun hHeld => ?_)
  · exact ⟨HS, (HS.cell ht1).trans xt, (HS.cell hb1).trans x1⟩
  refine wpAnyH_take (i := 0) (oi := { dst := Option.some 12, op := Go.Op.move (Go.Operand.tmp 1), type := 145, pos := "lines.go:84", after := #[], guard := Option.none }) (v := ?_) rfl (by kernel_rfl) (by kernel_rfl) (by kernel_rfl) (fun _ _ _ h => h) (Or.inl ⟨by rfl, ?_⟩) (by assumption) ?_
  rotate_left
  · (intro w hSw; (try dsimp only at hSw); go_simp; try with_reducible rfl)
  try simp only [Act.put, List.setIfInBounds_toArray, List.set_cons_zero, List.set_cons_succ]
  refine wpAnyH_take (i := 1) (oi := { dst := Option.some 13, op := Go.Op.nilCheck (Go.Operand.tmp 12), type := 0, pos := "lines.go:84", after := #[{ on := 0, ground := Go.Ground.data }], guard := Option.none }) (v := ?_) rfl (by kernel_rfl) (by kernel_rfl) (by kernel_rfl) (fun _ _ _ h => h) (Or.inl ⟨by rfl, ?_⟩) (by assumption) ?_
  rotate_left
  · (intro w hSw; (try dsimp only at hSw); go_simp; try with_reducible rfl)
  try simp only [Act.put, List.setIfInBounds_toArray, List.set_cons_zero, List.set_cons_succ]
  refine wpAnyH_take (i := 2) (oi := { dst := Option.some 14, op := Go.Op.fieldAddr 54 (Go.Operand.tmp 13) 1, type := 0, pos := "lines.go:84", after := #[{ on := 1, ground := Go.Ground.data }], guard := Option.none }) (v := ?_) rfl (by kernel_rfl) (by kernel_rfl) (by kernel_rfl) (fun _ _ _ h => h) (Or.inl ⟨by rfl, ?_⟩) (by assumption) ?_
  rotate_left
  · (intro w hSw; (try dsimp only at hSw); go_simp; try with_reducible rfl)
  try simp only [Act.put, List.setIfInBounds_toArray, List.set_cons_zero, List.set_cons_succ]
  refine wpAnyH_take (i := 3) (oi := { dst := Option.some 15, op := Go.Op.load 9 (Go.Operand.tmp 14), type := 9, pos := "lines.go:84", after := #[{ on := 2, ground := Go.Ground.data }], guard := Option.none }) (v := ?_) rfl (by kernel_rfl) (by kernel_rfl) (by kernel_rfl) (fun _ _ _ h => h) (Or.inl ⟨by rfl, ?_⟩) (by assumption) ?_
  rotate_left
  · (intro w hSw; (try dsimp only at hSw); go_simp; try with_reducible rfl)
  try simp only [Act.put, List.setIfInBounds_toArray, List.set_cons_zero, List.set_cons_succ]
  refine wpAnyH_take (i := 4) (oi := { dst := Option.some 16, op := Go.Op.binOp Go.BinOp.add 9 (Go.Operand.tmp 15) (Go.Operand.const (Go.Value.string { data := #[32, 61, 32] })) 9, type := 9, pos := "lines.go:84", after := #[{ on := 3, ground := Go.Ground.data }], guard := Option.none }) (v := .string B4) rfl (by kernel_rfl) (by kernel_rfl) (by kernel_rfl) (fun _ _ _ h => h) (Or.inl ⟨by rfl, ?_⟩) (by assumption) ?_
  · (intro w hSw; (try dsimp only at hSw); go_simp)
  try simp only [Act.put, List.setIfInBounds_toArray, List.set_cons_zero, List.set_cons_succ]
  refine wpAnyH_take (i := 5) (oi := { dst := Option.some 17, op := Go.Op.load 68 (Go.Operand.tmp 2), type := 68, pos := "lines.go:84", after := #[], guard := Option.none }) (v := ?_) rfl (by kernel_rfl) (by kernel_rfl) (by kernel_rfl) (fun _ _ _ h => h) (Or.inl ⟨by rfl, ?_⟩) (by assumption) ?_
  rotate_left
  · (intro w hSw; (try dsimp only at hSw); go_simp; try with_reducible rfl)
  try simp only [Act.put, List.setIfInBounds_toArray, List.set_cons_zero, List.set_cons_succ]
  refine wpAnyH_take (i := 6) (oi := { dst := Option.some 18, op := Go.Op.move (Go.Operand.tmp 1), type := 145, pos := "lines.go:84", after := #[], guard := Option.none }) (v := ?_) rfl (by kernel_rfl) (by kernel_rfl) (by kernel_rfl) (fun _ _ _ h => h) (Or.inl ⟨by rfl, ?_⟩) (by assumption) ?_
  rotate_left
  · (intro w hSw; (try dsimp only at hSw); go_simp; try with_reducible rfl)
  try simp only [Act.put, List.setIfInBounds_toArray, List.set_cons_zero, List.set_cons_succ]
  refine wpAnyH_take (i := 7) (oi := { dst := Option.some 19, op := Go.Op.nilCheck (Go.Operand.tmp 18), type := 0, pos := "lines.go:84", after := #[{ on := 6, ground := Go.Ground.data }], guard := Option.none }) (v := ?_) rfl (by kernel_rfl) (by kernel_rfl) (by kernel_rfl) (fun _ _ _ h => h) (Or.inl ⟨by rfl, ?_⟩) (by assumption) ?_
  rotate_left
  · (intro w hSw; (try dsimp only at hSw); go_simp; try with_reducible rfl)
  try simp only [Act.put, List.setIfInBounds_toArray, List.set_cons_zero, List.set_cons_succ]
  refine wpAnyH_take (i := 8) (oi := { dst := Option.some 20, op := Go.Op.fieldAddr 54 (Go.Operand.tmp 19) 3, type := 0, pos := "lines.go:84", after := #[{ on := 7, ground := Go.Ground.data }], guard := Option.none }) (v := ?_) rfl (by kernel_rfl) (by kernel_rfl) (by kernel_rfl) (fun _ _ _ h => h) (Or.inl ⟨by rfl, ?_⟩) (by assumption) ?_
  rotate_left
  · (intro w hSw; (try dsimp only at hSw); go_simp; try with_reducible rfl)
  try simp only [Act.put, List.setIfInBounds_toArray, List.set_cons_zero, List.set_cons_succ]
  refine wpAnyH_ready (rs := [9]) (by kernel_rfl) (by simp) ?_
  refine AllReadyH.cons (o := { dst := Option.some 21, op := Go.Op.call { callee := Go.Callee.value (Go.Operand.func 37), args := #[Go.Operand.tmp 17, Go.Operand.tmp 20], argTypes := #[68, 71] }, type := 9, pos := "lines.go:84", after := #[{ on := 5, ground := Go.Ground.data }, { on := 8, ground := Go.Ground.data }], guard := Option.none }) rfl (fun K hK => ?_) AllReadyH.nil
  go_simp
  refine (HTe.out _ HS).mono ?_
  rintro z wa ⟨rfl, hB'⟩
  replace HS := HS.trans (hB'.mono HS.size)
  clear hB'
  refine hK.out _ _ ?_ (fun hHeld => ?_)
  · exact ⟨HS, (HS.cell ht1).trans xt, (HS.cell hb1).trans x1⟩
  clear hK K
  try simp only [Act.put, List.setIfInBounds_toArray, List.set_cons_zero, List.set_cons_succ]
  refine wpAnyH_take (i := 10) (oi := { dst := Option.some 22, op := Go.Op.binOp Go.BinOp.add 9 (Go.Operand.tmp 16) (Go.Operand.tmp 21) 9, type := 9, pos := "lines.go:84", after := #[{ on := 4, ground := Go.Ground.data }, { on := 9, ground := Go.Ground.data }], guard := Option.none }) (v := .string B10) rfl (by kernel_rfl) (by kernel_rfl) (by kernel_rfl) (fun _ _ _ h => h) (Or.inl ⟨by rfl, ?_⟩) (by assumption) ?_
  · (intro w hSw; (try dsimp only at hSw); go_simp)
  try simp only [Act.put, List.setIfInBounds_toArray, List.set_cons_zero, List.set_cons_succ]
  refine wpAnyH_take (i := 11) (oi := { dst := Option.some 23, op := Go.Op.binOp Go.BinOp.add 9 (Go.Operand.tmp 22) (Go.Operand.const (Go.Value.string { data := #[59] })) 9, type := 9, pos := "lines.go:84", after := #[{ on := 10, ground := Go.Ground.data }], guard := Option.none }) (v := .string B11) rfl (by kernel_rfl) (by kernel_rfl) (by kernel_rfl) (fun _ _ _ h => h) (Or.inl ⟨by rfl, ?_⟩) (by assumption) ?_
  · (intro w hSw; (try dsimp only at hSw); go_simp)
  try simp only [Act.put, List.setIfInBounds_toArray, List.set_cons_zero, List.set_cons_succ]
  refine wpAnyH_take (i := 12) (oi := { dst := Option.some 4, op := Go.Op.assign (Go.Operand.tmp 23), type := 9, pos := "lines.go:84", after := #[{ on := 11, ground := Go.Ground.data }, { on := 9, ground := Go.Ground.chain }, { on := 0, ground := Go.Ground.phase }, { on := 1, ground := Go.Ground.phase }, { on := 2, ground := Go.Ground.phase }, { on := 3, ground := Go.Ground.phase }, { on := 4, ground := Go.Ground.phase }, { on := 5, ground := Go.Ground.phase }, { on := 6, ground := Go.Ground.phase }, { on := 7, ground := Go.Ground.phase }, { on := 8, ground := Go.Ground.phase }, { on := 9, ground := Go.Ground.phase }, { on := 10, ground := Go.Ground.phase }, { on := 11, ground := Go.Ground.phase }], guard := Option.none }) (v := ?_) rfl (by kernel_rfl) (by kernel_rfl) (by kernel_rfl) (fun _ _ _ h => h) (Or.inl ⟨by rfl, ?_⟩) (by assumption) ?_
  rotate_left
  · (intro w hSw; (try dsimp only at hSw); go_simp; try with_reducible rfl)
  try simp only [Act.put, List.setIfInBounds_toArray, List.set_cons_zero, List.set_cons_succ]
  refine wpAnyH_done (by kernel_rfl) ?_ _
  have HE := Lib.hid (HB1.out.trans (HS.mono HB1.out.size))
  go_wp2_with fail
  go_ret
  exact ⟨ret_strE HF.out.symm, HE.out⟩
set_option maxRecDepth 100000 in
set_option maxHeartbeats 6400000 in
theorem first_3 (nm : List UInt8) (ns : List (List UInt8)) (e a : Ex) (g : Exs) (lo hi : Nat) (bd el : Sts) (he : e.may = true) (b o m : Nat) (w : World) (hb : b < w.heap.size) (hx : (St.mk 3 nm ns e a g lo hi bd el).At w w.heap.size b o) (hmp : w.heap[m]? = some (fmap signT)) (hG : Glob w) (hl : (St.mk 3 nm ns e a g lo hi bd el).first.length ≤ 1000000) :
    Calls Tryz.prog 109 #[.agg #[.map (some m)], .pointer (some ⟨b, o, none⟩)] w fun z w' => z = .returned (.string (str (St.mk 3 nm ns e a g lo hi bd el).first)) ∧ Below w.heap.size w w' := by
  have ht : (St.mk 3 nm ns e a g lo hi bd el).first = ([105, 102, 32] ++ e.text) ++ [32, 123] := by rw [← first_eq, firstT, if_neg (by decide), if_neg (by decide), if_pos rfl]
  have hlen : e.text.length ≤ 1000000 := by rw [ht] at hl; simp only [List.length_append, List.length_cons, List.length_nil] at hl; omega
  obtain ⟨W1, hW1⟩ : ∃ W1, w.alloc (.cells #[.map (some m)] 68) = W1 := ⟨_, rfl⟩
  have hB1 : Below w.heap.size w W1 := by rw [← hW1]; exact (Below.refl _ _).alloc (Nat.le_refl _) _
  have hz1 : W1.heap.size = w.heap.size + 1 := by rw [← hW1]; simp
  have xt : W1.cell? ⟨w.heap.size, 0, none⟩ = some (.map (some m)) := cell_block (show W1.heap[w.heap.size]? = some (.cells #[.map (some m)] 68 (0, 0)) by rw [← hW1]; exact heap_alloc_new w _) rfl
  obtain ⟨y0, y1, ye, ya, ⟨pn, cn, y2, hcn, sn⟩, ⟨pg, cg, y11, sg⟩, y12, y13, hlo, hhi, _, _⟩ := hx.parts
  have x0 := (hB1.cell hb).trans y0
  have x1 := (hB1.cell hb).trans y1
  have x2 := (hB1.cell hb).trans y2
  have x11 := (hB1.cell hb).trans y11
  have x12 := (hB1.cell hb).trans y12
  have x13 := (hB1.cell hb).trans y13
  have hmp1 := (hB1.block m (lt_of_block hmp)).trans hmp
  have hb1 : b < W1.heap.size := by omega
  have ht1 : w.heap.size < W1.heap.size := by omega
  have hG1 := hG.later hB1
  have HB1 := Lib.hid hB1
  have HTe := Lib.hid (fun (w1 : World) (hB : Below W1.heap.size W1 w1) => exprText_any e he b (o + 3) m w1 (Nat.lt_of_lt_of_le hb1 hB.size) (Ex.At.later ((hB1.trans (hB.mono hB1.size))) (Nat.le_trans hB1.size hB.size) e b (o + 3) hb ye) ((hB.block m (lt_of_block hmp1)).trans hmp1) (hG1.later hB) (by omega))
  obtain ⟨A0, hA0⟩ : ∃ A, A = str (e.text) := ⟨_, rfl⟩
  rw [← hA0] at HTe
  obtain ⟨B5, hB5⟩ : ∃ B, B = str ([105, 102, 32] ++ e.text) := ⟨_, rfl⟩
  obtain ⟨B6, hB6⟩ : ∃ B, B = str (([105, 102, 32] ++ e.text) ++ [32, 123]) := ⟨_, rfl⟩
  have qB5 : ∀ w : World, (Op.stringOp .add ⟨#[105, 102, 32]⟩ A0).run Tryz.prog w = .ok (.string B5) w := fun w => by
    (try rw [hB5]); (try rw [hA0]); exact add_str ([105, 102, 32]) (e.text) (by simp only [List.length_cons, List.length_nil] at hlen ⊢; omega) w
  have qB6 : ∀ w : World, (Op.stringOp .add B5 ⟨#[32, 123]⟩).run Tryz.prog w = .ok (.string B6) w := fun w => by
    (try rw [hB6]); (try rw [hB5]); exact add_str (([105, 102, 32] ++ e.text)) ([32, 123]) (by simp only [List.length_append, List.length_cons, List.length_nil] at hlen ⊢; omega) w
  have HF := Lib.hid (show str (St.mk 3 nm ns e a g lo hi bd el).first = B6 by rw [ht, hB6])
  clear hA0 hB5 hB6 hl ht hx y0 y1 y2 y11 y12 y13 ye ya sn sg hG hG1 hmp hmp1 hB1 hlo hhi x1 x2 x11 x12 x13
  go_enter Tryz.func109, Tryz.ntmps109
  go_wp2_with fail
  clear hW1 x0
  have HS : Below W1.heap.size W1 W1.drew := (Below.refl _ _).drew
  refine wp_region_held_drew (S := fun W => Below W1.heap.size W1 W ∧ W.cell? ⟨w.heap.size, 0, none⟩ = some (.map (some m))) (by kernel_rfl) ?_ (fun hHeld => ?_)
  · exact ⟨HS, (HS.cell ht1).trans xt⟩
  refine wpAnyH_take (i := 0) (oi := { dst := Option.some 46, op := Go.Op.load 68 (Go.Operand.tmp 2), type := 68, pos := "lines.go:88", after := #[], guard := Option.none }) (v := ?_) rfl (by kernel_rfl) (by kernel_rfl) (by kernel_rfl) (fun _ _ _ h => h) (Or.inl ⟨by rfl, ?_⟩) (by assumption) ?_
  rotate_left
  · (intro w hSw; (try dsimp only at hSw); go_simp; try with_reducible rfl)
  try simp only [Act.put, List.setIfInBounds_toArray, List.set_cons_zero, List.set_cons_succ]
  refine wpAnyH_take (i := 1) (oi := { dst := Option.some 47, op := Go.Op.move (Go.Operand.tmp 1), type := 145, pos := "lines.go:88", after := #[], guard := Option.none }) (v := ?_) rfl (by kernel_rfl) (by kernel_rfl) (by kernel_rfl) (fun _ _ _ h => h) (Or.inl ⟨by rfl, ?_⟩) (by assumption) ?_
  rotate_left
  · (intro w hSw; (try dsimp only at hSw); go_simp; try with_reducible rfl)
  try simp only [Act.put, List.setIfInBounds_toArray, List.set_cons_zero, List.set_cons_succ]
  refine wpAnyH_take (i := 2) (oi := { dst := Option.some 48, op := Go.Op.nilCheck (Go.Operand.tmp 47), type := 0, pos := "lines.go:88", after := #[{ on := 1, ground := Go.Ground.data }], guard := Option.none }) (v := ?_) rfl (by kernel_rfl) (by kernel_rfl) (by kernel_rfl) (fun _ _ _ h => h) (Or.inl ⟨by rfl, ?_⟩) (by assumption) ?_
  rotate_left
  · (intro w hSw; (try dsimp only at hSw); go_simp; try with_reducible rfl)
  try simp only [Act.put, List.setIfInBounds_toArray, List.set_cons_zero, List.set_cons_succ]
  refine wpAnyH_take (i := 3) (oi := { dst := Option.some 49, op := Go.Op.fieldAddr 54 (Go.Operand.tmp 48) 3, type := 0, pos := "lines.go:88", after := #[{ on := 2, ground := Go.Ground.data }], guard := Option.none }) (v := ?_) rfl (by kernel_rfl) (by kernel_rfl) (by kernel_rfl) (fun _ _ _ h => h) (Or.inl ⟨by rfl, ?_⟩) (by assumption) ?_
  rotate_left
  · (intro w hSw; (try dsimp only at hSw); go_simp; try with_reducible rfl)
  try simp only [Act.put, List.setIfInBounds_toArray, List.set_cons_zero, List.set_cons_succ]
  refine wpAnyH_ready (rs := [4]) (by kernel_rfl) (by simp) ?_
  refine AllReadyH.cons (o := { dst := Option.some 50, op := Go.Op.call { callee := Go.Callee.value (Go.Operand.func 37), args := #[Go.Operand.tmp 46, Go.Operand.tmp 49], argTypes := #[68, 71] }, type := 9, pos := "lines.go:88", after := #[{ on := 0, ground := Go.Ground.data }, { on := 3, ground := Go.Ground.data }], guard := Option.none }) rfl (fun K hK => ?_) AllReadyH.nil
  go_simp
  refine (HTe.out _ HS).mono ?_
  rintro z wa ⟨rfl, hB'⟩
  replace HS := HS.trans (hB'.mono HS.size)
  clear hB'
  refine hK.out _ _ ?_ (fun hHeld => ?_)
  · exact ⟨HS, (HS.cell ht1).trans xt⟩
  clear hK K
  try simp only [Act.put, List.setIfInBounds_toArray, List.set_cons_zero, List.set_cons_succ]
  refine wpAnyH_take (i := 5) (oi := { dst := Option.some 51, op := Go.Op.binOp Go.BinOp.add 9 (Go.Operand.const (Go.Value.string { data := #[105, 102, 32] })) (Go.Operand.tmp 50) 9, type := 9, pos := "lines.go:88", after := #[{ on := 4, ground := Go.Ground.data }], guard := Option.none }) (v := .string B5) rfl (by kernel_rfl) (by kernel_rfl) (by kernel_rfl) (fun _ _ _ h => h) (Or.inl ⟨by rfl, ?_⟩) (by assumption) ?_
  · (intro w hSw; (try dsimp only at hSw); go_simp)
  try simp only [Act.put, List.setIfInBounds_toArray, List.set_cons_zero, List.set_cons_succ]
  refine wpAnyH_take (i := 6) (oi := { dst := Option.some 52, op := Go.Op.binOp Go.BinOp.add 9 (Go.Operand.tmp 51) (Go.Operand.const (Go.Value.string { data := #[32, 123] })) 9, type := 9, pos := "lines.go:88", after := #[{ on := 5, ground := Go.Ground.data }], guard := Option.none }) (v := .string B6) rfl (by kernel_rfl) (by kernel_rfl) (by kernel_rfl) (fun _ _ _ h => h) (Or.inl ⟨by rfl, ?_⟩) (by assumption) ?_
  · (intro w hSw; (try dsimp only at hSw); go_simp)
  try simp only [Act.put, List.setIfInBounds_toArray, List.set_cons_zero, List.set_cons_succ]
  refine wpAnyH_take (i := 7) (oi := { dst := Option.some 4, op := Go.Op.assign (Go.Operand.tmp 52), type := 9, pos := "lines.go:88", after := #[{ on := 6, ground := Go.Ground.data }, { on := 4, ground := Go.Ground.chain }, { on := 0, ground := Go.Ground.phase }, { on := 1, ground := Go.Ground.phase }, { on := 2, ground := Go.Ground.phase }, { on := 3, ground := Go.Ground.phase }, { on := 4, ground := Go.Ground.phase }, { on := 5, ground := Go.Ground.phase }, { on := 6, ground := Go.Ground.phase }], guard := Option.none }) (v := ?_) rfl (by kernel_rfl) (by kernel_rfl) (by kernel_rfl) (fun _ _ _ h => h) (Or.inl ⟨by rfl, ?_⟩) (by assumption) ?_
  rotate_left
  · (intro w hSw; (try dsimp only at hSw); go_simp; try with_reducible rfl)
  try simp only [Act.put, List.setIfInBounds_toArray, List.set_cons_zero, List.set_cons_succ]
  refine wpAnyH_done (by kernel_rfl) ?_ _
  have HE := Lib.hid (HB1.out.trans (HS.mono HB1.out.size))
  go_wp2_with fail
  go_ret
  exact ⟨ret_strE HF.out.symm, HE.out⟩
set_option maxRecDepth 100000 in
set_option maxHeartbeats 6400000 in
theorem first_4 (nm : List UInt8) (ns : List (List UInt8)) (e a : Ex) (g : Exs) (lo hi : Nat) (bd el : Sts) (he : e.may = true) (b o m : Nat) (w : World) (hb : b < w.heap.size) (hx : (St.mk 4 nm ns e a g lo hi bd el).At w w.heap.size b o) (hmp : w.heap[m]? = some (fmap signT)) (hG : Glob w) (hl : (St.mk 4 nm ns e a g lo hi bd el).first.length ≤ 1000000) :
    Calls Tryz.prog 109 #[.agg #[.map (some m)], .pointer (some ⟨b, o, none⟩)] w fun z w' => z = .returned (.string (str (St.mk 4 nm ns e a g lo hi bd el).first)) ∧ Below w.heap.size w w' := by
  have ht : (St.mk 4 nm ns e a g lo hi bd el).first = ([119, 104, 105, 108, 101, 32] ++ e.text) ++ [32, 123] := by rw [← first_eq, firstT, if_neg (by decide), if_neg (by decide), if_neg (by decide), if_pos rfl]
  have hlen : e.text.length ≤ 1000000 := by rw [ht] at hl; simp only [List.length_append, List.length_cons, List.length_nil] at hl; omega
  obtain ⟨W1, hW1⟩ : ∃ W1, w.alloc (.cells #[.map (some m)] 68) = W1 := ⟨_, rfl⟩
  have hB1 : Below w.heap.size w W1 := by rw [← hW1]; exact (Below.refl _ _).alloc (Nat.le_refl _) _
  have hz1 : W1.heap.size = w.heap.size + 1 := by rw [← hW1]; simp
  have xt : W1.cell? ⟨w.heap.size, 0, none⟩ = some (.map (some m)) := cell_block (show W1.heap[w.heap.size]? = some (.cells #[.map (some m)] 68 (0, 0)) by rw [← hW1]; exact heap_alloc_new w _) rfl
  obtain ⟨y0, y1, ye, ya, ⟨pn, cn, y2, hcn, sn⟩, ⟨pg, cg, y11, sg⟩, y12, y13, hlo, hhi, _, _⟩ := hx.parts
  have x0 := (hB1.cell hb).trans y0
  have x1 := (hB1.cell hb).trans y1
  have x2 := (hB1.cell hb).trans y2
  have x11 := (hB1.cell hb).trans y11
  have x12 := (hB1.cell hb).trans y12
  have x13 := (hB1.cell hb).trans y13
  have hmp1 := (hB1.block m (lt_of_block hmp)).trans hmp
  have hb1 : b < W1.heap.size := by omega
  have ht1 : w.heap.size < W1.heap.size := by omega
  have hG1 := hG.later hB1
  have HB1 := Lib.hid hB1
  have HTe := Lib.hid (fun (w1 : World) (hB : Below W1.heap.size W1 w1) => exprText_any e he b (o + 3) m w1 (Nat.lt_of_lt_of_le hb1 hB.size) (Ex.At.later ((hB1.trans (hB.mono hB1.size))) (Nat.le_trans hB1.size hB.size) e b (o + 3) hb ye) ((hB.block m (lt_of_block hmp1)).trans hmp1) (hG1.later hB) (by omega))
  obtain ⟨A0, hA0⟩ : ∃ A, A = str (e.text) := ⟨_, rfl⟩
  rw [← hA0] at HTe
  obtain ⟨B5, hB5⟩ : ∃ B, B = str ([119, 104, 105, 108, 101, 32] ++ e.text) := ⟨_, rfl⟩
  obtain ⟨B6, hB6⟩ : ∃ B, B = str (([119, 104, 105, 108, 101, 32] ++ e.text) ++ [32, 123]) := ⟨_, rfl⟩
  have qB5 : ∀ w : World, (Op.stringOp .add ⟨#[119, 104, 105, 108, 101, 32]⟩ A0).run Tryz.prog w = .ok (.string B5) w := fun w => by
    (try rw [hB5]); (try rw [hA0]); exact add_str ([119, 104, 105, 108, 101, 32]) (e.text) (by simp only [List.length_cons, List.length_nil] at hlen ⊢; omega) w
  have qB6 : ∀ w : World, (Op.stringOp .add B5 ⟨#[32, 123]⟩).run Tryz.prog w = .ok (.string B6) w := fun w => by
    (try rw [hB6]); (try rw [hB5]); exact add_str (([119, 104, 105, 108, 101, 32] ++ e.text)) ([32, 123]) (by simp only [List.length_append, List.length_cons, List.length_nil] at hlen ⊢; omega) w
  have HF := Lib.hid (show str (St.mk 4 nm ns e a g lo hi bd el).first = B6 by rw [ht, hB6])
  clear hA0 hB5 hB6 hl ht hx y0 y1 y2 y11 y12 y13 ye ya sn sg hG hG1 hmp hmp1 hB1 hlo hhi x1 x2 x11 x12 x13
  go_enter Tryz.func109, Tryz.ntmps109
  go_wp2_with fail
  clear hW1 x0
  have HS : Below W1.heap.size W1 W1.drew := (Below.refl _ _).drew
  refine wp_region_held_drew (S := fun W => Below W1.heap.size W1 W ∧ W.cell? ⟨w.heap.size, 0, none⟩ = some (.map (some m))) (by kernel_rfl) ?_ (fun hHeld => ?_)
  · exact ⟨HS, (HS.cell ht1).trans xt⟩
  refine wpAnyH_take (i := 0) (oi := { dst := Option.some 55, op := Go.Op.load 68 (Go.Operand.tmp 2), type := 68, pos := "lines.go:90", after := #[], guard := Option.none }) (v := ?_) rfl (by kernel_rfl) (by kernel_rfl) (by kernel_rfl) (fun _ _ _ h => h) (Or.inl ⟨by rfl, ?_⟩) (by assumption) ?_
  rotate_left
  · (intro w hSw; (try dsimp only at hSw); go_simp; try with_reducible rfl)
  try simp only [Act.put, List.setIfInBounds_toArray, List.set_cons_zero, List.set_cons_succ]
  refine wpAnyH_take (i := 1) (oi := { dst := Option.some 56, op := Go.Op.move (Go.Operand.tmp 1), type := 145, pos := "lines.go:90", after := #[], guard := Option.none }) (v := ?_) rfl (by kernel_rfl) (by kernel_rfl) (by kernel_rfl) (fun _ _ _ h => h) (Or.inl ⟨by rfl, ?_⟩) (by assumption) ?_
  rotate_left
  · (intro w hSw; (try dsimp only at hSw); go_simp; try with_reducible rfl)
  try simp only [Act.put, List.setIfInBounds_toArray, List.set_cons_zero, List.set_cons_succ]
  refine wpAnyH_take (i := 2) (oi := { dst := Option.some 57, op := Go.Op.nilCheck (Go.Operand.tmp 56), type := 0, pos := "lines.go:90", after := #[{ on := 1, ground := Go.Ground.data }], guard := Option.none }) (v := ?_) rfl (by kernel_rfl) (by kernel_rfl) (by kernel_rfl) (fun _ _ _ h => h) (Or.inl ⟨by rfl, ?_⟩) (by assumption) ?_
  rotate_left
  · (intro w hSw; (try dsimp only at hSw); go_simp; try with_reducible rfl)
  try simp only [Act.put, List.setIfInBounds_toArray, List.set_cons_zero, List.set_cons_succ]
  refine wpAnyH_take (i := 3) (oi := { dst := Option.some 58, op := Go.Op.fieldAddr 54 (Go.Operand.tmp 57) 3, type := 0, pos := "lines.go:90", after := #[{ on := 2, ground := Go.Ground.data }], guard := Option.none }) (v := ?_) rfl (by kernel_rfl) (by kernel_rfl) (by kernel_rfl) (fun _ _ _ h => h) (Or.inl ⟨by rfl, ?_⟩) (by assumption) ?_
  rotate_left
  · (intro w hSw; (try dsimp only at hSw); go_simp; try with_reducible rfl)
  try simp only [Act.put, List.setIfInBounds_toArray, List.set_cons_zero, List.set_cons_succ]
  refine wpAnyH_ready (rs := [4]) (by kernel_rfl) (by simp) ?_
  refine AllReadyH.cons (o := { dst := Option.some 59, op := Go.Op.call { callee := Go.Callee.value (Go.Operand.func 37), args := #[Go.Operand.tmp 55, Go.Operand.tmp 58], argTypes := #[68, 71] }, type := 9, pos := "lines.go:90", after := #[{ on := 0, ground := Go.Ground.data }, { on := 3, ground := Go.Ground.data }], guard := Option.none }) rfl (fun K hK => ?_) AllReadyH.nil
  go_simp
  refine (HTe.out _ HS).mono ?_
  rintro z wa ⟨rfl, hB'⟩
  replace HS := HS.trans (hB'.mono HS.size)
  clear hB'
  refine hK.out _ _ ?_ (fun hHeld => ?_)
  · exact ⟨HS, (HS.cell ht1).trans xt⟩
  clear hK K
  try simp only [Act.put, List.setIfInBounds_toArray, List.set_cons_zero, List.set_cons_succ]
  refine wpAnyH_take (i := 5) (oi := { dst := Option.some 60, op := Go.Op.binOp Go.BinOp.add 9 (Go.Operand.const (Go.Value.string { data := #[119, 104, 105, 108, 101, 32] })) (Go.Operand.tmp 59) 9, type := 9, pos := "lines.go:90", after := #[{ on := 4, ground := Go.Ground.data }], guard := Option.none }) (v := .string B5) rfl (by kernel_rfl) (by kernel_rfl) (by kernel_rfl) (fun _ _ _ h => h) (Or.inl ⟨by rfl, ?_⟩) (by assumption) ?_
  · (intro w hSw; (try dsimp only at hSw); go_simp)
  try simp only [Act.put, List.setIfInBounds_toArray, List.set_cons_zero, List.set_cons_succ]
  refine wpAnyH_take (i := 6) (oi := { dst := Option.some 61, op := Go.Op.binOp Go.BinOp.add 9 (Go.Operand.tmp 60) (Go.Operand.const (Go.Value.string { data := #[32, 123] })) 9, type := 9, pos := "lines.go:90", after := #[{ on := 5, ground := Go.Ground.data }], guard := Option.none }) (v := .string B6) rfl (by kernel_rfl) (by kernel_rfl) (by kernel_rfl) (fun _ _ _ h => h) (Or.inl ⟨by rfl, ?_⟩) (by assumption) ?_
  · (intro w hSw; (try dsimp only at hSw); go_simp)
  try simp only [Act.put, List.setIfInBounds_toArray, List.set_cons_zero, List.set_cons_succ]
  refine wpAnyH_take (i := 7) (oi := { dst := Option.some 4, op := Go.Op.assign (Go.Operand.tmp 61), type := 9, pos := "lines.go:90", after := #[{ on := 6, ground := Go.Ground.data }, { on := 4, ground := Go.Ground.chain }, { on := 0, ground := Go.Ground.phase }, { on := 1, ground := Go.Ground.phase }, { on := 2, ground := Go.Ground.phase }, { on := 3, ground := Go.Ground.phase }, { on := 4, ground := Go.Ground.phase }, { on := 5, ground := Go.Ground.phase }, { on := 6, ground := Go.Ground.phase }], guard := Option.none }) (v := ?_) rfl (by kernel_rfl) (by kernel_rfl) (by kernel_rfl) (fun _ _ _ h => h) (Or.inl ⟨by rfl, ?_⟩) (by assumption) ?_
  rotate_left
  · (intro w hSw; (try dsimp only at hSw); go_simp; try with_reducible rfl)
  try simp only [Act.put, List.setIfInBounds_toArray, List.set_cons_zero, List.set_cons_succ]
  refine wpAnyH_done (by kernel_rfl) ?_ _
  have HE := Lib.hid (HB1.out.trans (HS.mono HB1.out.size))
  go_wp2_with fail
  go_ret
  exact ⟨ret_strE HF.out.symm, HE.out⟩
set_option maxRecDepth 100000 in
set_option maxHeartbeats 6400000 in
theorem first_5 (nm : List UInt8) (ns : List (List UInt8)) (e a : Ex) (g : Exs) (lo hi : Nat) (bd el : Sts)  (b o m : Nat) (w : World) (hb : b < w.heap.size) (hx : (St.mk 5 nm ns e a g lo hi bd el).At w w.heap.size b o) (hmp : w.heap[m]? = some (fmap signT)) (hG : Glob w) (hl : (St.mk 5 nm ns e a g lo hi bd el).first.length ≤ 1000000) :
    Calls Tryz.prog 109 #[.agg #[.map (some m)], .pointer (some ⟨b, o, none⟩)] w fun z w' => z = .returned (.string (str (St.mk 5 nm ns e a g lo hi bd el).first)) ∧ Below w.heap.size w w' := by
  have ht : (St.mk 5 nm ns e a g lo hi bd el).first = ((((([102, 111, 114, 32] ++ nm) ++ [32]) ++ Lib.decDigits lo) ++ [32]) ++ Lib.decDigits hi) ++ [32, 123] := by rw [← first_eq, firstT, if_neg (by decide), if_neg (by decide), if_neg (by decide), if_neg (by decide), if_pos rfl]
  have hlen : nm.length + (Lib.decDigits lo).length + (Lib.decDigits hi).length ≤ 1000000 := by rw [ht] at hl; simp only [List.length_append, List.length_cons, List.length_nil] at hl; omega
  obtain ⟨W1, hW1⟩ : ∃ W1, w.alloc (.cells #[.map (some m)] 68) = W1 := ⟨_, rfl⟩
  have hB1 : Below w.heap.size w W1 := by rw [← hW1]; exact (Below.refl _ _).alloc (Nat.le_refl _) _
  have hz1 : W1.heap.size = w.heap.size + 1 := by rw [← hW1]; simp
  have xt : W1.cell? ⟨w.heap.size, 0, none⟩ = some (.map (some m)) := cell_block (show W1.heap[w.heap.size]? = some (.cells #[.map (some m)] 68 (0, 0)) by rw [← hW1]; exact heap_alloc_new w _) rfl
  obtain ⟨y0, y1, ye, ya, ⟨pn, cn, y2, hcn, sn⟩, ⟨pg, cg, y11, sg⟩, y12, y13, hlo, hhi, _, _⟩ := hx.parts
  have x0 := (hB1.cell hb).trans y0
  have x1 := (hB1.cell hb).trans y1
  have x2 := (hB1.cell hb).trans y2
  have x11 := (hB1.cell hb).trans y11
  have x12 := (hB1.cell hb).trans y12
  have x13 := (hB1.cell hb).trans y13
  have hmp1 := (hB1.block m (lt_of_block hmp)).trans hmp
  have hb1 : b < W1.heap.size := by omega
  have ht1 : w.heap.size < W1.heap.size := by omega
  have hG1 := hG.later hB1
  have HB1 := Lib.hid hB1
  have HLo := Lib.hid (fun (w1 : World) (hB : Below W1.heap.size W1 w1) => formatUint_any lo hlo w1 (hG1.later hB))
  have HHi := Lib.hid (fun (w1 : World) (hB : Below W1.heap.size W1 w1) => formatUint_any hi hhi w1 (hG1.later hB))
  obtain ⟨NM, hNM⟩ : ∃ A, A = str (nm) := ⟨_, rfl⟩
  obtain ⟨A0, hA0⟩ : ∃ A, A = str (Lib.decDigits lo) := ⟨_, rfl⟩
  obtain ⟨A1, hA1⟩ : ∃ A, A = str (Lib.decDigits hi) := ⟨_, rfl⟩
  rw [← hNM] at x1
  rw [← hA0] at HLo
  rw [← hA1] at HHi
  obtain ⟨B4, hB4⟩ : ∃ B, B = str ([102, 111, 114, 32] ++ nm) := ⟨_, rfl⟩
  obtain ⟨B5, hB5⟩ : ∃ B, B = str (([102, 111, 114, 32] ++ nm) ++ [32]) := ⟨_, rfl⟩
  obtain ⟨B11, hB11⟩ : ∃ B, B = str ((([102, 111, 114, 32] ++ nm) ++ [32]) ++ Lib.decDigits lo) := ⟨_, rfl⟩
  obtain ⟨B12, hB12⟩ : ∃ B, B = str (((([102, 111, 114, 32] ++ nm) ++ [32]) ++ Lib.decDigits lo) ++ [32]) := ⟨_, rfl⟩
  obtain ⟨B18, hB18⟩ : ∃ B, B = str ((((([102, 111, 114, 32] ++ nm) ++ [32]) ++ Lib.decDigits lo) ++ [32]) ++ Lib.decDigits hi) := ⟨_, rfl⟩
  obtain ⟨B19, hB19⟩ : ∃ B, B = str (((((([102, 111, 114, 32] ++ nm) ++ [32]) ++ Lib.decDigits lo) ++ [32]) ++ Lib.decDigits hi) ++ [32, 123]) := ⟨_, rfl⟩
  have qB4 : ∀ w : World, (Op.stringOp .add ⟨#[102, 111, 114, 32]⟩ NM).run Tryz.prog w = .ok (.string B4) w := fun w => by
    (try rw [hB4]); (try rw [hNM]); exact add_str ([102, 111, 114, 32]) (nm) (by simp only [List.length_cons, List.length_nil] at hlen ⊢; omega) w
  have qB5 : ∀ w : World, (Op.stringOp .add B4 ⟨#[32]⟩).run Tryz.prog w = .ok (.string B5) w := fun w => by
    (try rw [hB5]); (try rw [hB4]); exact add_str (([102, 111, 114, 32] ++ nm)) ([32]) (by simp only [List.length_append, List.length_cons, List.length_nil] at hlen ⊢; omega) w
  have qB11 : ∀ w : World, (Op.stringOp .add B5 A0).run Tryz.prog w = .ok (.string B11) w := fun w => by
    (try rw [hB11]); (try rw [hB5]); (try rw [hA0]); exact add_str ((([102, 111, 114, 32] ++ nm) ++ [32])) (Lib.decDigits lo) (by simp only [List.length_append, List.length_cons, List.length_nil] at hlen ⊢; omega) w
  have qB12 : ∀ w : World, (Op.stringOp .add B11 ⟨#[32]⟩).run Tryz.prog w = .ok (.string B12) w := fun w => by
    (try rw [hB12]); (try rw [hB11]); exact add_str (((([102, 111, 114, 32] ++ nm) ++ [32]) ++ Lib.decDigits lo)) ([32]) (by simp only [List.length_append, List.length_cons, List.length_nil] at hlen ⊢; omega) w
  have qB18 : ∀ w : World, (Op.stringOp .add B12 A1).run Tryz.prog w = .ok (.string B18) w := fun w => by
    (try rw [hB18]); (try rw [hB12]); (try rw [hA1]); exact add_str ((((([102, 111, 114, 32] ++ nm) ++ [32]) ++ Lib.decDigits lo) ++ [32])) (Lib.decDigits hi) (by simp only [List.length_append, List.length_cons, List.length_nil] at hlen ⊢; omega) w
  have qB19 : ∀ w : World, (Op.stringOp .add B18 ⟨#[32, 123]⟩).run Tryz.prog w = .ok (.string B19) w := fun w => by
    (try rw [hB19]); (try rw [hB18]); exact add_str (((((([102, 111, 114, 32] ++ nm) ++ [32]) ++ Lib.decDigits lo) ++ [32]) ++ Lib.decDigits hi)) ([32, 123]) (by simp only [List.length_append, List.length_cons, List.length_nil] at hlen ⊢; omega) w
  have HF := Lib.hid (show str (St.mk 5 nm ns e a g lo hi bd el).first = B19 by rw [ht, hB19])
  clear hNM hA0 hA1 hB4 hB5 hB11 hB12 hB18 hB19 hl ht hx y0 y1 y2 y11 y12 y13 ye ya sn sg hG hG1 hmp hmp1 hB1 hlo hhi x2 x11
  go_enter Tryz.func109, Tryz.ntmps109
  go_wp2_with fail
  clear hW1 x0
  have HS : Below W1.heap.size W1 W1.drew := (Below.refl _ _).drew
  refine wp_region_held_drew (S := fun W => Below W1.heap.size W1 W ∧ W.cell? ⟨w.heap.size, 0, none⟩ = some (.map (some m)) ∧ W.cell? ⟨b, o + 1, none⟩ = some (.string NM) ∧ W.cell? ⟨b, o + 12, none⟩ = some (.int .u64 (lo : Int)) ∧ W.cell? ⟨b, o + 13, none⟩ = some (.int .u64 (hi : Int))) (by kernel_rfl) ?_ (fun hHeld => ?_)
  · exact ⟨HS, (HS.cell ht1).trans xt, (HS.cell hb1).trans x1, (HS.cell hb1).trans x12, (HS.cell hb1).trans x13⟩
  refine wpAnyH_take (i := 0) (oi := { dst := Option.some 64, op := Go.Op.move (Go.Operand.tmp 1), type := 145, pos := "lines.go:92", after := #[], guard := Option.none }) (v := ?_) rfl (by kernel_rfl) (by kernel_rfl) (by kernel_rfl) (fun _ _ _ h => h) (Or.inl ⟨by rfl, ?_⟩) (by assumption) ?_
  rotate_left
  · (intro w hSw; (try dsimp only at hSw); go_simp; try with_reducible rfl)
  try simp only [Act.put, List.setIfInBounds_toArray, List.set_cons_zero, List.set_cons_succ]
  refine wpAnyH_take (i := 1) (oi := { dst := Option.some 65, op := Go.Op.nilCheck (Go.Operand.tmp 64), type := 0, pos := "lines.go:92", after := #[{ on := 0, ground := Go.Ground.data }], guard := Option.none }) (v := ?_) rfl (by kernel_rfl) (by kernel_rfl) (by kernel_rfl) (fun _ _ _ h => h) (Or.inl ⟨by rfl, ?_⟩) (by assumption) ?_
  rotate_left
  · (intro w hSw; (try dsimp only at hSw); go_simp; try with_reducible rfl)
  try simp only [Act.put, List.setIfInBounds_toArray, List.set_cons_zero, List.set_cons_succ]
  refine wpAnyH_take (i := 2) (oi := { dst := Option.some 66, op := Go.Op.fieldAddr 54 (Go.Operand.tmp 65) 1, type := 0, pos := "lines.go:92", after := #[{ on := 1, ground := Go.Ground.data }], guard := Option.none }) (v := ?_) rfl (by kernel_rfl) (by kernel_rfl) (by kernel_rfl) (fun _ _ _ h => h) (Or.inl ⟨by rfl, ?_⟩) (by assumption) ?_
  rotate_left
  · (intro w hSw; (try dsimp only at hSw); go_simp; try with_reducible rfl)
  try simp only [Act.put, List.setIfInBounds_toArray, List.set_cons_zero, List.set_cons_succ]
  refine wpAnyH_take (i := 3) (oi := { dst := Option.some 67, op := Go.Op.load 9 (Go.Operand.tmp 66), type := 9, pos := "lines.go:92", after := #[{ on := 2, ground := Go.Ground.data }], guard := Option.none }) (v := ?_) rfl (by kernel_rfl) (by kernel_rfl) (by kernel_rfl) (fun _ _ _ h => h) (Or.inl ⟨by rfl, ?_⟩) (by assumption) ?_
  rotate_left
  · (intro w hSw; (try dsimp only at hSw); go_simp; try with_reducible rfl)
  try simp only [Act.put, List.setIfInBounds_toArray, List.set_cons_zero, List.set_cons_succ]
  refine wpAnyH_take (i := 4) (oi := { dst := Option.some 68, op := Go.Op.binOp Go.BinOp.add 9 (Go.Operand.const (Go.Value.string { data := #[102, 111, 114, 32] })) (Go.Operand.tmp 67) 9, type := 9, pos := "lines.go:92", after := #[{ on := 3, ground := Go.Ground.data }], guard := Option.none }) (v := .string B4) rfl (by kernel_rfl) (by kernel_rfl) (by kernel_rfl) (fun _ _ _ h => h) (Or.inl ⟨by rfl, ?_⟩) (by assumption) ?_
  · (intro w hSw; (try dsimp only at hSw); go_simp)
  try simp only [Act.put, List.setIfInBounds_toArray, List.set_cons_zero, List.set_cons_succ]
  refine wpAnyH_take (i := 5) (oi := { dst := Option.some 69, op := Go.Op.binOp Go.BinOp.add 9 (Go.Operand.tmp 68) (Go.Operand.const (Go.Value.string { data := #[32] })) 9, type := 9, pos := "lines.go:92", after := #[{ on := 4, ground := Go.Ground.data }], guard := Option.none }) (v := .string B5) rfl (by kernel_rfl) (by kernel_rfl) (by kernel_rfl) (fun _ _ _ h => h) (Or.inl ⟨by rfl, ?_⟩) (by assumption) ?_
  · (intro w hSw; (try dsimp only at hSw); go_simp)
  try simp only [Act.put, List.setIfInBounds_toArray, List.set_cons_zero, List.set_cons_succ]
  refine wpAnyH_take (i := 6) (oi := { dst := Option.some 70, op := Go.Op.move (Go.Operand.tmp 1), type := 145, pos := "lines.go:92", after := #[], guard := Option.none }) (v := ?_) rfl (by kernel_rfl) (by kernel_rfl) (by kernel_rfl) (fun _ _ _ h => h) (Or.inl ⟨by rfl, ?_⟩) (by assumption) ?_
  rotate_left
  · (intro w hSw; (try dsimp only at hSw); go_simp; try with_reducible rfl)
  try simp only [Act.put, List.setIfInBounds_toArray, List.set_cons_zero, List.set_cons_succ]
  refine wpAnyH_take (i := 7) (oi := { dst := Option.some 71, op := Go.Op.nilCheck (Go.Operand.tmp 70), type := 0, pos := "lines.go:92", after := #[{ on := 6, ground := Go.Ground.data }], guard := Option.none }) (v := ?_) rfl (by kernel_rfl) (by kernel_rfl) (by kernel_rfl) (fun _ _ _ h => h) (Or.inl ⟨by rfl, ?_⟩) (by assumption) ?_
  rotate_left
  · (intro w hSw; (try dsimp only at hSw); go_simp; try with_reducible rfl)
  try simp only [Act.put, List.setIfInBounds_toArray, List.set_cons_zero, List.set_cons_succ]
  refine wpAnyH_take (i := 8) (oi := { dst := Option.some 72, op := Go.Op.fieldAddr 54 (Go.Operand.tmp 71) 6, type := 0, pos := "lines.go:92", after := #[{ on := 7, ground := Go.Ground.data }], guard := Option.none }) (v := ?_) rfl (by kernel_rfl) (by kernel_rfl) (by kernel_rfl) (fun _ _ _ h => h) (Or.inl ⟨by rfl, ?_⟩) (by assumption) ?_
  rotate_left
  · (intro w hSw; (try dsimp only at hSw); go_simp; try with_reducible rfl)
  try simp only [Act.put, List.setIfInBounds_toArray, List.set_cons_zero, List.set_cons_succ]
  refine wpAnyH_take (i := 9) (oi := { dst := Option.some 73, op := Go.Op.load 23 (Go.Operand.tmp 72), type := 23, pos := "lines.go:92", after := #[{ on := 8, ground := Go.Ground.data }], guard := Option.none }) (v := ?_) rfl (by kernel_rfl) (by kernel_rfl) (by kernel_rfl) (fun _ _ _ h => h) (Or.inl ⟨by rfl, ?_⟩) (by assumption) ?_
  rotate_left
  · (intro w hSw; (try dsimp only at hSw); go_simp; try with_reducible rfl)
  try simp only [Act.put, List.setIfInBounds_toArray, List.set_cons_zero, List.set_cons_succ]
  refine wpAnyH_take (i := 13) (oi := { dst := Option.some 77, op := Go.Op.move (Go.Operand.tmp 1), type := 145, pos := "lines.go:92", after := #[], guard := Option.none }) (v := ?_) rfl (by kernel_rfl) (by kernel_rfl) (by kernel_rfl) (fun _ _ _ h => h) (Or.inl ⟨by rfl, ?_⟩) (by assumption) ?_
  rotate_left
  · (intro w hSw; (try dsimp only at hSw); go_simp; try with_reducible rfl)
  try simp only [Act.put, List.setIfInBounds_toArray, List.set_cons_zero, List.set_cons_succ]
  refine wpAnyH_take (i := 14) (oi := { dst := Option.some 78, op := Go.Op.nilCheck (Go.Operand.tmp 77), type := 0, pos := "lines.go:92", after := #[{ on := 13, ground := Go.Ground.data }], guard := Option.none }) (v := ?_) rfl (by kernel_rfl) (by kernel_rfl) (by kernel_rfl) (fun _ _ _ h => h) (Or.inl ⟨by rfl, ?_⟩) (by assumption) ?_
  rotate_left
  · (intro w hSw; (try dsimp only at hSw); go_simp; try with_reducible rfl)
  try simp only [Act.put, List.setIfInBounds_toArray, List.set_cons_zero, List.set_cons_succ]
  refine wpAnyH_take (i := 15) (oi := { dst := Option.some 79, op := Go.Op.fieldAddr 54 (Go.Operand.tmp 78) 7, type := 0, pos := "lines.go:92", after := #[{ on := 14, ground := Go.Ground.data }], guard := Option.none }) (v := ?_) rfl (by kernel_rfl) (by kernel_rfl) (by kernel_rfl) (fun _ _ _ h => h) (Or.inl ⟨by rfl, ?_⟩) (by assumption) ?_
  rotate_left
  · (intro w hSw; (try dsimp only at hSw); go_simp; try with_reducible rfl)
  try simp only [Act.put, List.setIfInBounds_toArray, List.set_cons_zero, List.set_cons_succ]
  refine wpAnyH_take (i := 16) (oi := { dst := Option.some 80, op := Go.Op.load 23 (Go.Operand.tmp 79), type := 23, pos := "lines.go:92", after := #[{ on := 15, ground := Go.Ground.data }], guard := Option.none }) (v := ?_) rfl (by kernel_rfl) (by kernel_rfl) (by kernel_rfl) (fun _ _ _ h => h) (Or.inl ⟨by rfl, ?_⟩) (by assumption) ?_
  rotate_left
  · (intro w hSw; (try dsimp only at hSw); go_simp; try with_reducible rfl)
  try simp only [Act.put, List.setIfInBounds_toArray, List.set_cons_zero, List.set_cons_succ]
  refine wpAnyH_ready (rs := [10]) (by kernel_rfl) (by simp) ?_
  refine AllReadyH.cons (o := { dst := Option.some 74, op := Go.Op.call { callee := Go.Callee.value (Go.Operand.func 40), args := #[Go.Operand.tmp 73, Go.Operand.const (Go.Value.int Go.IntKind.i64 10)], argTypes := #[23, 3] }, type := 9, pos := "lines.go:92", after := #[{ on := 9, ground := Go.Ground.data }], guard := Option.none }) rfl (fun K hK => ?_) AllReadyH.nil
  go_simp
  refine (HLo.out _ HS).mono ?_
  rintro z wa ⟨rfl, hB'⟩
  replace HS := HS.trans (hB'.mono HS.size)
  clear hB'
  refine hK.out _ _ ?_ (fun hHeld => ?_)
  · exact ⟨HS, (HS.cell ht1).trans xt, (HS.cell hb1).trans x1, (HS.cell hb1).trans x12, (HS.cell hb1).trans x13⟩
  clear hK K
  try simp only [Act.put, List.setIfInBounds_toArray, List.set_cons_zero, List.set_cons_succ]
  refine wpAnyH_take (i := 11) (oi := { dst := Option.some 75, op := Go.Op.binOp Go.BinOp.add 9 (Go.Operand.tmp 69) (Go.Operand.tmp 74) 9, type := 9, pos := "lines.go:92", after := #[{ on := 5, ground := Go.Ground.data }, { on := 10, ground := Go.Ground.data }], guard := Option.none }) (v := .string B11) rfl (by kernel_rfl) (by kernel_rfl) (by kernel_rfl) (fun _ _ _ h => h) (Or.inl ⟨by rfl, ?_⟩) (by assumption) ?_
  · (intro w hSw; (try dsimp only at hSw); go_simp)
  try simp only [Act.put, List.setIfInBounds_toArray, List.set_cons_zero, List.set_cons_succ]
  refine wpAnyH_take (i := 12) (oi := { dst := Option.some 76, op := Go.Op.binOp Go.BinOp.add 9 (Go.Operand.tmp 75) (Go.Operand.const (Go.Value.string { data := #[32] })) 9, type := 9, pos := "lines.go:92", after := #[{ on := 11, ground := Go.Ground.data }], guard := Option.none }) (v := .string B12) rfl (by kernel_rfl) (by kernel_rfl) (by kernel_rfl) (fun _ _ _ h => h) (Or.inl ⟨by rfl, ?_⟩) (by assumption) ?_
  · (intro w hSw; (try dsimp only at hSw); go_simp)
  try simp only [Act.put, List.setIfInBounds_toArray, List.set_cons_zero, List.set_cons_succ]
  refine wpAnyH_ready (rs := [17]) (by kernel_rfl) (by simp) ?_
  refine AllReadyH.cons (o := { dst := Option.some 81, op := Go.Op.call { callee := Go.Callee.value (Go.Operand.func 40), args := #[Go.Operand.tmp 80, Go.Operand.const (Go.Value.int Go.IntKind.i64 10)], argTypes := #[23, 3] }, type := 9, pos := "lines.go:92", after := #[{ on := 16, ground := Go.Ground.data }, { on := 10, ground := Go.Ground.chain }], guard := Option.none }) rfl (fun K hK => ?_) AllReadyH.nil
  go_simp
  refine (HHi.out _ HS).mono ?_
  rintro z wa ⟨rfl, hB'⟩
  replace HS := HS.trans (hB'.mono HS.size)
  clear hB'
  refine hK.out _ _ ?_ (fun hHeld => ?_)
  · exact ⟨HS, (HS.cell ht1).trans xt, (HS.cell hb1).trans x1, (HS.cell hb1).trans x12, (HS.cell hb1).trans x13⟩
  clear hK K
  try simp only [Act.put, List.setIfInBounds_toArray, List.set_cons_zero, List.set_cons_succ]
  refine wpAnyH_take (i := 18) (oi := { dst := Option.some 82, op := Go.Op.binOp Go.BinOp.add 9 (Go.Operand.tmp 76) (Go.Operand.tmp 81) 9, type := 9, pos := "lines.go:92", after := #[{ on := 12, ground := Go.Ground.data }, { on := 17, ground := Go.Ground.data }], guard := Option.none }) (v := .string B18) rfl (by kernel_rfl) (by kernel_rfl) (by kernel_rfl) (fun _ _ _ h => h) (Or.inl ⟨by rfl, ?_⟩) (by assumption) ?_
  · (intro w hSw; (try dsimp only at hSw); go_simp)
  try simp only [Act.put, List.setIfInBounds_toArray, List.set_cons_zero, List.set_cons_succ]
  refine wpAnyH_take (i := 19) (oi := { dst := Option.some 83, op := Go.Op.binOp Go.BinOp.add 9 (Go.Operand.tmp 82) (Go.Operand.const (Go.Value.string { data := #[32, 123] })) 9, type := 9, pos := "lines.go:92", after := #[{ on := 18, ground := Go.Ground.data }], guard := Option.none }) (v := .string B19) rfl (by kernel_rfl) (by kernel_rfl) (by kernel_rfl) (fun _ _ _ h => h) (Or.inl ⟨by rfl, ?_⟩) (by assumption) ?_
  · (intro w hSw; (try dsimp only at hSw); go_simp)
  try simp only [Act.put, List.setIfInBounds_toArray, List.set_cons_zero, List.set_cons_succ]
  refine wpAnyH_take (i := 20) (oi := { dst := Option.some 4, op := Go.Op.assign (Go.Operand.tmp 83), type := 9, pos := "lines.go:92", after := #[{ on := 19, ground := Go.Ground.data }, { on := 17, ground := Go.Ground.chain }, { on := 0, ground := Go.Ground.phase }, { on := 1, ground := Go.Ground.phase }, { on := 2, ground := Go.Ground.phase }, { on := 3, ground := Go.Ground.phase }, { on := 4, ground := Go.Ground.phase }, { on := 5, ground := Go.Ground.phase }, { on := 6, ground := Go.Ground.phase }, { on := 7, ground := Go.Ground.phase }, { on := 8, ground := Go.Ground.phase }, { on := 9, ground := Go.Ground.phase }, { on := 10, ground := Go.Ground.phase }, { on := 11, ground := Go.Ground.phase }, { on := 12, ground := Go.Ground.phase }, { on := 13, ground := Go.Ground.phase }, { on := 14, ground := Go.Ground.phase }, { on := 15, ground := Go.Ground.phase }, { on := 16, ground := Go.Ground.phase }, { on := 17, ground := Go.Ground.phase }, { on := 18, ground := Go.Ground.phase }, { on := 19, ground := Go.Ground.phase }], guard := Option.none }) (v := ?_) rfl (by kernel_rfl) (by kernel_rfl) (by kernel_rfl) (fun _ _ _ h => h) (Or.inl ⟨by rfl, ?_⟩) (by assumption) ?_
  rotate_left
  · (intro w hSw; (try dsimp only at hSw); go_simp; try with_reducible rfl)
  try simp only [Act.put, List.setIfInBounds_toArray, List.set_cons_zero, List.set_cons_succ]
  refine wpAnyH_done (by kernel_rfl) ?_ _
  have HE := Lib.hid (HB1.out.trans (HS.mono HB1.out.size))
  go_wp2_with fail
  go_ret
  exact ⟨ret_strE HF.out.symm, HE.out⟩
set_option maxRecDepth 100000 in
set_option maxHeartbeats 6400000 in
theorem first_2 (nm : List UInt8) (ns : List (List UInt8)) (e a : Ex) (g : Exs) (lo hi : Nat) (bd el : Sts) (he : e.may = true) (ha : a.may = true) (b o m : Nat) (w : World) (hb : b < w.heap.size) (hx : (St.mk 2 nm ns e a g lo hi bd el).At w w.heap.size b o) (hmp : w.heap[m]? = some (fmap signT)) (hG : Glob w) (hl : (St.mk 2 nm ns e a g lo hi bd el).first.length ≤ 1000000) :
    Calls Tryz.prog 109 #[.agg #[.map (some m)], .pointer (some ⟨b, o, none⟩)] w fun z w' => z = .returned (.string (str (St.mk 2 nm ns e a g lo hi bd el).first)) ∧ Below w.heap.size w w' := by
  have ht : (St.mk 2 nm ns e a g lo hi bd el).first = (((nm ++ [91] ++ a.text ++ [93]) ++ [32, 61, 32]) ++ e.text) ++ [59] := by rw [← first_eq, firstT, if_neg (by decide), if_pos rfl]
  have hlen : nm.length + a.text.length + e.text.length ≤ 1000000 := by rw [ht] at hl; simp only [List.length_append, List.length_cons, List.length_nil] at hl; omega
  obtain ⟨W1, hW1⟩ : ∃ W1, w.alloc (.cells #[.map (some m)] 68) = W1 := ⟨_, rfl⟩
  have hB1 : Below w.heap.size w W1 := by rw [← hW1]; exact (Below.refl _ _).alloc (Nat.le_refl _) _
  have hz1 : W1.heap.size = w.heap.size + 1 := by rw [← hW1]; simp
  have xt : W1.cell? ⟨w.heap.size, 0, none⟩ = some (.map (some m)) := cell_block (show W1.heap[w.heap.size]? = some (.cells #[.map (some m)] 68 (0, 0)) by rw [← hW1]; exact heap_alloc_new w _) rfl
  obtain ⟨y0, y1, ye, ya, ⟨pn, cn, y2, hcn, sn⟩, ⟨pg, cg, y11, sg⟩, y12, y13, hlo, hhi, _, _⟩ := hx.parts
  have x0 := (hB1.cell hb).trans y0
  have x1 := (hB1.cell hb).trans y1
  have x2 := (hB1.cell hb).trans y2
  have x11 := (hB1.cell hb).trans y11
  have x12 := (hB1.cell hb).trans y12
  have x13 := (hB1.cell hb).trans y13
  have hmp1 := (hB1.block m (lt_of_block hmp)).trans hmp
  have hb1 : b < W1.heap.size := by omega
  have ht1 : w.heap.size < W1.heap.size := by omega
  have hG1 := hG.later hB1
  have HB1 := Lib.hid hB1
  have HTe := Lib.hid (fun (w1 : World) (hB : Below W1.heap.size W1 w1) => exprText_any e he b (o + 3) m w1 (Nat.lt_of_lt_of_le hb1 hB.size) (Ex.At.later ((hB1.trans (hB.mono hB1.size))) (Nat.le_trans hB1.size hB.size) e b (o + 3) hb ye) ((hB.block m (lt_of_block hmp1)).trans hmp1) (hG1.later hB) (by omega))
  have hE1 : TEnv W1.heap.size m W1.drew := ⟨hmp1, lt_of_block hmp1, fun w2 h2 => hG1 w2 ((Below.refl _ _).drew.trans h2), Nat.le_refl _⟩
  have HPl := Lib.hid (place_step _ (tell_to _) a (Nat.lt_succ_self _) ha nm b (o + 7) W1.heap.size W1.heap.size m (.slice none 0 0) [] W1.drew hb1 (Nat.le_refl _) (Ex.At.later (hB1.drew) hB1.size a b (o + 7) hb ya) hE1 (BRow.nil _ _) (by simp only [List.length_append, List.length_cons, List.length_nil]; omega))
  rw [List.nil_append] at HPl
  obtain ⟨NM, hNM⟩ : ∃ A, A = str (nm) := ⟨_, rfl⟩
  obtain ⟨A0, hA0⟩ : ∃ A, A = str (e.text) := ⟨_, rfl⟩
  obtain ⟨PT, hPT⟩ : ∃ A, A = str (nm ++ [91] ++ a.text ++ [93]) := ⟨_, rfl⟩
  rw [← hNM] at x1 HPl
  rw [← hA0] at HTe
  obtain ⟨B10, hB10⟩ : ∃ B, B = str ((nm ++ [91] ++ a.text ++ [93]) ++ [32, 61, 32]) := ⟨_, rfl⟩
  obtain ⟨B16, hB16⟩ : ∃ B, B = str (((nm ++ [91] ++ a.text ++ [93]) ++ [32, 61, 32]) ++ e.text) := ⟨_, rfl⟩
  obtain ⟨B17, hB17⟩ : ∃ B, B = str ((((nm ++ [91] ++ a.text ++ [93]) ++ [32, 61, 32]) ++ e.text) ++ [59]) := ⟨_, rfl⟩
  have qB10 : ∀ w : World, (Op.stringOp .add PT ⟨#[32, 61, 32]⟩).run Tryz.prog w = .ok (.string B10) w := fun w => by
    (try rw [hB10]); (try rw [hPT]); exact add_str ((nm ++ [91] ++ a.text ++ [93])) ([32, 61, 32]) (by simp only [List.length_append, List.length_cons, List.length_nil] at hlen ⊢; omega) w
  have qB16 : ∀ w : World, (Op.stringOp .add B10 A0).run Tryz.prog w = .ok (.string B16) w := fun w => by
    (try rw [hB16]); (try rw [hB10]); (try rw [hA0]); exact add_str (((nm ++ [91] ++ a.text ++ [93]) ++ [32, 61, 32])) (e.text) (by simp only [List.length_append, List.length_cons, List.length_nil] at hlen ⊢; omega) w
  have qB17 : ∀ w : World, (Op.stringOp .add B16 ⟨#[59]⟩).run Tryz.prog w = .ok (.string B17) w := fun w => by
    (try rw [hB17]); (try rw [hB16]); exact add_str ((((nm ++ [91] ++ a.text ++ [93]) ++ [32, 61, 32]) ++ e.text)) ([59]) (by simp only [List.length_append, List.length_cons, List.length_nil] at hlen ⊢; omega) w
  have HF := Lib.hid (show str (St.mk 2 nm ns e a g lo hi bd el).first = B17 by rw [ht, hB17])
  have HPT := Lib.hid hPT
  clear hNM hA0 hPT hB10 hB16 hB17 hl ht hx y0 y1 y2 y11 y12 y13 ye ya sn sg hG hG1 hmp hmp1 hB1 hlo hhi hE1 x2 x11 x12 x13
  go_enter Tryz.func109, Tryz.ntmps109
  go_wp2_with fail
  clear hW1 x0
  have HS : Below W1.heap.size W1 W1.drew := (Below.refl _ _).drew
  refine wp_region_held_drew (S := fun W => Below W1.heap.size W1 W ∧ W.cell? ⟨w.heap.size, 0, none⟩ = some (.map (some m)) ∧ W.cell? ⟨b, o + 1, none⟩ = some (.string NM)) (by kernel_rfl) ?_ (fun hHeld => ?_)
  · exact ⟨HS, (HS.cell ht1).trans xt, (HS.cell hb1).trans x1⟩
  refine wpAnyH_take (i := 0) (oi := { dst := Option.some 26, op := Go.Op.load 68 (Go.Operand.tmp 2), type := 68, pos := "lines.go:86", after := #[], guard := Option.none }) (v := ?_) rfl (by kernel_rfl) (by kernel_rfl) (by kernel_rfl) (fun _ _ _ h => h) (Or.inl ⟨by rfl, ?_⟩) (by assumption) ?_
  rotate_left
  · (intro w hSw; (try dsimp only at hSw); go_simp; try with_reducible rfl)
  try simp only [Act.put, List.setIfInBounds_toArray, List.set_cons_zero, List.set_cons_succ]
  refine wpAnyH_take (i := 1) (oi := { dst := Option.some 27, op := Go.Op.move (Go.Operand.tmp 1), type := 145, pos := "lines.go:86", after := #[], guard := Option.none }) (v := ?_) rfl (by kernel_rfl) (by kernel_rfl) (by kernel_rfl) (fun _ _ _ h => h) (Or.inl ⟨by rfl, ?_⟩) (by assumption) ?_
  rotate_left
  · (intro w hSw; (try dsimp only at hSw); go_simp; try with_reducible rfl)
  try simp only [Act.put, List.setIfInBounds_toArray, List.set_cons_zero, List.set_cons_succ]
  refine wpAnyH_take (i := 2) (oi := { dst := Option.some 28, op := Go.Op.nilCheck (Go.Operand.tmp 27), type := 0, pos := "lines.go:86", after := #[{ on := 1, ground := Go.Ground.data }], guard := Option.none }) (v := ?_) rfl (by kernel_rfl) (by kernel_rfl) (by kernel_rfl) (fun _ _ _ h => h) (Or.inl ⟨by rfl, ?_⟩) (by assumption) ?_
  rotate_left
  · (intro w hSw; (try dsimp only at hSw); go_simp; try with_reducible rfl)
  try simp only [Act.put, List.setIfInBounds_toArray, List.set_cons_zero, List.set_cons_succ]
  refine wpAnyH_take (i := 3) (oi := { dst := Option.some 29, op := Go.Op.fieldAddr 54 (Go.Operand.tmp 28) 1, type := 0, pos := "lines.go:86", after := #[{ on := 2, ground := Go.Ground.data }], guard := Option.none }) (v := ?_) rfl (by kernel_rfl) (by kernel_rfl) (by kernel_rfl) (fun _ _ _ h => h) (Or.inl ⟨by rfl, ?_⟩) (by assumption) ?_
  rotate_left
  · (intro w hSw; (try dsimp only at hSw); go_simp; try with_reducible rfl)
  try simp only [Act.put, List.setIfInBounds_toArray, List.set_cons_zero, List.set_cons_succ]
  refine wpAnyH_take (i := 4) (oi := { dst := Option.some 30, op := Go.Op.load 9 (Go.Operand.tmp 29), type := 9, pos := "lines.go:86", after := #[{ on := 3, ground := Go.Ground.data }], guard := Option.none }) (v := ?_) rfl (by kernel_rfl) (by kernel_rfl) (by kernel_rfl) (fun _ _ _ h => h) (Or.inl ⟨by rfl, ?_⟩) (by assumption) ?_
  rotate_left
  · (intro w hSw; (try dsimp only at hSw); go_simp; try with_reducible rfl)
  try simp only [Act.put, List.setIfInBounds_toArray, List.set_cons_zero, List.set_cons_succ]
  refine wpAnyH_take (i := 5) (oi := { dst := Option.some 31, op := Go.Op.move (Go.Operand.tmp 1), type := 145, pos := "lines.go:86", after := #[], guard := Option.none }) (v := ?_) rfl (by kernel_rfl) (by kernel_rfl) (by kernel_rfl) (fun _ _ _ h => h) (Or.inl ⟨by rfl, ?_⟩) (by assumption) ?_
  rotate_left
  · (intro w hSw; (try dsimp only at hSw); go_simp; try with_reducible rfl)
  try simp only [Act.put, List.setIfInBounds_toArray, List.set_cons_zero, List.set_cons_succ]
  refine wpAnyH_take (i := 6) (oi := { dst := Option.some 32, op := Go.Op.nilCheck (Go.Operand.tmp 31), type := 0, pos := "lines.go:86", after := #[{ on := 5, ground := Go.Ground.data }], guard := Option.none }) (v := ?_) rfl (by kernel_rfl) (by kernel_rfl) (by kernel_rfl) (fun _ _ _ h => h) (Or.inl ⟨by rfl, ?_⟩) (by assumption) ?_
  rotate_left
  · (intro w hSw; (try dsimp only at hSw); go_simp; try with_reducible rfl)
  try simp only [Act.put, List.setIfInBounds_toArray, List.set_cons_zero, List.set_cons_succ]
  refine wpAnyH_take (i := 7) (oi := { dst := Option.some 33, op := Go.Op.fieldAddr 54 (Go.Operand.tmp 32) 4, type := 0, pos := "lines.go:86", after := #[{ on := 6, ground := Go.Ground.data }], guard := Option.none }) (v := ?_) rfl (by kernel_rfl) (by kernel_rfl) (by kernel_rfl) (fun _ _ _ h => h) (Or.inl ⟨by rfl, ?_⟩) (by assumption) ?_
  rotate_left
  · (intro w hSw; (try dsimp only at hSw); go_simp; try with_reducible rfl)
  try simp only [Act.put, List.setIfInBounds_toArray, List.set_cons_zero, List.set_cons_succ]
  refine wpAnyH_take (i := 11) (oi := { dst := Option.some 37, op := Go.Op.load 68 (Go.Operand.tmp 2), type := 68, pos := "lines.go:86", after := #[], guard := Option.none }) (v := ?_) rfl (by kernel_rfl) (by kernel_rfl) (by kernel_rfl) (fun _ _ _ h => h) (Or.inl ⟨by rfl, ?_⟩) (by assumption) ?_
  rotate_left
  · (intro w hSw; (try dsimp only at hSw); go_simp; try with_reducible rfl)
  try simp only [Act.put, List.setIfInBounds_toArray, List.set_cons_zero, List.set_cons_succ]
  refine wpAnyH_take (i := 12) (oi := { dst := Option.some 38, op := Go.Op.move (Go.Operand.tmp 1), type := 145, pos := "lines.go:86", after := #[], guard := Option.none }) (v := ?_) rfl (by kernel_rfl) (by kernel_rfl) (by kernel_rfl) (fun _ _ _ h => h) (Or.inl ⟨by rfl, ?_⟩) (by assumption) ?_
  rotate_left
  · (intro w hSw; (try dsimp only at hSw); go_simp; try with_reducible rfl)
  try simp only [Act.put, List.setIfInBounds_toArray, List.set_cons_zero, List.set_cons_succ]
  refine wpAnyH_take (i := 13) (oi := { dst := Option.some 39, op := Go.Op.nilCheck (Go.Operand.tmp 38), type := 0, pos := "lines.go:86", after := #[{ on := 12, ground := Go.Ground.data }], guard := Option.none }) (v := ?_) rfl (by kernel_rfl) (by kernel_rfl) (by kernel_rfl) (fun _ _ _ h => h) (Or.inl ⟨by rfl, ?_⟩) (by assumption) ?_
  rotate_left
  · (intro w hSw; (try dsimp only at hSw); go_simp; try with_reducible rfl)
  try simp only [Act.put, List.setIfInBounds_toArray, List.set_cons_zero, List.set_cons_succ]
  refine wpAnyH_take (i := 14) (oi := { dst := Option.some 40, op := Go.Op.fieldAddr 54 (Go.Operand.tmp 39) 3, type := 0, pos := "lines.go:86", after := #[{ on := 13, ground := Go.Ground.data }], guard := Option.none }) (v := ?_) rfl (by kernel_rfl) (by kernel_rfl) (by kernel_rfl) (fun _ _ _ h => h) (Or.inl ⟨by rfl, ?_⟩) (by assumption) ?_
  rotate_left
  · (intro w hSw; (try dsimp only at hSw); go_simp; try with_reducible rfl)
  try simp only [Act.put, List.setIfInBounds_toArray, List.set_cons_zero, List.set_cons_succ]
  refine wpAnyH_ready (rs := [8]) (by kernel_rfl) (by simp) ?_
  refine AllReadyH.cons (o := { dst := Option.some 34, op := Go.Op.call { callee := Go.Callee.value (Go.Operand.func 119), args := #[Go.Operand.tmp 26, Go.Operand.const (Go.Value.slice Option.none 0 0), Go.Operand.tmp 30, Go.Operand.tmp 33], argTypes := #[68, 83, 9, 71] }, type := 83, pos := "lines.go:86", after := #[{ on := 0, ground := Go.Ground.data }, { on := 4, ground := Go.Ground.data }, { on := 7, ground := Go.Ground.data }], guard := Option.none }) rfl (fun K hK => ?_) AllReadyH.nil
  go_simp
  refine HPl.out.mono ?_
  rintro z wa ⟨⟨v, rfl, hR⟩, hF'⟩
  have HR := Lib.hid hR
  have HW := Lib.hid (show W1.heap.size ≤ wa.heap.size from hF'.1.size)
  replace HS := HS.trans hF'.1
  clear hR hF'
  refine hK.out _ _ ?_ (fun hHeld => ?_)
  · exact ⟨HS, (HS.cell ht1).trans xt, (HS.cell hb1).trans x1⟩
  clear hK K
  try simp only [Act.put, List.setIfInBounds_toArray, List.set_cons_zero, List.set_cons_succ]
  refine wpAnyH_ready (rs := [9, 15]) (by kernel_rfl) (by simp) ?_
  refine AllReadyH.cons (o := { dst := Option.some 35, op := Go.Op.convert 83 9 (Go.Operand.tmp 34), type := 9, pos := "lines.go:86", after := #[{ on := 8, ground := Go.Ground.data }], guard := Option.none }) rfl (fun K hK => ?_) (AllReadyH.cons (o := { dst := Option.some 41, op := Go.Op.call { callee := Go.Callee.value (Go.Operand.func 37), args := #[Go.Operand.tmp 37, Go.Operand.tmp 40], argTypes := #[68, 71] }, type := 9, pos := "lines.go:86", after := #[{ on := 11, ground := Go.Ground.data }, { on := 14, ground := Go.Ground.data }, { on := 8, ground := Go.Ground.chain }], guard := Option.none }) rfl (fun K hK => ?_) AllReadyH.nil)
  · go_simp
    have hcv := BRow.conv HR.out
    rw [← HPT.out] at hcv
    go_simp
    refine hK.out _ _ ?_ (fun hHeld => ?_)
    · exact ⟨HS, (HS.cell ht1).trans xt, (HS.cell hb1).trans x1⟩
    clear hK K
    try simp only [Act.put, List.setIfInBounds_toArray, List.set_cons_zero, List.set_cons_succ]
    refine wpAnyH_take (i := 10) (oi := { dst := Option.some 36, op := Go.Op.binOp Go.BinOp.add 9 (Go.Operand.tmp 35) (Go.Operand.const (Go.Value.string { data := #[32, 61, 32] })) 9, type := 9, pos := "lines.go:86", after := #[{ on := 9, ground := Go.Ground.data }], guard := Option.none }) (v := .string B10) rfl (by kernel_rfl) (by kernel_rfl) (by kernel_rfl) (fun _ _ _ h => h) (Or.inl ⟨by rfl, ?_⟩) (by assumption) ?_
    · (intro w hSw; (try dsimp only at hSw); go_simp)
    try simp only [Act.put, List.setIfInBounds_toArray, List.set_cons_zero, List.set_cons_succ]
    refine wpAnyH_ready (rs := [15]) (by kernel_rfl) (by simp) ?_
    refine AllReadyH.cons (o := { dst := Option.some 41, op := Go.Op.call { callee := Go.Callee.value (Go.Operand.func 37), args := #[Go.Operand.tmp 37, Go.Operand.tmp 40], argTypes := #[68, 71] }, type := 9, pos := "lines.go:86", after := #[{ on := 11, ground := Go.Ground.data }, { on := 14, ground := Go.Ground.data }, { on := 8, ground := Go.Ground.chain }], guard := Option.none }) rfl (fun K hK => ?_) AllReadyH.nil
    go_simp
    refine (HTe.out _ HS).mono ?_
    rintro z wa ⟨rfl, hB'⟩
    replace HS := HS.trans (hB'.mono HS.size)
    clear hB'
    refine hK.out _ _ ?_ (fun hHeld => ?_)
    · exact ⟨HS, (HS.cell ht1).trans xt, (HS.cell hb1).trans x1⟩
    clear hK K
    try simp only [Act.put, List.setIfInBounds_toArray, List.set_cons_zero, List.set_cons_succ]
    refine wpAnyH_take (i := 16) (oi := { dst := Option.some 42, op := Go.Op.binOp Go.BinOp.add 9 (Go.Operand.tmp 36) (Go.Operand.tmp 41) 9, type := 9, pos := "lines.go:86", after := #[{ on := 10, ground := Go.Ground.data }, { on := 15, ground := Go.Ground.data }], guard := Option.none }) (v := .string B16) rfl (by kernel_rfl) (by kernel_rfl) (by kernel_rfl) (fun _ _ _ h => h) (Or.inl ⟨by rfl, ?_⟩) (by assumption) ?_
    · (intro w hSw; (try dsimp only at hSw); go_simp)
    try simp only [Act.put, List.setIfInBounds_toArray, List.set_cons_zero, List.set_cons_succ]
    refine wpAnyH_take (i := 17) (oi := { dst := Option.some 43, op := Go.Op.binOp Go.BinOp.add 9 (Go.Operand.tmp 42) (Go.Operand.const (Go.Value.string { data := #[59] })) 9, type := 9, pos := "lines.go:86", after := #[{ on := 16, ground := Go.Ground.data }], guard := Option.none }) (v := .string B17) rfl (by kernel_rfl) (by kernel_rfl) (by kernel_rfl) (fun _ _ _ h => h) (Or.inl ⟨by rfl, ?_⟩) (by assumption) ?_
    · (intro w hSw; (try dsimp only at hSw); go_simp)
    try simp only [Act.put, List.setIfInBounds_toArray, List.set_cons_zero, List.set_cons_succ]
    refine wpAnyH_take (i := 18) (oi := { dst := Option.some 4, op := Go.Op.assign (Go.Operand.tmp 43), type := 9, pos := "lines.go:86", after := #[{ on := 17, ground := Go.Ground.data }, { on := 15, ground := Go.Ground.chain }, { on := 0, ground := Go.Ground.phase }, { on := 1, ground := Go.Ground.phase }, { on := 2, ground := Go.Ground.phase }, { on := 3, ground := Go.Ground.phase }, { on := 4, ground := Go.Ground.phase }, { on := 5, ground := Go.Ground.phase }, { on := 6, ground := Go.Ground.phase }, { on := 7, ground := Go.Ground.phase }, { on := 8, ground := Go.Ground.phase }, { on := 9, ground := Go.Ground.phase }, { on := 10, ground := Go.Ground.phase }, { on := 11, ground := Go.Ground.phase }, { on := 12, ground := Go.Ground.phase }, { on := 13, ground := Go.Ground.phase }, { on := 14, ground := Go.Ground.phase }, { on := 15, ground := Go.Ground.phase }, { on := 16, ground := Go.Ground.phase }, { on := 17, ground := Go.Ground.phase }], guard := Option.none }) (v := ?_) rfl (by kernel_rfl) (by kernel_rfl) (by kernel_rfl) (fun _ _ _ h => h) (Or.inl ⟨by rfl, ?_⟩) (by assumption) ?_
    rotate_left
    · (intro w hSw; (try dsimp only at hSw); go_simp; try with_reducible rfl)
    try simp only [Act.put, List.setIfInBounds_toArray, List.set_cons_zero, List.set_cons_succ]
    refine wpAnyH_done (by kernel_rfl) ?_ _
    have HE := Lib.hid (HB1.out.trans (HS.mono HB1.out.size))
    go_wp2_with fail
    go_ret
    exact ⟨ret_strE HF.out.symm, HE.out⟩
  · go_simp
    refine (HTe.out _ HS).mono ?_
    rintro z wb ⟨rfl, hB'⟩
    replace HR := Lib.hid (HR.out.later hB')
    replace HS := HS.trans (hB'.mono HS.size)
    clear hB'
    refine hK.out _ _ ?_ (fun hHeld => ?_)
    · exact ⟨HS, (HS.cell ht1).trans xt, (HS.cell hb1).trans x1⟩
    clear hK K
    try simp only [Act.put, List.setIfInBounds_toArray, List.set_cons_zero, List.set_cons_succ]
    refine wpAnyH_ready (rs := [9]) (by kernel_rfl) (by simp) ?_
    refine AllReadyH.cons (o := { dst := Option.some 35, op := Go.Op.convert 83 9 (Go.Operand.tmp 34), type := 9, pos := "lines.go:86", after := #[{ on := 8, ground := Go.Ground.data }], guard := Option.none }) rfl (fun K hK => ?_) AllReadyH.nil
    go_simp
    have hcv := BRow.conv HR.out
    rw [← HPT.out] at hcv
    go_simp
    refine hK.out _ _ ?_ (fun hHeld => ?_)
    · exact ⟨HS, (HS.cell ht1).trans xt, (HS.cell hb1).trans x1⟩
    clear hK K
    try simp only [Act.put, List.setIfInBounds_toArray, List.set_cons_zero, List.set_cons_succ]
    refine wpAnyH_take (i := 10) (oi := { dst := Option.some 36, op := Go.Op.binOp Go.BinOp.add 9 (Go.Operand.tmp 35) (Go.Operand.const (Go.Value.string { data := #[32, 61, 32] })) 9, type := 9, pos := "lines.go:86", after := #[{ on := 9, ground := Go.Ground.data }], guard := Option.none }) (v := .string B10) rfl (by kernel_rfl) (by kernel_rfl) (by kernel_rfl) (fun _ _ _ h => h) (Or.inl ⟨by rfl, ?_⟩) (by assumption) ?_
    · (intro w hSw; (try dsimp only at hSw); go_simp)
    try simp only [Act.put, List.setIfInBounds_toArray, List.set_cons_zero, List.set_cons_succ]
    refine wpAnyH_take (i := 16) (oi := { dst := Option.some 42, op := Go.Op.binOp Go.BinOp.add 9 (Go.Operand.tmp 36) (Go.Operand.tmp 41) 9, type := 9, pos := "lines.go:86", after := #[{ on := 10, ground := Go.Ground.data }, { on := 15, ground := Go.Ground.data }], guard := Option.none }) (v := .string B16) rfl (by kernel_rfl) (by kernel_rfl) (by kernel_rfl) (fun _ _ _ h => h) (Or.inl ⟨by rfl, ?_⟩) (by assumption) ?_
    · (intro w hSw; (try dsimp only at hSw); go_simp)
    try simp only [Act.put, List.setIfInBounds_toArray, List.set_cons_zero, List.set_cons_succ]
    refine wpAnyH_take (i := 17) (oi := { dst := Option.some 43, op := Go.Op.binOp Go.BinOp.add 9 (Go.Operand.tmp 42) (Go.Operand.const (Go.Value.string { data := #[59] })) 9, type := 9, pos := "lines.go:86", after := #[{ on := 16, ground := Go.Ground.data }], guard := Option.none }) (v := .string B17) rfl (by kernel_rfl) (by kernel_rfl) (by kernel_rfl) (fun _ _ _ h => h) (Or.inl ⟨by rfl, ?_⟩) (by assumption) ?_
    · (intro w hSw; (try dsimp only at hSw); go_simp)
    try simp only [Act.put, List.setIfInBounds_toArray, List.set_cons_zero, List.set_cons_succ]
    refine wpAnyH_take (i := 18) (oi := { dst := Option.some 4, op := Go.Op.assign (Go.Operand.tmp 43), type := 9, pos := "lines.go:86", after := #[{ on := 17, ground := Go.Ground.data }, { on := 15, ground := Go.Ground.chain }, { on := 0, ground := Go.Ground.phase }, { on := 1, ground := Go.Ground.phase }, { on := 2, ground := Go.Ground.phase }, { on := 3, ground := Go.Ground.phase }, { on := 4, ground := Go.Ground.phase }, { on := 5, ground := Go.Ground.phase }, { on := 6, ground := Go.Ground.phase }, { on := 7, ground := Go.Ground.phase }, { on := 8, ground := Go.Ground.phase }, { on := 9, ground := Go.Ground.phase }, { on := 10, ground := Go.Ground.phase }, { on := 11, ground := Go.Ground.phase }, { on := 12, ground := Go.Ground.phase }, { on := 13, ground := Go.Ground.phase }, { on := 14, ground := Go.Ground.phase }, { on := 15, ground := Go.Ground.phase }, { on := 16, ground := Go.Ground.phase }, { on := 17, ground := Go.Ground.phase }], guard := Option.none }) (v := ?_) rfl (by kernel_rfl) (by kernel_rfl) (by kernel_rfl) (fun _ _ _ h => h) (Or.inl ⟨by rfl, ?_⟩) (by assumption) ?_
    rotate_left
    · (intro w hSw; (try dsimp only at hSw); go_simp; try with_reducible rfl)
    try simp only [Act.put, List.setIfInBounds_toArray, List.set_cons_zero, List.set_cons_succ]
    refine wpAnyH_done (by kernel_rfl) ?_ _
    have HE := Lib.hid (HB1.out.trans (HS.mono HB1.out.size))
    go_wp2_with fail
    go_ret
    exact ⟨ret_strE HF.out.symm, HE.out⟩
end Go.Proofs.YtlhbledakddbbaaGreatDoor
/- A call's line; a statement's first line, of any kind. -/
namespace Go.Proofs.YtlhbledakddbbaaGreatDoor
open Go.RowKit

theorem row_cells {w : World} {_N b o : Nat} {ns : List (List UInt8)} (h : Row (StrAt w) 1 ns b o) : ∀ (j : Nat) x, (ns.map str)[j]? = some x → w.cell? ⟨b, o + j, none⟩ = some (.string x) := by
  intro j x hj
  rw [List.getElem?_map] at hj
  cases hn : ns[j]? with
  | none => rw [hn] at hj; cases hj
  | some y =>
    rw [hn] at hj
    cases hj
    have := Row.get h hn
    rw [Nat.mul_one] at this
    exact this
theorem map_data (ns : List (List UInt8)) : (ns.map str).map (·.data.toList) = ns := by
  rw [List.map_map]
  have : (fun x : ByteArray => x.data.toList) ∘ str = id := by funext x; rfl
  rw [this, List.map_id]
/-- texts joined -/
theorem join_any (ns : List (List UInt8)) (p : Option Addr) (c N : Nat) (w : World) (hN : N ≤ w.heap.size) (h : ns.length ≤ c ∧ RowIn N (StrAt w) 1 ns p) (hl : (Lib.join ns [44, 32]).length ≤ 1000000) :
    Calls Tryz.prog 138 #[.slice p ns.length c, .string ⟨#[44, 32]⟩] w fun e w' => e = .returned (.string (str (Lib.join ns [44, 32]))) ∧ Below w.heap.size w w' := by
  obtain ⟨hc, hm, h0 | ⟨b, o, rfl, hb, ha⟩⟩ := h
  · have : ns = [] := List.length_eq_zero_iff.1 h0
    subst this
    refine (Tryz.strings_Join_none p c ⟨#[44, 32]⟩ w).mono ?_
    rintro e w' ⟨rfl, rfl⟩
    exact ⟨rfl, Below.refl _ _⟩
  · have hd := map_data ns
    have hs : (⟨#[44, 32]⟩ : ByteArray).data.toList = [44, 32] := rfl
    have := Tryz.strings_Join b o c (ns.map str) ⟨#[44, 32]⟩ w (row_cells (_N := N) ha) (by omega) (by simpa using hm) (by simpa using hc) (by rw [hd, hs]; omega)
    rw [List.length_map, hd, hs] at this
    exact this

set_option maxRecDepth 100000 in
set_option maxHeartbeats 6400000 in
theorem first_6 (nm : List UInt8) (ns : List (List UInt8)) (e a : Ex) (g : Exs) (lo hi : Nat) (bd el : Sts) (hg : g.may = true) (b o m : Nat) (w : World) (hb : b < w.heap.size) (hx : (St.mk 6 nm ns e a g lo hi bd el).At w w.heap.size b o) (hmp : w.heap[m]? = some (fmap signT)) (hG : Glob w) (hl : (St.mk 6 nm ns e a g lo hi bd el).first.length ≤ 1000000) :
    Calls Tryz.prog 109 #[.agg #[.map (some m)], .pointer (some ⟨b, o, none⟩)] w fun z w' => z = .returned (.string (str (St.mk 6 nm ns e a g lo hi bd el).first)) ∧ Below w.heap.size w w' := by
  have hlen : nm.length + (Lib.join g.texts [44, 32]).length ≤ 1000000 ∧ (ns.length ≠ 0 → (Lib.join ns [44, 32]).length + nm.length + (Lib.join g.texts [44, 32]).length ≤ 1000000) := by
    rw [← first_eq, firstT, if_neg (by decide), if_neg (by decide), if_neg (by decide), if_neg (by decide), if_neg (by decide)] at hl
    split at hl
    · rename_i h0; simp only [List.length_append, List.length_cons, List.length_nil] at hl; exact ⟨by omega, fun h => absurd h0 h⟩
    · simp only [List.length_append, List.length_cons, List.length_nil] at hl; exact ⟨by omega, fun _ => by omega⟩
  obtain ⟨W1, hW1⟩ : ∃ W1, w.alloc (.cells #[.map (some m)] 68) = W1 := ⟨_, rfl⟩
  have hB1 : Below w.heap.size w W1 := by rw [← hW1]; exact (Below.refl _ _).alloc (Nat.le_refl _) _
  have hz1 : W1.heap.size = w.heap.size + 1 := by rw [← hW1]; simp
  have xt : W1.cell? ⟨w.heap.size, 0, none⟩ = some (.map (some m)) := cell_block (show W1.heap[w.heap.size]? = some (.cells #[.map (some m)] 68 (0, 0)) by rw [← hW1]; exact heap_alloc_new w _) rfl
  obtain ⟨y0, y1, ye, ya, ⟨pn, cn, y2, hcn, sn⟩, ⟨pg, cg, y11, sg⟩, y12, y13, hlo, hhi, _, _⟩ := hx.parts
  have x0 := (hB1.cell hb).trans y0
  have x1 := (hB1.cell hb).trans y1
  have x2 := (hB1.cell hb).trans y2
  have x11 := (hB1.cell hb).trans y11
  have x12 := (hB1.cell hb).trans y12
  have x13 := (hB1.cell hb).trans y13
  have hmp1 := (hB1.block m (lt_of_block hmp)).trans hmp
  have hb1 : b < W1.heap.size := by omega
  have ht1 : w.heap.size < W1.heap.size := by omega
  have hG1 := hG.later hB1
  have HB1 := Lib.hid hB1
  have ht0 : ns.length = 0 → (St.mk 6 nm ns e a g lo hi bd el).first = ((nm ++ ([40] ++ Lib.join g.texts [44, 32] ++ [41])) ++ [59]) := fun h => by rw [← first_eq, firstT, if_neg (by decide), if_neg (by decide), if_neg (by decide), if_neg (by decide), if_neg (by decide), if_pos h]
  have ht1 : ¬ ns.length = 0 → (St.mk 6 nm ns e a g lo hi bd el).first = (Lib.join ns [44, 32] ++ [32, 61, 32]) ++ ((nm ++ ([40] ++ Lib.join g.texts [44, 32] ++ [41])) ++ [59]) := fun h => by rw [← first_eq, firstT, if_neg (by decide), if_neg (by decide), if_neg (by decide), if_neg (by decide), if_neg (by decide), if_neg h]
  obtain ⟨v0, Wc, hcv0, hR0, hBc, hzc⟩ := conv_bytes (P := Tryz.prog) W1.drew 9 83 5 nm Tryz.underlying9 Tryz.underlying83 Tryz.underlying5 (by omega)
  have hBW : Below W1.heap.size W1 Wc := (Below.refl _ W1).drew.trans hBc
  have hE1 : TEnv W1.heap.size m Wc := ⟨(hBW.block m (lt_of_block hmp1)).trans hmp1, lt_of_block hmp1, fun w2 h2 => hG1 w2 (hBW.trans h2), hBW.size⟩
  have HLi := Lib.hid (list_step _ (tell_to _) g (Nat.lt_succ_self _) hg pg cg W1.heap.size W1.heap.size m v0 nm Wc (Nat.le_refl _) (sg.later ((hB1.trans (hBW.mono hB1.size))) hB1.size) hE1 hR0 (by simp only [List.length_append, List.length_cons, List.length_nil]; omega))
  have HJn := Lib.hid (fun (w1 : World) (hB : Below w.heap.size w w1) (hj : (Lib.join ns [44, 32]).length ≤ 1000000) => join_any ns pn cn w.heap.size w1 hB.size ⟨hcn, sn.imp (Nat.le_refl _) (StrAt.later hB)⟩ hj)
  have hmn := sn.1
  obtain ⟨NM, hNM⟩ : ∃ A, A = str (nm) := ⟨_, rfl⟩
  rw [← hNM] at x1
  have hcv0 : (convert 9 83 (.string NM)).run Tryz.prog W1.drew = .ok v0 Wc := by rw [hNM]; exact hcv0
  obtain ⟨PT, hPT⟩ : ∃ A, A = str (nm ++ ([40] ++ Lib.join g.texts [44, 32] ++ [41])) := ⟨_, rfl⟩
  obtain ⟨B12, hB12⟩ : ∃ B, B = str ((nm ++ ([40] ++ Lib.join g.texts [44, 32] ++ [41])) ++ [59]) := ⟨_, rfl⟩
  have qB12 : ∀ w : World, (Op.stringOp .add PT ⟨#[59]⟩).run Tryz.prog w = .ok (.string B12) w := fun w => by
    rw [hPT, hB12]; exact add_str (nm ++ ([40] ++ Lib.join g.texts [44, 32] ++ [41])) [59] (by simp only [List.length_append, List.length_cons, List.length_nil]; omega) w
  have HPT := Lib.hid hPT
  have HB12 := Lib.hid hB12
  have HL := Lib.hid hlen
  have HT0 := Lib.hid ht0
  have HT1 := Lib.hid ht1
  have HCV := Lib.hid hcv0
  have HBW := Lib.hid hBW
  clear hNM hPT hB12 hl hx y0 y1 y2 y11 y12 y13 ye ya sn sg hG hG1 hmp hmp1 hB1 hlo hhi hE1 hR0 hBc hzc hlen ht0 ht1 hcv0 hBW x12 x13
  go_enter Tryz.func109, Tryz.ntmps109
  go_wp2_with fail
  clear hW1 x0
  have HS : Below W1.heap.size W1 W1.drew := (Below.refl _ _).drew
  refine wp_region_held_drew (S := fun W => Below W1.heap.size W1 W ∧ W.cell? ⟨w.heap.size, 0, none⟩ = some (.map (some m)) ∧ W.cell? ⟨b, o + 1, none⟩ = some (.string NM) ∧ W.cell? ⟨b, o + 11, none⟩ = some (.slice pg g.len cg)) (by kernel_rfl) ?_ (fun hHeld => ?_)
  · exact ⟨HS, (HS.cell ht1).trans xt, (HS.cell hb1).trans x1, (HS.cell hb1).trans x11⟩
  refine wpAnyH_take (i := 0) (oi := { dst := Option.some 84, op := Go.Op.load 68 (Go.Operand.tmp 2), type := 68, pos := "lines.go:94", after := #[], guard := Option.none }) (v := ?_) rfl (by kernel_rfl) (by kernel_rfl) (by kernel_rfl) (fun _ _ _ h => h) (Or.inl ⟨by rfl, ?_⟩) (by assumption) ?_
  rotate_left
  · (intro w hSw; (try dsimp only at hSw); go_simp; try with_reducible rfl)
  try simp only [Act.put, List.setIfInBounds_toArray, List.set_cons_zero, List.set_cons_succ]
  refine wpAnyH_take (i := 1) (oi := { dst := Option.some 85, op := Go.Op.move (Go.Operand.tmp 1), type := 145, pos := "lines.go:94", after := #[], guard := Option.none }) (v := ?_) rfl (by kernel_rfl) (by kernel_rfl) (by kernel_rfl) (fun _ _ _ h => h) (Or.inl ⟨by rfl, ?_⟩) (by assumption) ?_
  rotate_left
  · (intro w hSw; (try dsimp only at hSw); go_simp; try with_reducible rfl)
  try simp only [Act.put, List.setIfInBounds_toArray, List.set_cons_zero, List.set_cons_succ]
  refine wpAnyH_take (i := 2) (oi := { dst := Option.some 86, op := Go.Op.nilCheck (Go.Operand.tmp 85), type := 0, pos := "lines.go:94", after := #[{ on := 1, ground := Go.Ground.data }], guard := Option.none }) (v := ?_) rfl (by kernel_rfl) (by kernel_rfl) (by kernel_rfl) (fun _ _ _ h => h) (Or.inl ⟨by rfl, ?_⟩) (by assumption) ?_
  rotate_left
  · (intro w hSw; (try dsimp only at hSw); go_simp; try with_reducible rfl)
  try simp only [Act.put, List.setIfInBounds_toArray, List.set_cons_zero, List.set_cons_succ]
  refine wpAnyH_take (i := 3) (oi := { dst := Option.some 87, op := Go.Op.fieldAddr 54 (Go.Operand.tmp 86) 1, type := 0, pos := "lines.go:94", after := #[{ on := 2, ground := Go.Ground.data }], guard := Option.none }) (v := ?_) rfl (by kernel_rfl) (by kernel_rfl) (by kernel_rfl) (fun _ _ _ h => h) (Or.inl ⟨by rfl, ?_⟩) (by assumption) ?_
  rotate_left
  · (intro w hSw; (try dsimp only at hSw); go_simp; try with_reducible rfl)
  try simp only [Act.put, List.setIfInBounds_toArray, List.set_cons_zero, List.set_cons_succ]
  refine wpAnyH_take (i := 4) (oi := { dst := Option.some 88, op := Go.Op.load 9 (Go.Operand.tmp 87), type := 9, pos := "lines.go:94", after := #[{ on := 3, ground := Go.Ground.data }], guard := Option.none }) (v := ?_) rfl (by kernel_rfl) (by kernel_rfl) (by kernel_rfl) (fun _ _ _ h => h) (Or.inl ⟨by rfl, ?_⟩) (by assumption) ?_
  rotate_left
  · (intro w hSw; (try dsimp only at hSw); go_simp; try with_reducible rfl)
  try simp only [Act.put, List.setIfInBounds_toArray, List.set_cons_zero, List.set_cons_succ]
  refine wpAnyH_take (i := 6) (oi := { dst := Option.some 90, op := Go.Op.move (Go.Operand.tmp 1), type := 145, pos := "lines.go:94", after := #[], guard := Option.none }) (v := ?_) rfl (by kernel_rfl) (by kernel_rfl) (by kernel_rfl) (fun _ _ _ h => h) (Or.inl ⟨by rfl, ?_⟩) (by assumption) ?_
  rotate_left
  · (intro w hSw; (try dsimp only at hSw); go_simp; try with_reducible rfl)
  try simp only [Act.put, List.setIfInBounds_toArray, List.set_cons_zero, List.set_cons_succ]
  refine wpAnyH_take (i := 7) (oi := { dst := Option.some 91, op := Go.Op.nilCheck (Go.Operand.tmp 90), type := 0, pos := "lines.go:94", after := #[{ on := 6, ground := Go.Ground.data }], guard := Option.none }) (v := ?_) rfl (by kernel_rfl) (by kernel_rfl) (by kernel_rfl) (fun _ _ _ h => h) (Or.inl ⟨by rfl, ?_⟩) (by assumption) ?_
  rotate_left
  · (intro w hSw; (try dsimp only at hSw); go_simp; try with_reducible rfl)
  try simp only [Act.put, List.setIfInBounds_toArray, List.set_cons_zero, List.set_cons_succ]
  refine wpAnyH_take (i := 8) (oi := { dst := Option.some 92, op := Go.Op.fieldAddr 54 (Go.Operand.tmp 91) 5, type := 0, pos := "lines.go:94", after := #[{ on := 7, ground := Go.Ground.data }], guard := Option.none }) (v := ?_) rfl (by kernel_rfl) (by kernel_rfl) (by kernel_rfl) (fun _ _ _ h => h) (Or.inl ⟨by rfl, ?_⟩) (by assumption) ?_
  rotate_left
  · (intro w hSw; (try dsimp only at hSw); go_simp; try with_reducible rfl)
  try simp only [Act.put, List.setIfInBounds_toArray, List.set_cons_zero, List.set_cons_succ]
  refine wpAnyH_take (i := 9) (oi := { dst := Option.some 93, op := Go.Op.load 24 (Go.Operand.tmp 92), type := 24, pos := "lines.go:94", after := #[{ on := 8, ground := Go.Ground.data }], guard := Option.none }) (v := ?_) rfl (by kernel_rfl) (by kernel_rfl) (by kernel_rfl) (fun _ _ _ h => h) (Or.inl ⟨by rfl, ?_⟩) (by assumption) ?_
  rotate_left
  · (intro w hSw; (try dsimp only at hSw); go_simp; try with_reducible rfl)
  try simp only [Act.put, List.setIfInBounds_toArray, List.set_cons_zero, List.set_cons_succ]
  refine wpAnyH_ready (rs := [5]) (by kernel_rfl) (by simp) ?_
  refine AllReadyH.cons (o := { dst := Option.some 89, op := Go.Op.convert 9 83 (Go.Operand.tmp 88), type := 83, pos := "lines.go:94", after := #[{ on := 4, ground := Go.Ground.data }], guard := Option.none }) rfl (fun K hK => ?_) AllReadyH.nil
  go_simp
  have hcv0 := HCV.out
  go_simp
  clear hcv0
  replace HS := HBW.out
  refine hK.out _ _ ?_ (fun hHeld => ?_)
  · exact ⟨HS, (HS.cell ht1).trans xt, (HS.cell hb1).trans x1, (HS.cell hb1).trans x11⟩
  clear hK K
  try simp only [Act.put, List.setIfInBounds_toArray, List.set_cons_zero, List.set_cons_succ]
  refine wpAnyH_ready (rs := [10]) (by kernel_rfl) (by simp) ?_
  refine AllReadyH.cons (o := { dst := Option.some 94, op := Go.Op.call { callee := Go.Callee.value (Go.Operand.func 120), args := #[Go.Operand.tmp 84, Go.Operand.tmp 89, Go.Operand.tmp 93], argTypes := #[68, 83, 24] }, type := 83, pos := "lines.go:94", after := #[{ on := 0, ground := Go.Ground.data }, { on := 5, ground := Go.Ground.data }, { on := 9, ground := Go.Ground.data }], guard := Option.none }) rfl (fun K hK => ?_) AllReadyH.nil
  go_simp
  refine HLi.out.mono ?_
  rintro z wa ⟨⟨v, rfl, hR⟩, hF'⟩
  have HR := Lib.hid hR
  replace HS := HS.trans hF'.1
  clear hR hF'
  refine hK.out _ _ ?_ (fun hHeld => ?_)
  · exact ⟨HS, (HS.cell ht1).trans xt, (HS.cell hb1).trans x1, (HS.cell hb1).trans x11⟩
  clear hK K
  try simp only [Act.put, List.setIfInBounds_toArray, List.set_cons_zero, List.set_cons_succ]
  refine wpAnyH_ready (rs := [11]) (by kernel_rfl) (by simp) ?_
  refine AllReadyH.cons (o := { dst := Option.some 95, op := Go.Op.convert 83 9 (Go.Operand.tmp 94), type := 9, pos := "lines.go:94", after := #[{ on := 10, ground := Go.Ground.data }], guard := Option.none }) rfl (fun K hK => ?_) AllReadyH.nil
  go_simp
  have hcv := BRow.conv HR.out
  rw [← HPT.out] at hcv
  go_simp
  clear hcv
  refine hK.out _ _ ?_ (fun hHeld => ?_)
  · exact ⟨HS, (HS.cell ht1).trans xt, (HS.cell hb1).trans x1, (HS.cell hb1).trans x11⟩
  clear hK K
  try simp only [Act.put, List.setIfInBounds_toArray, List.set_cons_zero, List.set_cons_succ]
  refine wpAnyH_take (i := 12) (oi := { dst := Option.some 96, op := Go.Op.binOp Go.BinOp.add 9 (Go.Operand.tmp 95) (Go.Operand.const (Go.Value.string { data := #[59] })) 9, type := 9, pos := "lines.go:94", after := #[{ on := 11, ground := Go.Ground.data }], guard := Option.none }) (v := .string B12) rfl (by kernel_rfl) (by kernel_rfl) (by kernel_rfl) (fun _ _ _ h => h) (Or.inl ⟨by rfl, ?_⟩) (by assumption) ?_
  · (intro w hSw; (try dsimp only at hSw); go_simp)
  try simp only [Act.put, List.setIfInBounds_toArray, List.set_cons_zero, List.set_cons_succ]
  refine wpAnyH_take (i := 13) (oi := { dst := Option.some 5, op := Go.Op.assign (Go.Operand.tmp 96), type := 9, pos := "lines.go:94", after := #[{ on := 12, ground := Go.Ground.data }, { on := 10, ground := Go.Ground.chain }, { on := 0, ground := Go.Ground.phase }, { on := 1, ground := Go.Ground.phase }, { on := 2, ground := Go.Ground.phase }, { on := 3, ground := Go.Ground.phase }, { on := 4, ground := Go.Ground.phase }, { on := 5, ground := Go.Ground.phase }, { on := 6, ground := Go.Ground.phase }, { on := 7, ground := Go.Ground.phase }, { on := 8, ground := Go.Ground.phase }, { on := 9, ground := Go.Ground.phase }, { on := 10, ground := Go.Ground.phase }, { on := 11, ground := Go.Ground.phase }, { on := 12, ground := Go.Ground.phase }], guard := Option.none }) (v := ?_) rfl (by kernel_rfl) (by kernel_rfl) (by kernel_rfl) (fun _ _ _ h => h) (Or.inl ⟨by rfl, ?_⟩) (by assumption) ?_
  rotate_left
  · (intro w hSw; (try dsimp only at hSw); go_simp; try with_reducible rfl)
  try simp only [Act.put, List.setIfInBounds_toArray, List.set_cons_zero, List.set_cons_succ]
  refine wpAnyH_done (by kernel_rfl) ?_ _
  have HSE := Lib.hid (HB1.out.trans (HS.mono HB1.out.size))
  have x2' := (HS.cell hb1).trans x2
  clear HS
  by_cases h0 : ns.length = 0
  · have HF := Lib.hid (show str (St.mk 6 nm ns e a g lo hi bd el).first = B12 by rw [HT0.out h0, HB12.out])
    rw [h0] at x2'
    go_wp2_with fail
    go_ret
    exact ⟨ret_strE HF.out.symm, HSE.out⟩
  · obtain ⟨JT, hJT⟩ : ∃ J, J = str (Lib.join ns [44, 32]) := ⟨_, rfl⟩
    obtain ⟨B13, hB13⟩ : ∃ B, B = str (Lib.join ns [44, 32] ++ [32, 61, 32]) := ⟨_, rfl⟩
    obtain ⟨B14, hB14⟩ : ∃ B, B = str ((Lib.join ns [44, 32] ++ [32, 61, 32]) ++ ((nm ++ ([40] ++ Lib.join g.texts [44, 32] ++ [41])) ++ [59])) := ⟨_, rfl⟩
    have hl2 := HL.out.2 h0
    have qB13 : ∀ w : World, (Op.stringOp .add JT ⟨#[32, 61, 32]⟩).run Tryz.prog w = .ok (.string B13) w := fun w => by
      rw [hJT, hB13]; exact add_str (Lib.join ns [44, 32]) [32, 61, 32] (by simp only [List.length_cons, List.length_nil]; omega) w
    have qB14 : ∀ w : World, (Op.stringOp .add B13 B12).run Tryz.prog w = .ok (.string B14) w := fun w => by
      rw [hB13, HB12.out, hB14]; exact add_str (Lib.join ns [44, 32] ++ [32, 61, 32]) ((nm ++ ([40] ++ Lib.join g.texts [44, 32] ++ [41])) ++ [59]) (by simp only [List.length_append, List.length_cons, List.length_nil]; omega) w
    have HF := Lib.hid (show str (St.mk 6 nm ns e a g lo hi bd el).first = B14 by rw [HT1.out h0, hB14])
    have HJ2 := Lib.hid (HJn.out _ HSE.out (by omega))
    rw [← hJT] at HJ2
    have hpos : 0 < ns.length := by omega
    have hne : ((ns.length : Int) == 0) = false := by rw [beq_eq_false_iff_ne]; omega
    clear hJT hB13 hB14 hl2 h0
    generalize ns.length = nn at *
    go_wp2_with fail
    refine HJ2.out.mono ?_
    rintro z wb ⟨rfl, hB'⟩
    have HSE2 := Lib.hid (HSE.out.trans (hB'.mono HSE.out.size))
    clear hB'
    go_wp2_with fail
    go_ret
    exact ⟨ret_strE HF.out.symm, HSE2.out⟩
theorem first_any (x : St) (hm : x.may = true) (b o m : Nat) (w : World) (hb : b < w.heap.size) (hx : x.At w w.heap.size b o) (hmp : w.heap[m]? = some (fmap signT)) (hG : Glob w) (hl : x.first.length ≤ 1000000) :
    Calls Tryz.prog 109 #[.agg #[.map (some m)], .pointer (some ⟨b, o, none⟩)] w fun z w' => z = .returned (.string (str x.first)) ∧ Below w.heap.size w w' := by
  obtain ⟨kd, nm, ns, e, a, g, lo, hi, bd, el⟩ := x
  have hno : kd < 1 ∨ 6 < kd ∨ kd = 1 ∨ kd = 2 ∨ kd = 3 ∨ kd = 4 ∨ kd = 5 ∨ kd = 6 := by omega
  rcases hno with h | h | rfl | rfl | rfl | rfl | rfl | rfl
  · rw [st_may_no kd (.inl h)] at hm; cases hm
  · rw [st_may_no kd (.inr h)] at hm; cases hm
  · rw [st_may_1] at hm; simp only [Bool.and_eq_true] at hm
    exact first_1 nm ns e a g lo hi bd el hm.1.2 b o m w hb hx hmp hG hl
  · rw [st_may_2] at hm; simp only [Bool.and_eq_true] at hm
    exact first_2 nm ns e a g lo hi bd el hm.1.2.2 hm.1.2.1 b o m w hb hx hmp hG hl
  · rw [st_may_3] at hm; simp only [Bool.and_eq_true] at hm
    exact first_3 nm ns e a g lo hi bd el hm.1.1 b o m w hb hx hmp hG hl
  · rw [st_may_4] at hm; simp only [Bool.and_eq_true] at hm
    exact first_4 nm ns e a g lo hi bd el hm.1.1 b o m w hb hx hmp hG hl
  · exact first_5 nm ns e a g lo hi bd el b o m w hb hx hmp hG hl
  · rw [st_may_6] at hm; simp only [Bool.and_eq_true] at hm
    exact first_6 nm ns e a g lo hi bd el hm.1.2.2 b o m w hb hx hmp hG hl
end Go.Proofs.YtlhbledakddbbaaGreatDoor
/- The lines of any statements, shown one by one: the closure that calls itself. -/
namespace Go.Proofs.YtlhbledakddbbaaGreatDoor
open Go.RowKit
attribute [local go_sem] Oper.semAt_some

theorem hasBlock_any (k : Int) (w : World) : Calls Tryz.prog 110 #[.int .i64 k] w fun e w' => e = .returned (.bool (decide (k = 3 ∨ k = 4 ∨ k = 5))) ∧ w = w' := by
  by_cases h3 : k = 3
  · subst h3
    go_enter Tryz.func110, Tryz.ntmps110
    go_wp2_with fail
    go_ret
    exact ⟨rfl, rfl⟩
  · by_cases h4 : k = 4
    · subst h4
      go_enter Tryz.func110, Tryz.ntmps110
      go_wp2_with fail
      go_ret
      exact ⟨rfl, rfl⟩
    · by_cases h5 : k = 5
      · subst h5
        go_enter Tryz.func110, Tryz.ntmps110
        go_wp2_with fail
        go_ret
        exact ⟨rfl, rfl⟩
      · go_enter Tryz.func110, Tryz.ntmps110
        go_wp2_with fail
        go_ret
        exact ⟨by simp [h3, h4, h5], rfl⟩

theorem Sts.lines_toL : ∀ (l : Sts) (t : Nat), l.lines t = l.toL.flatMap (fun x => x.lines t)
  | .nil, _ => rfl
  | .cons x r, t => by simp only [Sts.lines, Sts.toL, List.flatMap_cons, Sts.lines_toL r t]
theorem Sts.may_toL : ∀ l : Sts, l.may = l.toL.all St.may
  | .nil => rfl
  | .cons x r => by simp only [Sts.may, Sts.toL, List.all_cons, Sts.may_toL r]
theorem Sts.deep_toL : ∀ (l : Sts), ∀ x ∈ l.toL, x.deep ≤ l.deep
  | .nil, _, h => by cases h
  | .cons y r, x, h => by
    simp only [Sts.toL, List.mem_cons] at h
    simp only [Sts.deep]
    rcases h with rfl | h
    · omega
    · have := Sts.deep_toL r x h; omega

theorem St.first_mem : ∀ (x : St) (t : Nat), (t, x.first) ∈ x.lines t
  | .mk _ _ _ _ _ _ _ _ _ _, _ => by rw [St.lines]; exact List.mem_cons_self
theorem Seg.head' {L : List (Nat × List UInt8)} {d t : Nat} {x : St} (h : Seg L d (x.lines t)) : L[d]? = some (t, x.first) := by
  obtain ⟨kd, nm, ns, e, a, g, lo, hi, bd, el⟩ := x
  rw [St.lines] at h
  exact h.head
/-- what the closures of a loop over lines hold -/
structure ShC (l qy qt qs m : Nat) (A : World) : Prop where
  ky : A.heap[qy]? = some (.cells #[.func (.yield l) #[] #[]] 117 (0, 0))
  kt : A.heap[qt]? = some (.cells #[.map (some m)] 68 (0, 0))
  ks : A.heap[qs]? = some (.cells #[.func (.func 108) #[] #[.pointer (some ⟨qy, 0, none⟩), .pointer (some ⟨qt, 0, none⟩), .pointer (some ⟨qs, 0, none⟩)]] 55 (0, 0))
  km : A.heap[m]? = some (fmap signT)
/-- a yield that is handed the lines L -/
structure ShEnv (l M N qy qt qs m : Nat) (w0 : World) (L : List (Nat × List UInt8)) (J Jx : Nat → World → Prop) : Prop where
  gl : Glob w0
  mv : ∀ k A B, J k A → Rn N A B → J k B
  bel : ∀ k A, J k A → Below w0.heap.size w0 A
  hn : ∀ k A, J k A → N ≤ A.heap.size
  cl : ∀ k A, J k A → ShC l qy qt qs m A
  yl : ∀ k x W1, L[k]? = some x → J k W1 → YieldAt Fence.wide M Tryz.prog l (encL x) W1 fun e W' => ∃ v, e = .returned (.bool v) ∧ JJ J Jx v (k + 1) W'
/-- what the showing of lines leaves -/
def Shown (J Jx : Nat → World → Prop) (L : List (Nat × List UInt8)) (d : Nat) (v : Bool) (W : World) : Prop := (v = true ∧ J d W) ∨ (v = false ∧ ∃ k, k ≤ L.length ∧ Jx k W)
def ShN (qy qt qs : Nat) (w0 : World) (L : List (Nat × List UInt8)) (J Jx : Nat → World → Prop) (n : Nat) : Prop :=
  ∀ (ls : Sts), ls.size < n → ∀ (t d : Nat) (p : Option Addr) (c : Nat) (w : World), ls.may = true → t + ls.deep ≤ 1000 → (∀ y ∈ ls.lines t, y.2.length ≤ 1000000) → ls.In w0 w0.heap.size p → Seg L d (ls.lines t) → J d w →
    Calls Tryz.prog 108 #[.slice p ls.len c, .int .i64 (t : Int), .pointer (some ⟨qy, 0, none⟩), .pointer (some ⟨qt, 0, none⟩), .pointer (some ⟨qs, 0, none⟩)] w fun e w' => ∃ v, e = .returned (.bool v) ∧ Shown J Jx L (d + (ls.lines t).length) v w'

set_option maxRecDepth 100000 in
set_option maxHeartbeats 6400000 in
theorem shn_step {l M N qy qt qs m : Nat} {w0 : World} {L : List (Nat × List UInt8)} {J Jx : Nat → World → Prop} (E : ShEnv l M N qy qt qs m w0 L J Jx) (n : Nat) (ih : ShN qy qt qs w0 L J Jx n) : ShN qy qt qs w0 L J Jx (n + 1) := by
  intro ls hsz t d p c w hmay hdeep hlen hin hseg hj
  have hls : ∀ x ∈ ls.toL, x.size < n ∧ x.may = true ∧ t + x.deep ≤ 1000 := fun x hx => by
    have h1 := Sts.toL_size hx
    have h2 := Sts.deep_toL ls x hx
    rw [Sts.may_toL] at hmay
    exact ⟨by omega, List.all_eq_true.1 hmay x hx, by omega⟩
  replace hin := Sts.rowIn hin
  rw [Sts.lines_toL] at hlen hseg ⊢
  rw [Sts.toL_len]
  generalize ls.toL = xs at hin hls hlen hseg ⊢
  have HLS := Lib.hid hls
  have S1 := Lib.hid hin
  have hm1 := hin.1
  have HSeg := Lib.hid hseg
  have HLen := Lib.hid hlen
  have HJ := Lib.hid hj
  have HE := Lib.hid E
  have IH := Lib.hid ih
  clear hin hls hlen hseg hj E ih hmay hdeep hsz
  obtain ⟨tot, htot⟩ : ∃ k, k = d + (xs.flatMap (fun x => x.lines t)).length := ⟨_, rfl⟩
  rw [← htot]
  have HTot := Lib.hid htot
  clear htot
  go_enter Tryz.func108, Tryz.ntmps108
  go_wp2_with fail
  go_loopw [12] (fun i wr => ∃ (k e : Nat) (r : List St), i = .int .i64 k ∧ k + r.length = xs.length ∧ Hid (∀ x ∈ r, x ∈ xs) ∧ Hid (∀ b o, p = some ⟨b, o, none⟩ → Row (St.At w0 w0.heap.size) 16 xs b o → Row (St.At w0 w0.heap.size) 16 r b (o + k * 16)) ∧ Hid (Seg L e (r.flatMap (fun x => x.lines t)) ∧ e + (r.flatMap (fun x => x.lines t)).length = tot ∧ ∀ y ∈ r.flatMap (fun x => x.lines t), y.2.length ≤ 1000000) ∧ Hid (J e wr)) (fun i _ => xs.length - (intOf i).toNat)
  case atStart => exact ⟨0, d, xs, rfl, by omega, Lib.hid fun x h => h, Lib.hid fun b o _ h => by rw [Nat.zero_mul]; exact h, Lib.hid ⟨HSeg.out, HTot.out.symm, HLen.out⟩, HJ⟩
  case round =>
    obtain ⟨k, e, r, rfl, hk, hmem, hat, hS, hJ⟩ := hrel
    cases r with
    | nil =>
      simp only [List.length_nil] at hk
      have hge : ¬ k < xs.length := by omega
      go_wp2_with fail
      go_ret
      have he : e = tot := by have := hS.out.2.1; simpa using this
      subst he
      exact ⟨true, rfl, .inl ⟨rfl, hJ.out⟩⟩
    | cons x r =>
      simp only [List.length_cons] at hk
      have hlt : k < xs.length := by omega
      rcases S1.out.2 with h30 | ⟨b, o, rfl, hb, ha⟩
      · omega
      obtain ⟨hx, hr⟩ := hat.out b o rfl ha
      obtain ⟨hsx, hmx, hdx⟩ := HLS.out x (hmem.out x (by simp))
      have HR := Lib.hid hr
      obtain ⟨hsg, hto, hll⟩ := hS.out
      rw [List.flatMap_cons] at hsg hto hll
      obtain ⟨kd, nm, ns, ee, aa, g, lo, hi, bd, el⟩ := x
      have HX := Lib.hid hx
      have HJ0 := Lib.hid hJ.out
      have HBl := Lib.hid (fun k A h => HE.out.bel k A h)
      have hbw : b < wr.heap.size := Nat.lt_of_lt_of_le hb (HE.out.bel _ _ hJ.out).size
      have y1 : wr.cell? ⟨qy, 0, none⟩ = some (.func (.yield l) #[] #[]) := cell_of_one (HE.out.cl _ _ hJ.out).ky
      have y2 : wr.cell? ⟨qt, 0, none⟩ = some (.map (some m)) := cell_of_one (HE.out.cl _ _ hJ.out).kt
      have HFi := Lib.hid (first_any _ hmx b (o + k * 16) m wr.drew hbw (St.At.later (HE.out.bel _ _ hJ.out).drew (HE.out.bel _ _ hJ.out).size _ b _ hb hx) (HE.out.cl _ _ hJ.out).km (HE.out.gl.later (HE.out.bel _ _ hJ.out).drew) (hll _ (List.mem_append_left _ (St.first_mem _ t))))
      clear hx hr ha hat hJ hS
      go_wp2_with fail
      go_cut [24] from 18 to 23 (fun s24 wx => ∃ v, s24 = .bool (!v) ∧ Hid (JJ J Jx v (e + 1) wx))
      case first =>
        refine (wpIn_wide (n := M + 1)).1 ?_
        have HG := Lib.hid hsg.left.head'
        have HJd := Lib.hid (HE.out.mv e wr wr.drew HJ0.out ⟨(Below.refl _ wr).drew, fun _ _ h _ => h⟩)
        gi_region_with (first
          | (refine ⟨trivial, ?_⟩; gi_at_call 109; refine (callsIn_wide.2 HFi.out).mono ?_; rintro z w2 ⟨rfl, hB2⟩; have y1 := (hB2.cell (p := ⟨qy, 0, none⟩) (lt_of_block (HE.out.cl _ _ HJ0.out).ky)).trans y1; obtain ⟨fn, tmps, assign, body, hy, hR⟩ := HE.out.yl _ _ w2 HG.out (HE.out.mv _ _ _ HJd.out (Rn.of_below hB2 (HE.out.hn _ _ HJd.out))); rw [encL] at hy)
          | (refine hR.mono ?_; rintro z w3 ⟨v, rfl, hj⟩))
        all_goals (gi_wp2_with fail; go_meet; exact ⟨v, rfl, Lib.hid hj⟩)
      case rest =>
        obtain ⟨v, rfl, hj⟩ := hcut
        have hel := hsg.left.len
        have he1 : e + 1 ≤ L.length := by have := hel; simp only [St.lines, List.length_cons] at this; omega
        clear y1 y2 HFi HJ0 hbw
        rcases hj.out with ⟨rfl, hj1⟩ | ⟨rfl, hj1⟩
        rotate_left
        · have HX1 := Lib.hid hj1
          clear hj1 hj
          go_wp2_with fail
          go_ret
          exact ⟨false, rfl, .inr ⟨rfl, e + 1, he1, HX1.out⟩⟩
        have HJ1 := Lib.hid hj1
        clear hj1 hj
        obtain ⟨x0, _, _, _, _, _, _, _, _, _, ⟨pb, cb, xb, sb⟩, ⟨pl, cl, xl, sl⟩⟩ := HX.out.parts
        have hB1 := HBl.out _ _ HJ1.out
        have z0 := (hB1.cell hb).trans x0
        have hbm := may_block hmx
        obtain ⟨bk, hbk⟩ : ∃ bk, decide (kd = 3 ∨ kd = 4 ∨ kd = 5) = bk := ⟨_, rfl⟩
        have HHb := Lib.hid (hasBlock_any kd wc)
        rw [hbk] at HHb
        go_wp2_with fail
        refine HHb.out.mono ?_
        rintro z w2 ⟨rfl, rfl⟩
        clear HHb z0
        cases bk with
        | false =>
          have hno : ¬ (kd = 3 ∨ kd = 4 ∨ kd = 5) := by simpa using hbk
          rw [St.lines, if_neg hno] at hsg hto hll
          have hs2 := hsg.right
          simp only [List.length_cons, List.length_nil, List.length_append] at hs2 hto
          have HS2 := Lib.hid (show Seg L (e + 1) (r.flatMap (fun x => x.lines t)) ∧ e + 1 + (r.flatMap (fun x => x.lines t)).length = tot ∧ ∀ y ∈ r.flatMap (fun x => x.lines t), y.2.length ≤ 1000000 from ⟨hs2, by omega, fun y hy => hll y (List.mem_append_right _ hy)⟩)
          clear hsg hto hll hs2 hB1 hbm xb xl x0 sb sl
          go_wp2_with fail
          go_roundw
          case rel => exact ⟨k + 1, e + 1, r, by go_num, by omega, Lib.hid fun x hx => hmem.out x (List.mem_cons_of_mem _ hx), Lib.hid fun b' o' e' _ => by cases e'; rw [show o + (k + 1) * 16 = o + k * 16 + 16 by omega]; exact HR.out, HS2, HJ1⟩
          case measure => simp [intOf]; omega
        | true =>
          have hyes : kd = 3 ∨ kd = 4 ∨ kd = 5 := by simpa using hbk
          rw [St.lines, if_pos hyes] at hsg hto hll
          simp only [St.deep, St.size] at hdx hsx
          have hsg1 := hsg.left.tail
          have hsgR := hsg.right
          have hbl : ∀ y ∈ bd.lines (t + 1), y.2.length ≤ 1000000 := fun y hy => hll y (List.mem_append_left _ (List.mem_cons_of_mem _ (List.mem_append_left _ hy)))
          have hll2 : ∀ y ∈ r.flatMap (fun x => x.lines t), y.2.length ≤ 1000000 := fun y hy => hll y (List.mem_append_right _ hy)
          have ht1 : t ≤ 1000 := by omega
          have hcast : ((t + 1 : Nat) : Int) = IntKind.i64.wrap ((t : Int) + 1) := by rw [IntWalk.i64_in _ (by omega)]; omega
          have HBd := Lib.hid (fun (w1 : World) (hj : J (e + 1) w1) => IH.out bd (by omega) (t + 1) (e + 1) pb cb w1 hbm.1 (by omega) hbl sb hsg1.left hj)
          rw [hcast] at HBd
          obtain ⟨lb, hlb⟩ : ∃ k, k = (bd.lines (t + 1)).length := ⟨_, rfl⟩
          rw [← hlb] at HBd
          have hsg2 := hsg1.right
          rw [← hlb] at hsg2
          obtain ⟨e3, he3⟩ : ∃ k, k = e + 1 + lb + (if el.len = 0 then 0 else 1 + (el.lines (t + 1)).length) := ⟨_, rfl⟩
          have hie : (if el.len = 0 then [] else (t, elseT) :: el.lines (t + 1)).length = if el.len = 0 then 0 else 1 + (el.lines (t + 1)).length := by split <;> simp [Nat.add_comm]
          have hE : e + ((t, firstT kd nm ns ee.text aa.text g.texts lo hi) :: (bd.lines (t + 1) ++ ((if el.len = 0 then [] else (t, elseT) :: el.lines (t + 1)) ++ [(t, [125])]))).length = e3 + 1 := by
            rw [he3, List.length_cons, List.length_append, List.length_append, hie, ← hlb, List.length_cons, List.length_nil]; omega
          rw [hE] at hsgR
          rw [List.length_append, ← Nat.add_assoc, hE] at hto
          have he3L : e3 + 1 ≤ L.length := by have := hsgR.len; omega
          have hlast : L[e3]? = some (t, [125]) := by have h := hsg2.right.head; rw [hie, ← he3] at h; exact h
          have ys : wc.cell? ⟨qs, 0, none⟩ = some (.func (.func 108) #[] #[.pointer (some ⟨qy, 0, none⟩), .pointer (some ⟨qt, 0, none⟩), .pointer (some ⟨qs, 0, none⟩)]) := cell_of_one (HE.out.cl _ _ HJ1.out).ks
          have z14 := (hB1.cell hb).trans xb
          have HJd := Lib.hid (HE.out.mv _ wc wc.drew HJ1.out ⟨(Below.refl _ wc).drew, fun _ _ h _ => h⟩)
          have hle : el.len ≠ 0 → ∀ y ∈ el.lines (t + 1), y.2.length ≤ 1000000 := fun h y hy => hll y (List.mem_append_left _ (List.mem_cons_of_mem _ (List.mem_append_right _ (List.mem_append_left _ (by rw [if_neg h]; exact List.mem_cons_of_mem _ hy)))))
          clear hB1 hsg hll hsg1 hbl
          go_upto_region 8 with fail
          go_cut [39] from 31 to 38 (fun s39 wx => ∃ v, s39 = .bool (!v) ∧ Hid (Shown J Jx L (e + 1 + lb) v wx))
          case first =>
            refine (wpIn_wide (n := M + 1)).1 ?_
            gi_region_with (first
              | (refine ⟨trivial, ?_⟩; refine (callsIn_wide.2 (HBd.out _ HJd.out)).mono ?_; rintro z w3 ⟨v, rfl, hj⟩))
            all_goals (gi_wp2_with fail; go_meet; exact ⟨v, rfl, Lib.hid hj⟩)
          case rest =>
            obtain ⟨v, rfl, hj⟩ := hcut
            clear ys z14 HJd HBd HJ1
            rcases hj.out with ⟨rfl, hj1⟩ | ⟨rfl, hj1⟩
            rotate_left
            · have HX1 := Lib.hid hj1
              clear hj1 hj
              go_wp2_with fail
              go_ret
              exact ⟨false, rfl, .inr ⟨rfl, HX1.out⟩⟩
            have HJ2 := Lib.hid hj1
            clear hj1 hj
            have hB2 := HBl.out _ _ HJ2.out
            have z15 := (hB2.cell hb).trans xl
            have HJd2 := Lib.hid (HE.out.mv _ wc wc.drew HJ2.out ⟨(Below.refl _ wc).drew, fun _ _ h _ => h⟩)
            go_upto_region 10 with fail
            go_cut [62] from 40 to 61 (fun s62 wx => ∃ q, s62 = .bool (!q) ∧ Hid (Shown J Jx L e3 q wx))
            case first =>
              rename_i ab wcb l8 l7 l6 l5 l4 l3 l2 l1 l0 hh1 hh0 K1 a1 K2 a2 JQ KQ hJQ hKQ
              clear a1 a2 ab l8 l7 l6 l5 l4 l3 l2 l1 l0 hh1 hh0 HLS HSeg HLen HTot HJ hmem HX hmx hel he1 hll2 hlb HR S1 hbk hyes hB2 x0 xb sb hk hlt hm1 hlast hie hE hsgR hto
              refine (wpIn_wide (n := M + 1)).1 ?_
              by_cases h0 : el.len = 0
              · rw [h0] at z15
                rw [if_pos h0, Nat.add_zero] at he3
                refine wpIn_region_any (by kernel_rfl) ?_
                try (change wpAnyIn _ _ _ _ _ _ _ _ _ (World.drew _))
                refine wpAnyIn_take (i := 0) (oi := { dst := Option.some 40, op := Go.Op.move (Go.Operand.tmp 9), type := 145, pos := "lines.go:63", after := #[], guard := Option.none }) (v := ?_) rfl rfl (by kernel_rfl) (by kernel_rfl) (by kernel_rfl) (fun _ _ _ h => h) ⟨Or.inl ⟨by rfl, ?_⟩, fun _ => rfl⟩ ?_
                rotate_left
                · (intro w; go_simp; try with_reducible rfl)
                try simp only [Act.put, List.setIfInBounds_toArray, List.set_cons_zero, List.set_cons_succ]
                refine wpAnyIn_take (i := 1) (oi := { dst := Option.some 41, op := Go.Op.nilCheck (Go.Operand.tmp 40), type := 0, pos := "lines.go:63", after := #[{ on := 0, ground := Go.Ground.data }], guard := Option.none }) (v := ?_) rfl rfl (by kernel_rfl) (by kernel_rfl) (by kernel_rfl) (fun _ _ _ h => h) ⟨Or.inl ⟨by rfl, ?_⟩, fun _ => rfl⟩ ?_
                rotate_left
                · (intro w; go_simp; try with_reducible rfl)
                try simp only [Act.put, List.setIfInBounds_toArray, List.set_cons_zero, List.set_cons_succ]
                refine wpAnyIn_take (i := 2) (oi := { dst := Option.some 42, op := Go.Op.fieldAddr 54 (Go.Operand.tmp 41) 9, type := 0, pos := "lines.go:63", after := #[{ on := 1, ground := Go.Ground.data }], guard := Option.none }) (v := ?_) rfl rfl (by kernel_rfl) (by kernel_rfl) (by kernel_rfl) (fun _ _ _ h => h) ⟨Or.inl ⟨by rfl, ?_⟩, fun _ => rfl⟩ ?_
                rotate_left
                · (intro w; go_simp; try with_reducible rfl)
                try simp only [Act.put, List.setIfInBounds_toArray, List.set_cons_zero, List.set_cons_succ]
                refine wpAnyIn_ready (rs := [3]) (by kernel_rfl) (by simp) ?_
                refine AllReadyIn.cons (o := { dst := Option.some 43, op := Go.Op.load 47 (Go.Operand.tmp 42), type := 47, pos := "lines.go:63", after := #[{ on := 2, ground := Go.Ground.data }], guard := Option.none }) rfl (fun K hK => ?_) AllReadyIn.nil
                go_simp
                refine hK _ _ ?_
                clear hK K
                try simp only [Act.put, List.setIfInBounds_toArray, List.set_cons_zero, List.set_cons_succ]
                refine wpAnyIn_ready (rs := [4]) (by kernel_rfl) (by simp) ?_
                refine AllReadyIn.cons (o := { dst := Option.some 44, op := Go.Op.call { callee := Go.Callee.builtin Go.Builtin.len, args := #[Go.Operand.tmp 43], argTypes := #[47] }, type := 3, pos := "lines.go:63", after := #[{ on := 3, ground := Go.Ground.data }], guard := Option.none }) rfl (fun K hK => ?_) AllReadyIn.nil
                go_simp
                refine hK _ _ ?_
                clear hK K
                try simp only [Act.put, List.setIfInBounds_toArray, List.set_cons_zero, List.set_cons_succ]
                refine wpAnyIn_take (i := 5) (oi := { dst := Option.some 45, op := Go.Op.binOp Go.BinOp.gtr 3 (Go.Operand.tmp 44) (Go.Operand.const (Go.Value.int Go.IntKind.i64 0)) 3, type := 4, pos := "lines.go:63", after := #[{ on := 4, ground := Go.Ground.data }], guard := Option.none }) (v := .bool false) rfl rfl (by kernel_rfl) (by kernel_rfl) (by kernel_rfl) (fun _ _ _ h => h) ⟨Or.inl ⟨by rfl, ?_⟩, fun _ => rfl⟩ ?_
                · (intro w; go_simp)
                try simp only [Act.put, List.setIfInBounds_toArray, List.set_cons_zero, List.set_cons_succ]
                refine wpAnyIn_take (i := 6) (oi := { dst := Option.some 46, op := Go.Op.move (Go.Operand.tmp 45), type := 4, pos := "lines.go:63", after := #[{ on := 5, ground := Go.Ground.data }], guard := Option.none }) (v := ?_) rfl rfl (by kernel_rfl) (by kernel_rfl) (by kernel_rfl) (fun _ _ _ h => h) ⟨Or.inl ⟨by rfl, ?_⟩, fun _ => rfl⟩ ?_
                rotate_left
                · (intro w; go_simp; try with_reducible rfl)
                try simp only [Act.put, List.setIfInBounds_toArray, List.set_cons_zero, List.set_cons_succ]
                refine wpAnyIn_take (i := 7) (oi := { dst := Option.some 47, op := Go.Op.load 117 (Go.Operand.tmp 2), type := 117, pos := "lines.go:63", after := #[{ on := 6, ground := Go.Ground.guard }], guard := Option.some (6, Bool.true) }) (v := undef) rfl rfl (by kernel_rfl) (by kernel_rfl) (by kernel_rfl) (fun _ _ _ h => h) ⟨Or.inr ⟨by rfl, rfl⟩, fun _ => rfl⟩ ?_
                try simp only [Act.put, List.setIfInBounds_toArray, List.set_cons_zero, List.set_cons_succ]
                refine wpAnyIn_take (i := 8) (oi := { dst := Option.some 48, op := Go.Op.move (Go.Operand.tmp 1), type := 3, pos := "lines.go:63", after := #[{ on := 6, ground := Go.Ground.guard }], guard := Option.some (6, Bool.true) }) (v := undef) rfl rfl (by kernel_rfl) (by kernel_rfl) (by kernel_rfl) (fun _ _ _ h => h) ⟨Or.inr ⟨by rfl, rfl⟩, fun _ => rfl⟩ ?_
                try simp only [Act.put, List.setIfInBounds_toArray, List.set_cons_zero, List.set_cons_succ]
                refine wpAnyIn_take (i := 9) (oi := { dst := Option.some 49, op := Go.Op.call { callee := Go.Callee.value (Go.Operand.tmp 47), args := #[Go.Operand.tmp 48, Go.Operand.const (Go.Value.string { data := #[125, 32, 101, 108, 115, 101, 32, 123] })], argTypes := #[3, 9] }, type := 4, pos := "lines.go:63", after := #[{ on := 7, ground := Go.Ground.data }, { on := 8, ground := Go.Ground.data }, { on := 6, ground := Go.Ground.chain }, { on := 6, ground := Go.Ground.guard }], guard := Option.some (6, Bool.true) }) (v := undef) rfl rfl (by kernel_rfl) (by kernel_rfl) (by kernel_rfl) (fun _ _ _ h => h) ⟨Or.inr ⟨by rfl, rfl⟩, fun _ => rfl⟩ ?_
                try simp only [Act.put, List.setIfInBounds_toArray, List.set_cons_zero, List.set_cons_succ]
                refine wpAnyIn_take (i := 10) (oi := { dst := Option.some 50, op := Go.Op.unOp Go.UnOp.not 4 (Go.Operand.tmp 49), type := 4, pos := "lines.go:63", after := #[{ on := 9, ground := Go.Ground.data }, { on := 6, ground := Go.Ground.guard }], guard := Option.some (6, Bool.true) }) (v := undef) rfl rfl (by kernel_rfl) (by kernel_rfl) (by kernel_rfl) (fun _ _ _ h => h) ⟨Or.inr ⟨by rfl, rfl⟩, fun _ => rfl⟩ ?_
                try simp only [Act.put, List.setIfInBounds_toArray, List.set_cons_zero, List.set_cons_succ]
                refine wpAnyIn_take (i := 11) (oi := { dst := Option.some 51, op := Go.Op.move (Go.Operand.tmp 50), type := 4, pos := "lines.go:63", after := #[{ on := 10, ground := Go.Ground.data }, { on := 9, ground := Go.Ground.chain }, { on := 6, ground := Go.Ground.guard }], guard := Option.some (6, Bool.true) }) (v := undef) rfl rfl (by kernel_rfl) (by kernel_rfl) (by kernel_rfl) (fun _ _ _ h => h) ⟨Or.inr ⟨by rfl, rfl⟩, fun _ => rfl⟩ ?_
                try simp only [Act.put, List.setIfInBounds_toArray, List.set_cons_zero, List.set_cons_succ]
                refine wpAnyIn_take (i := 12) (oi := { dst := Option.some 52, op := Go.Op.load 55 (Go.Operand.tmp 4), type := 55, pos := "lines.go:63", after := #[{ on := 11, ground := Go.Ground.guard }], guard := Option.some (11, Bool.false) }) (v := undef) rfl rfl (by kernel_rfl) (by kernel_rfl) (by kernel_rfl) (fun _ _ _ h => h) ⟨Or.inr ⟨by rfl, rfl⟩, fun _ => rfl⟩ ?_
                try simp only [Act.put, List.setIfInBounds_toArray, List.set_cons_zero, List.set_cons_succ]
                refine wpAnyIn_take (i := 13) (oi := { dst := Option.some 53, op := Go.Op.move (Go.Operand.tmp 9), type := 145, pos := "lines.go:63", after := #[{ on := 11, ground := Go.Ground.guard }], guard := Option.some (11, Bool.false) }) (v := undef) rfl rfl (by kernel_rfl) (by kernel_rfl) (by kernel_rfl) (fun _ _ _ h => h) ⟨Or.inr ⟨by rfl, rfl⟩, fun _ => rfl⟩ ?_
                try simp only [Act.put, List.setIfInBounds_toArray, List.set_cons_zero, List.set_cons_succ]
                refine wpAnyIn_take (i := 14) (oi := { dst := Option.some 54, op := Go.Op.nilCheck (Go.Operand.tmp 53), type := 0, pos := "lines.go:63", after := #[{ on := 13, ground := Go.Ground.data }, { on := 11, ground := Go.Ground.guard }], guard := Option.some (11, Bool.false) }) (v := undef) rfl rfl (by kernel_rfl) (by kernel_rfl) (by kernel_rfl) (fun _ _ _ h => h) ⟨Or.inr ⟨by rfl, rfl⟩, fun _ => rfl⟩ ?_
                try simp only [Act.put, List.setIfInBounds_toArray, List.set_cons_zero, List.set_cons_succ]
                refine wpAnyIn_take (i := 15) (oi := { dst := Option.some 55, op := Go.Op.fieldAddr 54 (Go.Operand.tmp 54) 9, type := 0, pos := "lines.go:63", after := #[{ on := 14, ground := Go.Ground.data }, { on := 11, ground := Go.Ground.guard }], guard := Option.some (11, Bool.false) }) (v := undef) rfl rfl (by kernel_rfl) (by kernel_rfl) (by kernel_rfl) (fun _ _ _ h => h) ⟨Or.inr ⟨by rfl, rfl⟩, fun _ => rfl⟩ ?_
                try simp only [Act.put, List.setIfInBounds_toArray, List.set_cons_zero, List.set_cons_succ]
                refine wpAnyIn_take (i := 16) (oi := { dst := Option.some 56, op := Go.Op.load 47 (Go.Operand.tmp 55), type := 47, pos := "lines.go:63", after := #[{ on := 15, ground := Go.Ground.data }, { on := 11, ground := Go.Ground.guard }], guard := Option.some (11, Bool.false) }) (v := undef) rfl rfl (by kernel_rfl) (by kernel_rfl) (by kernel_rfl) (fun _ _ _ h => h) ⟨Or.inr ⟨by rfl, rfl⟩, fun _ => rfl⟩ ?_
                try simp only [Act.put, List.setIfInBounds_toArray, List.set_cons_zero, List.set_cons_succ]
                refine wpAnyIn_take (i := 17) (oi := { dst := Option.some 57, op := Go.Op.move (Go.Operand.tmp 1), type := 3, pos := "lines.go:63", after := #[{ on := 11, ground := Go.Ground.guard }], guard := Option.some (11, Bool.false) }) (v := undef) rfl rfl (by kernel_rfl) (by kernel_rfl) (by kernel_rfl) (fun _ _ _ h => h) ⟨Or.inr ⟨by rfl, rfl⟩, fun _ => rfl⟩ ?_
                try simp only [Act.put, List.setIfInBounds_toArray, List.set_cons_zero, List.set_cons_succ]
                refine wpAnyIn_take (i := 18) (oi := { dst := Option.some 58, op := Go.Op.binOp Go.BinOp.add 3 (Go.Operand.tmp 57) (Go.Operand.const (Go.Value.int Go.IntKind.i64 1)) 3, type := 3, pos := "lines.go:63", after := #[{ on := 17, ground := Go.Ground.data }, { on := 11, ground := Go.Ground.guard }], guard := Option.some (11, Bool.false) }) (v := undef) rfl rfl (by kernel_rfl) (by kernel_rfl) (by kernel_rfl) (fun _ _ _ h => h) ⟨Or.inr ⟨by rfl, rfl⟩, fun _ => rfl⟩ ?_
                try simp only [Act.put, List.setIfInBounds_toArray, List.set_cons_zero, List.set_cons_succ]
                refine wpAnyIn_take (i := 19) (oi := { dst := Option.some 59, op := Go.Op.call { callee := Go.Callee.value (Go.Operand.tmp 52), args := #[Go.Operand.tmp 56, Go.Operand.tmp 58], argTypes := #[47, 3] }, type := 4, pos := "lines.go:63", after := #[{ on := 12, ground := Go.Ground.data }, { on := 16, ground := Go.Ground.data }, { on := 18, ground := Go.Ground.data }, { on := 11, ground := Go.Ground.chain }, { on := 11, ground := Go.Ground.guard }], guard := Option.some (11, Bool.false) }) (v := undef) rfl rfl (by kernel_rfl) (by kernel_rfl) (by kernel_rfl) (fun _ _ _ h => h) ⟨Or.inr ⟨by rfl, rfl⟩, fun _ => rfl⟩ ?_
                try simp only [Act.put, List.setIfInBounds_toArray, List.set_cons_zero, List.set_cons_succ]
                refine wpAnyIn_take (i := 20) (oi := { dst := Option.some 60, op := Go.Op.unOp Go.UnOp.not 4 (Go.Operand.tmp 59), type := 4, pos := "lines.go:63", after := #[{ on := 19, ground := Go.Ground.data }, { on := 11, ground := Go.Ground.guard }], guard := Option.some (11, Bool.false) }) (v := undef) rfl rfl (by kernel_rfl) (by kernel_rfl) (by kernel_rfl) (fun _ _ _ h => h) ⟨Or.inr ⟨by rfl, rfl⟩, fun _ => rfl⟩ ?_
                try simp only [Act.put, List.setIfInBounds_toArray, List.set_cons_zero, List.set_cons_succ]
                refine wpAnyIn_take (i := 21) (oi := { dst := Option.some 61, op := Go.Op.pick (Go.Operand.tmp 51) (Go.Operand.const (Go.Value.bool Bool.true)) (Go.Operand.tmp 60), type := 4, pos := "lines.go:63", after := #[{ on := 11, ground := Go.Ground.data }, { on := 20, ground := Go.Ground.data }, { on := 6, ground := Go.Ground.guard }], guard := Option.some (6, Bool.true) }) (v := undef) rfl rfl (by kernel_rfl) (by kernel_rfl) (by kernel_rfl) (fun _ _ _ h => h) ⟨Or.inr ⟨by rfl, rfl⟩, fun _ => rfl⟩ ?_
                try simp only [Act.put, List.setIfInBounds_toArray, List.set_cons_zero, List.set_cons_succ]
                refine wpAnyIn_take (i := 22) (oi := { dst := Option.some 62, op := Go.Op.pick (Go.Operand.tmp 46) (Go.Operand.tmp 61) (Go.Operand.const (Go.Value.bool Bool.false)), type := 4, pos := "lines.go:63", after := #[{ on := 6, ground := Go.Ground.data }, { on := 21, ground := Go.Ground.data }], guard := Option.none }) (v := ?_) rfl rfl (by kernel_rfl) (by kernel_rfl) (by kernel_rfl) (fun _ _ _ h => h) ⟨Or.inl ⟨by rfl, ?_⟩, fun _ => rfl⟩ ?_
                rotate_left
                · (intro w; go_simp; try with_reducible rfl)
                try simp only [Act.put, List.setIfInBounds_toArray, List.set_cons_zero, List.set_cons_succ]
                refine wpAnyIn_done (by kernel_rfl) ?_ _
                gi_wp2_with fail
                go_meet
                exact ⟨true, rfl, Lib.hid (.inl ⟨rfl, he3 ▸ HJd2.out⟩)⟩
              · have hpos : (0 : Int) < (el.len : Int) := by omega
                rw [if_neg h0] at he3
                rw [if_neg h0] at hsg2
                have hyl := HE.out.yl _ _ wc.drew hsg2.left.head HJd2.out
                have hsE := hsg2.left.tail
                have HEl := Lib.hid (fun (w1 : World) (hj : J (e + 1 + lb + 1) w1) => IH.out el (by omega) (t + 1) (e + 1 + lb + 1) pl cl w1 hbm.2.1 (by omega) (fun y hy => hle h0 y hy) sl hsE hj)
                rw [hcast] at HEl
                have hfin : e + 1 + lb + 1 + (el.lines (t + 1)).length = e3 := by omega
                rw [hfin] at HEl
                have hk2 : e + 1 + lb + 1 ≤ L.length := by omega
                have y1 : wc.cell? ⟨qy, 0, none⟩ = some (.func (.yield l) #[] #[]) := cell_of_one (HE.out.cl _ _ HJ2.out).ky
                obtain ⟨fn, tmps, assign, body, hy, hR⟩ := hyl
                simp only [encL] at hy
                rw [show str elseT = ⟨#[125, 32, 101, 108, 115, 101, 32, 123]⟩ from rfl] at hy
                clear hsg2 hsE HJ2 he3 he3L hcast HJd2

                refine wpIn_region_any (by kernel_rfl) ?_
                try (change wpAnyIn _ _ _ _ _ _ _ _ _ (World.drew _))
                refine wpAnyIn_take (i := 0) (oi := { dst := Option.some 40, op := Go.Op.move (Go.Operand.tmp 9), type := 145, pos := "lines.go:63", after := #[], guard := Option.none }) (v := ?_) rfl rfl (by kernel_rfl) (by kernel_rfl) (by kernel_rfl) (fun _ _ _ h => h) ⟨Or.inl ⟨by rfl, ?_⟩, fun _ => rfl⟩ ?_
                rotate_left
                · (intro w; go_simp; try with_reducible rfl)
                try simp only [Act.put, List.setIfInBounds_toArray, List.set_cons_zero, List.set_cons_succ]
                refine wpAnyIn_take (i := 1) (oi := { dst := Option.some 41, op := Go.Op.nilCheck (Go.Operand.tmp 40), type := 0, pos := "lines.go:63", after := #[{ on := 0, ground := Go.Ground.data }], guard := Option.none }) (v := ?_) rfl rfl (by kernel_rfl) (by kernel_rfl) (by kernel_rfl) (fun _ _ _ h => h) ⟨Or.inl ⟨by rfl, ?_⟩, fun _ => rfl⟩ ?_
                rotate_left
                · (intro w; go_simp; try with_reducible rfl)
                try simp only [Act.put, List.setIfInBounds_toArray, List.set_cons_zero, List.set_cons_succ]
                refine wpAnyIn_take (i := 2) (oi := { dst := Option.some 42, op := Go.Op.fieldAddr 54 (Go.Operand.tmp 41) 9, type := 0, pos := "lines.go:63", after := #[{ on := 1, ground := Go.Ground.data }], guard := Option.none }) (v := ?_) rfl rfl (by kernel_rfl) (by kernel_rfl) (by kernel_rfl) (fun _ _ _ h => h) ⟨Or.inl ⟨by rfl, ?_⟩, fun _ => rfl⟩ ?_
                rotate_left
                · (intro w; go_simp; try with_reducible rfl)
                try simp only [Act.put, List.setIfInBounds_toArray, List.set_cons_zero, List.set_cons_succ]
                refine wpAnyIn_ready (rs := [3]) (by kernel_rfl) (by simp) ?_
                refine AllReadyIn.cons (o := { dst := Option.some 43, op := Go.Op.load 47 (Go.Operand.tmp 42), type := 47, pos := "lines.go:63", after := #[{ on := 2, ground := Go.Ground.data }], guard := Option.none }) rfl (fun K hK => ?_) AllReadyIn.nil
                go_simp
                refine hK _ _ ?_
                clear hK K
                try simp only [Act.put, List.setIfInBounds_toArray, List.set_cons_zero, List.set_cons_succ]
                refine wpAnyIn_ready (rs := [4]) (by kernel_rfl) (by simp) ?_
                refine AllReadyIn.cons (o := { dst := Option.some 44, op := Go.Op.call { callee := Go.Callee.builtin Go.Builtin.len, args := #[Go.Operand.tmp 43], argTypes := #[47] }, type := 3, pos := "lines.go:63", after := #[{ on := 3, ground := Go.Ground.data }], guard := Option.none }) rfl (fun K hK => ?_) AllReadyIn.nil
                go_simp
                refine hK _ _ ?_
                clear hK K
                try simp only [Act.put, List.setIfInBounds_toArray, List.set_cons_zero, List.set_cons_succ]
                refine wpAnyIn_take (i := 5) (oi := { dst := Option.some 45, op := Go.Op.binOp Go.BinOp.gtr 3 (Go.Operand.tmp 44) (Go.Operand.const (Go.Value.int Go.IntKind.i64 0)) 3, type := 4, pos := "lines.go:63", after := #[{ on := 4, ground := Go.Ground.data }], guard := Option.none }) (v := .bool true) rfl rfl (by kernel_rfl) (by kernel_rfl) (by kernel_rfl) (fun _ _ _ h => h) ⟨Or.inl ⟨by rfl, ?_⟩, fun _ => rfl⟩ ?_
                · (intro w; go_simp; omega)
                try simp only [Act.put, List.setIfInBounds_toArray, List.set_cons_zero, List.set_cons_succ]
                refine wpAnyIn_take (i := 6) (oi := { dst := Option.some 46, op := Go.Op.move (Go.Operand.tmp 45), type := 4, pos := "lines.go:63", after := #[{ on := 5, ground := Go.Ground.data }], guard := Option.none }) (v := ?_) rfl rfl (by kernel_rfl) (by kernel_rfl) (by kernel_rfl) (fun _ _ _ h => h) ⟨Or.inl ⟨by rfl, ?_⟩, fun _ => rfl⟩ ?_
                rotate_left
                · (intro w; go_simp; try with_reducible rfl)
                try simp only [Act.put, List.setIfInBounds_toArray, List.set_cons_zero, List.set_cons_succ]
                refine wpAnyIn_take (i := 8) (oi := { dst := Option.some 48, op := Go.Op.move (Go.Operand.tmp 1), type := 3, pos := "lines.go:63", after := #[{ on := 6, ground := Go.Ground.guard }], guard := Option.some (6, Bool.true) }) (v := ?_) rfl rfl (by kernel_rfl) (by kernel_rfl) (by kernel_rfl) (fun _ _ _ h => h) ⟨Or.inl ⟨by rfl, ?_⟩, fun _ => rfl⟩ ?_
                rotate_left
                · (intro w; go_simp; try with_reducible rfl)
                try simp only [Act.put, List.setIfInBounds_toArray, List.set_cons_zero, List.set_cons_succ]
                refine wpAnyIn_ready (rs := [7]) (by kernel_rfl) (by simp) ?_
                refine AllReadyIn.cons (o := { dst := Option.some 47, op := Go.Op.load 117 (Go.Operand.tmp 2), type := 117, pos := "lines.go:63", after := #[{ on := 6, ground := Go.Ground.guard }], guard := Option.some (6, Bool.true) }) rfl (fun K hK => ?_) AllReadyIn.nil
                go_simp
                refine hK _ _ ?_
                clear hK K
                try simp only [Act.put, List.setIfInBounds_toArray, List.set_cons_zero, List.set_cons_succ]
                refine wpAnyIn_ready (rs := [9]) (by kernel_rfl) (by simp) ?_
                refine AllReadyIn.cons (o := { dst := Option.some 49, op := Go.Op.call { callee := Go.Callee.value (Go.Operand.tmp 47), args := #[Go.Operand.tmp 48, Go.Operand.const (Go.Value.string { data := #[125, 32, 101, 108, 115, 101, 32, 123] })], argTypes := #[3, 9] }, type := 4, pos := "lines.go:63", after := #[{ on := 7, ground := Go.Ground.data }, { on := 8, ground := Go.Ground.data }, { on := 6, ground := Go.Ground.chain }, { on := 6, ground := Go.Ground.guard }], guard := Option.some (6, Bool.true) }) rfl (fun K hK => ?_) AllReadyIn.nil
                go_simp
                refine hR.mono ?_
                rintro z w3 ⟨v, rfl, hj⟩
                refine hK _ _ ?_
                clear hK K
                try simp only [Act.put, List.setIfInBounds_toArray, List.set_cons_zero, List.set_cons_succ]
                cases v with
                | false =>
                  have HX2 : Hid (Jx (e + 1 + lb + 1) w3) := Lib.hid (by rcases hj with ⟨h, _⟩ | ⟨_, h⟩; cases h; exact h)
                  clear hj HEl z15
                  refine wpAnyIn_take (i := 10) (oi := { dst := Option.some 50, op := Go.Op.unOp Go.UnOp.not 4 (Go.Operand.tmp 49), type := 4, pos := "lines.go:63", after := #[{ on := 9, ground := Go.Ground.data }, { on := 6, ground := Go.Ground.guard }], guard := Option.some (6, Bool.true) }) (v := ?_) rfl rfl (by kernel_rfl) (by kernel_rfl) (by kernel_rfl) (fun _ _ _ h => h) ⟨Or.inl ⟨by rfl, ?_⟩, fun _ => rfl⟩ ?_
                  rotate_left
                  · (intro w; go_simp; try with_reducible rfl)
                  try simp only [Act.put, List.setIfInBounds_toArray, List.set_cons_zero, List.set_cons_succ]
                  refine wpAnyIn_take (i := 11) (oi := { dst := Option.some 51, op := Go.Op.move (Go.Operand.tmp 50), type := 4, pos := "lines.go:63", after := #[{ on := 10, ground := Go.Ground.data }, { on := 9, ground := Go.Ground.chain }, { on := 6, ground := Go.Ground.guard }], guard := Option.some (6, Bool.true) }) (v := ?_) rfl rfl (by kernel_rfl) (by kernel_rfl) (by kernel_rfl) (fun _ _ _ h => h) ⟨Or.inl ⟨by rfl, ?_⟩, fun _ => rfl⟩ ?_
                  rotate_left
                  · (intro w; go_simp; try with_reducible rfl)
                  try simp only [Act.put, List.setIfInBounds_toArray, List.set_cons_zero, List.set_cons_succ]
                  refine wpAnyIn_take (i := 12) (oi := { dst := Option.some 52, op := Go.Op.load 55 (Go.Operand.tmp 4), type := 55, pos := "lines.go:63", after := #[{ on := 11, ground := Go.Ground.guard }], guard := Option.some (11, Bool.false) }) (v := undef) rfl rfl (by kernel_rfl) (by kernel_rfl) (by kernel_rfl) (fun _ _ _ h => h) ⟨Or.inr ⟨by rfl, rfl⟩, fun _ => rfl⟩ ?_
                  try simp only [Act.put, List.setIfInBounds_toArray, List.set_cons_zero, List.set_cons_succ]
                  refine wpAnyIn_take (i := 13) (oi := { dst := Option.some 53, op := Go.Op.move (Go.Operand.tmp 9), type := 145, pos := "lines.go:63", after := #[{ on := 11, ground := Go.Ground.guard }], guard := Option.some (11, Bool.false) }) (v := undef) rfl rfl (by kernel_rfl) (by kernel_rfl) (by kernel_rfl) (fun _ _ _ h => h) ⟨Or.inr ⟨by rfl, rfl⟩, fun _ => rfl⟩ ?_
                  try simp only [Act.put, List.setIfInBounds_toArray, List.set_cons_zero, List.set_cons_succ]
                  refine wpAnyIn_take (i := 14) (oi := { dst := Option.some 54, op := Go.Op.nilCheck (Go.Operand.tmp 53), type := 0, pos := "lines.go:63", after := #[{ on := 13, ground := Go.Ground.data }, { on := 11, ground := Go.Ground.guard }], guard := Option.some (11, Bool.false) }) (v := undef) rfl rfl (by kernel_rfl) (by kernel_rfl) (by kernel_rfl) (fun _ _ _ h => h) ⟨Or.inr ⟨by rfl, rfl⟩, fun _ => rfl⟩ ?_
                  try simp only [Act.put, List.setIfInBounds_toArray, List.set_cons_zero, List.set_cons_succ]
                  refine wpAnyIn_take (i := 15) (oi := { dst := Option.some 55, op := Go.Op.fieldAddr 54 (Go.Operand.tmp 54) 9, type := 0, pos := "lines.go:63", after := #[{ on := 14, ground := Go.Ground.data }, { on := 11, ground := Go.Ground.guard }], guard := Option.some (11, Bool.false) }) (v := undef) rfl rfl (by kernel_rfl) (by kernel_rfl) (by kernel_rfl) (fun _ _ _ h => h) ⟨Or.inr ⟨by rfl, rfl⟩, fun _ => rfl⟩ ?_
                  try simp only [Act.put, List.setIfInBounds_toArray, List.set_cons_zero, List.set_cons_succ]
                  refine wpAnyIn_take (i := 16) (oi := { dst := Option.some 56, op := Go.Op.load 47 (Go.Operand.tmp 55), type := 47, pos := "lines.go:63", after := #[{ on := 15, ground := Go.Ground.data }, { on := 11, ground := Go.Ground.guard }], guard := Option.some (11, Bool.false) }) (v := undef) rfl rfl (by kernel_rfl) (by kernel_rfl) (by kernel_rfl) (fun _ _ _ h => h) ⟨Or.inr ⟨by rfl, rfl⟩, fun _ => rfl⟩ ?_
                  try simp only [Act.put, List.setIfInBounds_toArray, List.set_cons_zero, List.set_cons_succ]
                  refine wpAnyIn_take (i := 17) (oi := { dst := Option.some 57, op := Go.Op.move (Go.Operand.tmp 1), type := 3, pos := "lines.go:63", after := #[{ on := 11, ground := Go.Ground.guard }], guard := Option.some (11, Bool.false) }) (v := undef) rfl rfl (by kernel_rfl) (by kernel_rfl) (by kernel_rfl) (fun _ _ _ h => h) ⟨Or.inr ⟨by rfl, rfl⟩, fun _ => rfl⟩ ?_
                  try simp only [Act.put, List.setIfInBounds_toArray, List.set_cons_zero, List.set_cons_succ]
                  refine wpAnyIn_take (i := 18) (oi := { dst := Option.some 58, op := Go.Op.binOp Go.BinOp.add 3 (Go.Operand.tmp 57) (Go.Operand.const (Go.Value.int Go.IntKind.i64 1)) 3, type := 3, pos := "lines.go:63", after := #[{ on := 17, ground := Go.Ground.data }, { on := 11, ground := Go.Ground.guard }], guard := Option.some (11, Bool.false) }) (v := undef) rfl rfl (by kernel_rfl) (by kernel_rfl) (by kernel_rfl) (fun _ _ _ h => h) ⟨Or.inr ⟨by rfl, rfl⟩, fun _ => rfl⟩ ?_
                  try simp only [Act.put, List.setIfInBounds_toArray, List.set_cons_zero, List.set_cons_succ]
                  refine wpAnyIn_take (i := 19) (oi := { dst := Option.some 59, op := Go.Op.call { callee := Go.Callee.value (Go.Operand.tmp 52), args := #[Go.Operand.tmp 56, Go.Operand.tmp 58], argTypes := #[47, 3] }, type := 4, pos := "lines.go:63", after := #[{ on := 12, ground := Go.Ground.data }, { on := 16, ground := Go.Ground.data }, { on := 18, ground := Go.Ground.data }, { on := 11, ground := Go.Ground.chain }, { on := 11, ground := Go.Ground.guard }], guard := Option.some (11, Bool.false) }) (v := undef) rfl rfl (by kernel_rfl) (by kernel_rfl) (by kernel_rfl) (fun _ _ _ h => h) ⟨Or.inr ⟨by rfl, rfl⟩, fun _ => rfl⟩ ?_
                  try simp only [Act.put, List.setIfInBounds_toArray, List.set_cons_zero, List.set_cons_succ]
                  refine wpAnyIn_take (i := 20) (oi := { dst := Option.some 60, op := Go.Op.unOp Go.UnOp.not 4 (Go.Operand.tmp 59), type := 4, pos := "lines.go:63", after := #[{ on := 19, ground := Go.Ground.data }, { on := 11, ground := Go.Ground.guard }], guard := Option.some (11, Bool.false) }) (v := undef) rfl rfl (by kernel_rfl) (by kernel_rfl) (by kernel_rfl) (fun _ _ _ h => h) ⟨Or.inr ⟨by rfl, rfl⟩, fun _ => rfl⟩ ?_
                  try simp only [Act.put, List.setIfInBounds_toArray, List.set_cons_zero, List.set_cons_succ]
                  refine wpAnyIn_take (i := 21) (oi := { dst := Option.some 61, op := Go.Op.pick (Go.Operand.tmp 51) (Go.Operand.const (Go.Value.bool Bool.true)) (Go.Operand.tmp 60), type := 4, pos := "lines.go:63", after := #[{ on := 11, ground := Go.Ground.data }, { on := 20, ground := Go.Ground.data }, { on := 6, ground := Go.Ground.guard }], guard := Option.some (6, Bool.true) }) (v := ?_) rfl rfl (by kernel_rfl) (by kernel_rfl) (by kernel_rfl) (fun _ _ _ h => h) ⟨Or.inl ⟨by rfl, ?_⟩, fun _ => rfl⟩ ?_
                  rotate_left
                  · (intro w; go_simp; try with_reducible rfl)
                  try simp only [Act.put, List.setIfInBounds_toArray, List.set_cons_zero, List.set_cons_succ]
                  refine wpAnyIn_take (i := 22) (oi := { dst := Option.some 62, op := Go.Op.pick (Go.Operand.tmp 46) (Go.Operand.tmp 61) (Go.Operand.const (Go.Value.bool Bool.false)), type := 4, pos := "lines.go:63", after := #[{ on := 6, ground := Go.Ground.data }, { on := 21, ground := Go.Ground.data }], guard := Option.none }) (v := ?_) rfl rfl (by kernel_rfl) (by kernel_rfl) (by kernel_rfl) (fun _ _ _ h => h) ⟨Or.inl ⟨by rfl, ?_⟩, fun _ => rfl⟩ ?_
                  rotate_left
                  · (intro w; go_simp; try with_reducible rfl)
                  try simp only [Act.put, List.setIfInBounds_toArray, List.set_cons_zero, List.set_cons_succ]
                  refine wpAnyIn_done (by kernel_rfl) ?_ _
                  gi_wp2_with fail
                  go_meet
                  exact ⟨false, rfl, Lib.hid (.inr ⟨rfl, _, hk2, HX2.out⟩)⟩
                | true =>
                  have HJ3 : Hid (J (e + 1 + lb + 1) w3) := Lib.hid (by rcases hj with ⟨_, h⟩ | ⟨h, _⟩; exact h; cases h)
                  have ys : w3.cell? ⟨qs, 0, none⟩ = some (.func (.func 108) #[] #[.pointer (some ⟨qy, 0, none⟩), .pointer (some ⟨qt, 0, none⟩), .pointer (some ⟨qs, 0, none⟩)]) := cell_of_one (HE.out.cl _ _ HJ3.out).ks
                  have z15 := ((HBl.out _ _ HJ3.out).cell hb).trans xl
                  have HC := Lib.hid (HEl.out _ HJ3.out)
                  clear hj
                  refine wpAnyIn_take (i := 10) (oi := { dst := Option.some 50, op := Go.Op.unOp Go.UnOp.not 4 (Go.Operand.tmp 49), type := 4, pos := "lines.go:63", after := #[{ on := 9, ground := Go.Ground.data }, { on := 6, ground := Go.Ground.guard }], guard := Option.some (6, Bool.true) }) (v := ?_) rfl rfl (by kernel_rfl) (by kernel_rfl) (by kernel_rfl) (fun _ _ _ h => h) ⟨Or.inl ⟨by rfl, ?_⟩, fun _ => rfl⟩ ?_
                  rotate_left
                  · (intro w; go_simp; try with_reducible rfl)
                  try simp only [Act.put, List.setIfInBounds_toArray, List.set_cons_zero, List.set_cons_succ]
                  refine wpAnyIn_take (i := 11) (oi := { dst := Option.some 51, op := Go.Op.move (Go.Operand.tmp 50), type := 4, pos := "lines.go:63", after := #[{ on := 10, ground := Go.Ground.data }, { on := 9, ground := Go.Ground.chain }, { on := 6, ground := Go.Ground.guard }], guard := Option.some (6, Bool.true) }) (v := ?_) rfl rfl (by kernel_rfl) (by kernel_rfl) (by kernel_rfl) (fun _ _ _ h => h) ⟨Or.inl ⟨by rfl, ?_⟩, fun _ => rfl⟩ ?_
                  rotate_left
                  · (intro w; go_simp; try with_reducible rfl)
                  try simp only [Act.put, List.setIfInBounds_toArray, List.set_cons_zero, List.set_cons_succ]
                  refine wpAnyIn_take (i := 13) (oi := { dst := Option.some 53, op := Go.Op.move (Go.Operand.tmp 9), type := 145, pos := "lines.go:63", after := #[{ on := 11, ground := Go.Ground.guard }], guard := Option.some (11, Bool.false) }) (v := ?_) rfl rfl (by kernel_rfl) (by kernel_rfl) (by kernel_rfl) (fun _ _ _ h => h) ⟨Or.inl ⟨by rfl, ?_⟩, fun _ => rfl⟩ ?_
                  rotate_left
                  · (intro w; go_simp; try with_reducible rfl)
                  try simp only [Act.put, List.setIfInBounds_toArray, List.set_cons_zero, List.set_cons_succ]
                  refine wpAnyIn_take (i := 14) (oi := { dst := Option.some 54, op := Go.Op.nilCheck (Go.Operand.tmp 53), type := 0, pos := "lines.go:63", after := #[{ on := 13, ground := Go.Ground.data }, { on := 11, ground := Go.Ground.guard }], guard := Option.some (11, Bool.false) }) (v := ?_) rfl rfl (by kernel_rfl) (by kernel_rfl) (by kernel_rfl) (fun _ _ _ h => h) ⟨Or.inl ⟨by rfl, ?_⟩, fun _ => rfl⟩ ?_
                  rotate_left
                  · (intro w; go_simp; try with_reducible rfl)
                  try simp only [Act.put, List.setIfInBounds_toArray, List.set_cons_zero, List.set_cons_succ]
                  refine wpAnyIn_take (i := 15) (oi := { dst := Option.some 55, op := Go.Op.fieldAddr 54 (Go.Operand.tmp 54) 9, type := 0, pos := "lines.go:63", after := #[{ on := 14, ground := Go.Ground.data }, { on := 11, ground := Go.Ground.guard }], guard := Option.some (11, Bool.false) }) (v := ?_) rfl rfl (by kernel_rfl) (by kernel_rfl) (by kernel_rfl) (fun _ _ _ h => h) ⟨Or.inl ⟨by rfl, ?_⟩, fun _ => rfl⟩ ?_
                  rotate_left
                  · (intro w; go_simp; try with_reducible rfl)
                  try simp only [Act.put, List.setIfInBounds_toArray, List.set_cons_zero, List.set_cons_succ]
                  refine wpAnyIn_take (i := 17) (oi := { dst := Option.some 57, op := Go.Op.move (Go.Operand.tmp 1), type := 3, pos := "lines.go:63", after := #[{ on := 11, ground := Go.Ground.guard }], guard := Option.some (11, Bool.false) }) (v := ?_) rfl rfl (by kernel_rfl) (by kernel_rfl) (by kernel_rfl) (fun _ _ _ h => h) ⟨Or.inl ⟨by rfl, ?_⟩, fun _ => rfl⟩ ?_
                  rotate_left
                  · (intro w; go_simp; try with_reducible rfl)
                  try simp only [Act.put, List.setIfInBounds_toArray, List.set_cons_zero, List.set_cons_succ]
                  refine wpAnyIn_take (i := 18) (oi := { dst := Option.some 58, op := Go.Op.binOp Go.BinOp.add 3 (Go.Operand.tmp 57) (Go.Operand.const (Go.Value.int Go.IntKind.i64 1)) 3, type := 3, pos := "lines.go:63", after := #[{ on := 17, ground := Go.Ground.data }, { on := 11, ground := Go.Ground.guard }], guard := Option.some (11, Bool.false) }) (v := ?_) rfl rfl (by kernel_rfl) (by kernel_rfl) (by kernel_rfl) (fun _ _ _ h => h) ⟨Or.inl ⟨by rfl, ?_⟩, fun _ => rfl⟩ ?_
                  rotate_left
                  · (intro w; go_simp; try with_reducible rfl)
                  try simp only [Act.put, List.setIfInBounds_toArray, List.set_cons_zero, List.set_cons_succ]
                  refine wpAnyIn_ready (rs := [12, 16]) (by kernel_rfl) (by simp) ?_
                  refine AllReadyIn.cons (o := { dst := Option.some 52, op := Go.Op.load 55 (Go.Operand.tmp 4), type := 55, pos := "lines.go:63", after := #[{ on := 11, ground := Go.Ground.guard }], guard := Option.some (11, Bool.false) }) rfl (fun K hK => ?_) (AllReadyIn.cons (o := { dst := Option.some 56, op := Go.Op.load 47 (Go.Operand.tmp 55), type := 47, pos := "lines.go:63", after := #[{ on := 15, ground := Go.Ground.data }, { on := 11, ground := Go.Ground.guard }], guard := Option.some (11, Bool.false) }) rfl (fun K hK => ?_) AllReadyIn.nil)
                  · go_simp
                    refine hK _ _ ?_
                    clear hK K
                    try simp only [Act.put, List.setIfInBounds_toArray, List.set_cons_zero, List.set_cons_succ]
                    refine wpAnyIn_ready (rs := [16]) (by kernel_rfl) (by simp) ?_
                    refine AllReadyIn.cons (o := { dst := Option.some 56, op := Go.Op.load 47 (Go.Operand.tmp 55), type := 47, pos := "lines.go:63", after := #[{ on := 15, ground := Go.Ground.data }, { on := 11, ground := Go.Ground.guard }], guard := Option.some (11, Bool.false) }) rfl (fun K hK => ?_) AllReadyIn.nil
                    go_simp
                    refine hK _ _ ?_
                    clear hK K
                    try simp only [Act.put, List.setIfInBounds_toArray, List.set_cons_zero, List.set_cons_succ]
                    refine wpAnyIn_ready (rs := [19]) (by kernel_rfl) (by simp) ?_
                    refine AllReadyIn.cons (o := { dst := Option.some 59, op := Go.Op.call { callee := Go.Callee.value (Go.Operand.tmp 52), args := #[Go.Operand.tmp 56, Go.Operand.tmp 58], argTypes := #[47, 3] }, type := 4, pos := "lines.go:63", after := #[{ on := 12, ground := Go.Ground.data }, { on := 16, ground := Go.Ground.data }, { on := 18, ground := Go.Ground.data }, { on := 11, ground := Go.Ground.chain }, { on := 11, ground := Go.Ground.guard }], guard := Option.some (11, Bool.false) }) rfl (fun K hK => ?_) AllReadyIn.nil
                    go_simp
                    refine ⟨trivial, ?_⟩
                    refine (callsIn_wide.2 HC.out).mono ?_
                    rintro z w4 ⟨v4, rfl, hs4⟩
                    refine hK _ _ ?_
                    clear hK K
                    try simp only [Act.put, List.setIfInBounds_toArray, List.set_cons_zero, List.set_cons_succ]
                    refine wpAnyIn_take (i := 20) (oi := { dst := Option.some 60, op := Go.Op.unOp Go.UnOp.not 4 (Go.Operand.tmp 59), type := 4, pos := "lines.go:63", after := #[{ on := 19, ground := Go.Ground.data }, { on := 11, ground := Go.Ground.guard }], guard := Option.some (11, Bool.false) }) (v := ?_) rfl rfl (by kernel_rfl) (by kernel_rfl) (by kernel_rfl) (fun _ _ _ h => h) ⟨Or.inl ⟨by rfl, ?_⟩, fun _ => rfl⟩ ?_
                    rotate_left
                    · (intro w; go_simp; try with_reducible rfl)
                    try simp only [Act.put, List.setIfInBounds_toArray, List.set_cons_zero, List.set_cons_succ]
                    refine wpAnyIn_take (i := 21) (oi := { dst := Option.some 61, op := Go.Op.pick (Go.Operand.tmp 51) (Go.Operand.const (Go.Value.bool Bool.true)) (Go.Operand.tmp 60), type := 4, pos := "lines.go:63", after := #[{ on := 11, ground := Go.Ground.data }, { on := 20, ground := Go.Ground.data }, { on := 6, ground := Go.Ground.guard }], guard := Option.some (6, Bool.true) }) (v := ?_) rfl rfl (by kernel_rfl) (by kernel_rfl) (by kernel_rfl) (fun _ _ _ h => h) ⟨Or.inl ⟨by rfl, ?_⟩, fun _ => rfl⟩ ?_
                    rotate_left
                    · (intro w; go_simp; try with_reducible rfl)
                    try simp only [Act.put, List.setIfInBounds_toArray, List.set_cons_zero, List.set_cons_succ]
                    refine wpAnyIn_take (i := 22) (oi := { dst := Option.some 62, op := Go.Op.pick (Go.Operand.tmp 46) (Go.Operand.tmp 61) (Go.Operand.const (Go.Value.bool Bool.false)), type := 4, pos := "lines.go:63", after := #[{ on := 6, ground := Go.Ground.data }, { on := 21, ground := Go.Ground.data }], guard := Option.none }) (v := ?_) rfl rfl (by kernel_rfl) (by kernel_rfl) (by kernel_rfl) (fun _ _ _ h => h) ⟨Or.inl ⟨by rfl, ?_⟩, fun _ => rfl⟩ ?_
                    rotate_left
                    · (intro w; go_simp; try with_reducible rfl)
                    try simp only [Act.put, List.setIfInBounds_toArray, List.set_cons_zero, List.set_cons_succ]
                    refine wpAnyIn_done (by kernel_rfl) ?_ _
                    gi_wp2_with fail
                    go_meet
                    exact ⟨v4, rfl, Lib.hid (hs4)⟩
                  · go_simp
                    refine hK _ _ ?_
                    clear hK K
                    try simp only [Act.put, List.setIfInBounds_toArray, List.set_cons_zero, List.set_cons_succ]
                    refine wpAnyIn_ready (rs := [12]) (by kernel_rfl) (by simp) ?_
                    refine AllReadyIn.cons (o := { dst := Option.some 52, op := Go.Op.load 55 (Go.Operand.tmp 4), type := 55, pos := "lines.go:63", after := #[{ on := 11, ground := Go.Ground.guard }], guard := Option.some (11, Bool.false) }) rfl (fun K hK => ?_) AllReadyIn.nil
                    go_simp
                    refine hK _ _ ?_
                    clear hK K
                    try simp only [Act.put, List.setIfInBounds_toArray, List.set_cons_zero, List.set_cons_succ]
                    refine wpAnyIn_ready (rs := [19]) (by kernel_rfl) (by simp) ?_
                    refine AllReadyIn.cons (o := { dst := Option.some 59, op := Go.Op.call { callee := Go.Callee.value (Go.Operand.tmp 52), args := #[Go.Operand.tmp 56, Go.Operand.tmp 58], argTypes := #[47, 3] }, type := 4, pos := "lines.go:63", after := #[{ on := 12, ground := Go.Ground.data }, { on := 16, ground := Go.Ground.data }, { on := 18, ground := Go.Ground.data }, { on := 11, ground := Go.Ground.chain }, { on := 11, ground := Go.Ground.guard }], guard := Option.some (11, Bool.false) }) rfl (fun K hK => ?_) AllReadyIn.nil
                    go_simp
                    refine ⟨trivial, ?_⟩
                    refine (callsIn_wide.2 HC.out).mono ?_
                    rintro z w4 ⟨v4, rfl, hs4⟩
                    refine hK _ _ ?_
                    clear hK K
                    try simp only [Act.put, List.setIfInBounds_toArray, List.set_cons_zero, List.set_cons_succ]
                    refine wpAnyIn_take (i := 20) (oi := { dst := Option.some 60, op := Go.Op.unOp Go.UnOp.not 4 (Go.Operand.tmp 59), type := 4, pos := "lines.go:63", after := #[{ on := 19, ground := Go.Ground.data }, { on := 11, ground := Go.Ground.guard }], guard := Option.some (11, Bool.false) }) (v := ?_) rfl rfl (by kernel_rfl) (by kernel_rfl) (by kernel_rfl) (fun _ _ _ h => h) ⟨Or.inl ⟨by rfl, ?_⟩, fun _ => rfl⟩ ?_
                    rotate_left
                    · (intro w; go_simp; try with_reducible rfl)
                    try simp only [Act.put, List.setIfInBounds_toArray, List.set_cons_zero, List.set_cons_succ]
                    refine wpAnyIn_take (i := 21) (oi := { dst := Option.some 61, op := Go.Op.pick (Go.Operand.tmp 51) (Go.Operand.const (Go.Value.bool Bool.true)) (Go.Operand.tmp 60), type := 4, pos := "lines.go:63", after := #[{ on := 11, ground := Go.Ground.data }, { on := 20, ground := Go.Ground.data }, { on := 6, ground := Go.Ground.guard }], guard := Option.some (6, Bool.true) }) (v := ?_) rfl rfl (by kernel_rfl) (by kernel_rfl) (by kernel_rfl) (fun _ _ _ h => h) ⟨Or.inl ⟨by rfl, ?_⟩, fun _ => rfl⟩ ?_
                    rotate_left
                    · (intro w; go_simp; try with_reducible rfl)
                    try simp only [Act.put, List.setIfInBounds_toArray, List.set_cons_zero, List.set_cons_succ]
                    refine wpAnyIn_take (i := 22) (oi := { dst := Option.some 62, op := Go.Op.pick (Go.Operand.tmp 46) (Go.Operand.tmp 61) (Go.Operand.const (Go.Value.bool Bool.false)), type := 4, pos := "lines.go:63", after := #[{ on := 6, ground := Go.Ground.data }, { on := 21, ground := Go.Ground.data }], guard := Option.none }) (v := ?_) rfl rfl (by kernel_rfl) (by kernel_rfl) (by kernel_rfl) (fun _ _ _ h => h) ⟨Or.inl ⟨by rfl, ?_⟩, fun _ => rfl⟩ ?_
                    rotate_left
                    · (intro w; go_simp; try with_reducible rfl)
                    try simp only [Act.put, List.setIfInBounds_toArray, List.set_cons_zero, List.set_cons_succ]
                    refine wpAnyIn_done (by kernel_rfl) ?_ _
                    gi_wp2_with fail
                    go_meet
                    exact ⟨v4, rfl, Lib.hid (hs4)⟩
            case rest =>
              obtain ⟨q, rfl, hj⟩ := hcut
              clear z15 HJd2 HJ2 hB2
              rcases hj.out with ⟨rfl, hj1⟩ | ⟨rfl, hj1⟩
              rotate_left
              · have HX1 := Lib.hid hj1
                clear hj1 hj
                go_wp2_with fail
                go_ret
                exact ⟨false, rfl, .inr ⟨rfl, HX1.out⟩⟩
              have HJ3 := Lib.hid hj1
              clear hj1 hj
              have HS2 := Lib.hid (show Seg L (e3 + 1) (r.flatMap (fun x => x.lines t)) ∧ e3 + 1 + (r.flatMap (fun x => x.lines t)).length = tot ∧ ∀ y ∈ r.flatMap (fun x => x.lines t), y.2.length ≤ 1000000 from ⟨hsgR, hto, hll2⟩)
              have y1 : wc.cell? ⟨qy, 0, none⟩ = some (.func (.yield l) #[] #[]) := cell_of_one (HE.out.cl _ _ HJ3.out).ky
              have hyl := Lib.hid (HE.out.yl _ _ wc hlast HJ3.out)
              clear hsg2 hsgR hto hll2 hlast hie hE hle
              go_upto_region 12 with fail
              refine (wpIn_wide (n := M + 1)).1 ?_
              obtain ⟨fn, tmps, assign, body, hy, hR⟩ := hyl.out
              simp only [encL] at hy
              rw [show str [125] = ⟨#[125]⟩ from rfl] at hy
              gi_wp2_with fail
              refine hR.mono ?_
              rintro z w3 ⟨v, rfl, hj⟩
              clear hy hR y1
              rcases hj with ⟨rfl, hj1⟩ | ⟨rfl, hj1⟩
              · have HJ4 := Lib.hid hj1
                clear hj1
                gi_wp2_with fail
                go_wp2_with fail
                go_roundw
                case rel => exact ⟨k + 1, e3 + 1, r, by go_num, by omega, Lib.hid fun x hx => hmem.out x (List.mem_cons_of_mem _ hx), Lib.hid fun b' o' e' _ => by cases e'; rw [show o + (k + 1) * 16 = o + k * 16 + 16 by omega]; exact HR.out, HS2, HJ4⟩
                case measure => simp [intOf]; omega
              · have HX4 := Lib.hid hj1
                clear hj1
                gi_wp2_with fail
                go_wp2_with fail
                go_ret
                exact ⟨false, rfl, .inr ⟨rfl, e3 + 1, he3L, HX4.out⟩⟩
end Go.Proofs.YtlhbledakddbbaaGreatDoor
/- The lines of any statements, as an iterator hands them on. -/
namespace Go.Proofs.YtlhbledakddbbaaGreatDoor
open Go.RowKit
attribute [local go_sem] Oper.semAt_some

theorem stmtLines_any (p : Option Addr) (n c : Nat) (w : World) : Calls Tryz.prog 72 #[.slice p n c] w fun e w' => ∃ bx, e = .returned (.func (.func 107) #[] #[.pointer (some ⟨bx, 0, none⟩)]) ∧ w'.heap[bx]? = some (.cells #[.slice p n c] 47 (0, 0)) ∧ w.heap.size ≤ bx ∧ Below w.heap.size w w' := by
  go_enter Tryz.func72, Tryz.ntmps72
  go_wp2_with fail
  go_ret
  exact ⟨_, rfl, heap_alloc_new w _, Nat.le_refl _, (Below.refl _ w).alloc (Nat.le_refl _) _⟩
theorem shn_all {l M N qy qt qs m : Nat} {w0 : World} {L : List (Nat × List UInt8)} {J Jx : Nat → World → Prop} (E : ShEnv l M N qy qt qs m w0 L J Jx) : ∀ n, ShN qy qt qs w0 L J Jx n
  | 0 => fun _ h => by omega
  | n + 1 => shn_step E n (shn_all E n)
theorem buf_teller (c : Array Value) (fr : Nat × Nat) : ¬ isBuf (.cells c 68 fr) := by intro h; rcases h with h | h <;> exact absurd h (by decide)
theorem buf_show (c : Array Value) (fr : Nat × Nat) : ¬ isBuf (.cells c 55 fr) := by intro h; rcases h with h | h <;> exact absurd h (by decide)
theorem newTeller_new (w : World) : Calls Tryz.prog 36 #[] w fun e w' => ∃ m, e = .returned (.agg #[.map (some m)]) ∧ w'.heap[m]? = some (fmap signT) ∧ w.heap.size ≤ m ∧ Below w.heap.size w w' := by
  have HC := Lib.hid (signs_any (w.alloc (.cells #[.map none] 68)))
  go_enter Tryz.func36, Tryz.ntmps36
  go_wp2_with fail
  refine HC.out.mono ?_
  rintro e w2 ⟨m, rfl, hmp, hmb, hB2⟩
  have hg : w2.heap[w.heap.size]? = some (.cells #[.map none] 68 (0, 0)) := (hB2.block _ (by simp)).trans (heap_alloc_new w _)
  have c0 := cell_of_one hg
  have z0 := free_of_one hg
  have HM := Lib.hid (And.intro hmp hmb)
  have HB := Lib.hid (((Below.refl _ w).alloc (Nat.le_refl _) (.cells #[.map none] 68)).trans (hB2.mono (by simp)))
  clear hmp hmb hB2 hg
  go_wp2_with fail
  have hc := World.cell?_setCell_same w2 ⟨w.heap.size, 0, none⟩ (.map (some m)) c0
  refine bodyPost_ret (v := .agg #[.map (some m)]) (by simp [results, Tryz.results36, go_sem, hc]) rfl ⟨m, rfl, ?_, ?_, HB.out.setCell (Nat.le_refl _) _⟩
  · rw [Below.heap_setCell _ _ _ _ (by have := HM.out.2; simp at this; show m ≠ w.heap.size; omega)]
    exact HM.out.1
  · have := HM.out.2; simp at this; omega

set_option maxRecDepth 100000 in
set_option maxHeartbeats 3200000 in
theorem stmtLines1_all (ls : Sts) (p : Option Addr) (c bx n : Nat) (w0 wx : World) (hmay : ls.may = true) (hd : ls.deep ≤ 900) (hlen : ∀ y ∈ ls.lines 0, y.2.length ≤ 1000000) (hin : ls.In w0 w0.heap.size p) (hG0 : Glob w0)
    (hx : wx.heap[bx]? = some (.cells #[.slice p ls.len c] 47 (0, 0))) :
    SeqOwn (fun A => Below w0.heap.size w0 A) Fence.wide n Tryz.prog 107 #[.pointer (some ⟨bx, 0, none⟩)] encL (ls.lines 0) wx := by
  intro l J Jx W hW hJ hJx hG hY h0
  refine callsIn_wide.2 ?_
  have hbz := Nat.lt_of_lt_of_le (lt_of_block hx) hW.size
  have HX := Lib.hid ((hW.block _ (lt_of_block hx)).trans hx)
  have HT := Lib.hid (newTeller_new (W.alloc (.cells #[.func (.yield l) #[] #[]] 117)))
  have HJ := Lib.hid hJ
  have HY := Lib.hid (fun k x W1 hx hj => jj_of (hY k x W1 hx hj))
  have HG := Lib.hid hG
  have HJ0 := Lib.hid h0
  clear hJ hJx hG hY h0 hx hW
  show Calls Tryz.prog 107 #[.func (.yield l) #[] #[], .pointer (some ⟨bx, 0, none⟩)] W _
  go_enter Tryz.func107, Tryz.ntmps107
  go_wp2_with fail
  refine HT.out.mono ?_
  rintro e w2 ⟨m, rfl, hmp, hmW, hB2⟩
  have hzW : (W.alloc (.cells #[.func (.yield l) #[] #[]] 117)).heap.size = W.heap.size + 1 := by simp
  have HB2 := Lib.hid (((Below.refl _ W).alloc (Nat.le_refl _) _).trans (hB2.mono (by simp)))
  have hky : w2.heap[W.heap.size]? = some (.cells #[.func (.yield l) #[] #[]] 117 (0, 0)) := (hB2.block _ (by simp)).trans (heap_alloc_new W _)
  have cx := cell_of_one ((HB2.out.block bx hbz).trans HX.out)
  have hbz2 : bx < w2.heap.size := Nat.lt_of_lt_of_le hbz HB2.out.size
  have HK := Lib.hid (And.intro hky (And.intro hmp hmW))
  clear hB2 hky hmp hmW
  have cv : ((w2.alloc (.cells #[.map (some m)] 68)).alloc (.cells #[.nilFunc] 55)).cell? ⟨w2.heap.size + 1, 0, none⟩ = some .nilFunc := World.cell?_alloc2_new _ _ _ _
  have fv : ((w2.alloc (.cells #[.map (some m)] 68)).alloc (.cells #[.nilFunc] 55)).frozen? ⟨w2.heap.size + 1, 0, none⟩ = false := World.frozen?_alloc2_new _ _ _ _
  go_wp2_with fail
  obtain ⟨w3, hw3⟩ : ∃ w3, (w2.alloc (.cells #[.map (some m)] 68)).alloc (.cells #[.func (.func 108) #[] #[.pointer (some ⟨W.heap.size, 0, none⟩), .pointer (some ⟨w2.heap.size, 0, none⟩), .pointer (some ⟨w2.heap.size + 1, 0, none⟩)]] 55) = w3 := ⟨_, rfl⟩
  have kt : w3.heap[w2.heap.size]? = some (.cells #[.map (some m)] 68 (0, 0)) := by rw [← hw3, Below.heap_alloc _ _ _ (by simp)]; exact heap_alloc_new w2 _
  have ks : w3.heap[w2.heap.size + 1]? = some (.cells #[.func (.func 108) #[] #[.pointer (some ⟨W.heap.size, 0, none⟩), .pointer (some ⟨w2.heap.size, 0, none⟩), .pointer (some ⟨w2.heap.size + 1, 0, none⟩)]] 55 (0, 0)) := by
    rw [← hw3]; have := heap_alloc_new (w2.alloc (.cells #[.map (some m)] 68)) (.cells #[.func (.func 108) #[] #[.pointer (some ⟨W.heap.size, 0, none⟩), .pointer (some ⟨w2.heap.size, 0, none⟩), .pointer (some ⟨w2.heap.size + 1, 0, none⟩)]] 55); simpa using this
  have hB3 : Below w2.heap.size w2 w3 := by rw [← hw3]; exact ((Below.refl _ w2).alloc (Nat.le_refl _) _).alloc (by simp) _
  have hz3 : w3.heap.size = w2.heap.size + 2 := by rw [← hw3]; simp
  have hmz : m < w2.heap.size := lt_of_block HK.out.2.1
  have hmW : W.heap.size ≤ m := by have := HK.out.2.2; omega
  have hzz : W.heap.size < w2.heap.size := lt_of_block HK.out.1
  have ky := (hB3.block _ hzz).trans HK.out.1
  have km := (hB3.block _ hmz).trans HK.out.2.1
  rw [hw3]
  clear hw3
  have E : ShEnv l (n - 1) (w2.heap.size + 2) W.heap.size w2.heap.size (w2.heap.size + 1) m w0 (ls.lines 0) (fun k A => J k A ∧ ShC l W.heap.size w2.heap.size (w2.heap.size + 1) m A ∧ w2.heap.size + 2 ≤ A.heap.size) Jx :=
    { gl := hG0
      mv := fun k A B h hAB => ⟨HJ.out k A B h.1 (hAB.mono (by omega)), ⟨(hAB.bel.block _ (by omega)).trans h.2.1.ky, (hAB.bel.block _ (by omega)).trans h.2.1.kt, (hAB.bel.block _ (by omega)).trans h.2.1.ks, (hAB.bel.block _ (by omega)).trans h.2.1.km⟩, Nat.le_trans h.2.2 hAB.bel.size⟩
      bel := fun k A h => HG.out k A h.1
      hn := fun k A h => h.2.2
      cl := fun k A h => h.2.1
      yl := fun k x W1 hx hj => by
        obtain ⟨fn, tmps, assign, body, hy, hR⟩ := HY.out k x W1 hx hj.1
        refine ⟨fn, tmps, assign, body, hy, hR.mono ?_⟩
        rintro e w ⟨v, rfl, hjj, hU⟩
        refine ⟨v, rfl, ?_⟩
        rcases hjj with ⟨rfl, h⟩ | ⟨rfl, h⟩
        · exact .inl ⟨rfl, h, ⟨hU.same _ _ hj.2.1.ky (by omega) (buf_fn _ _), hU.same _ _ hj.2.1.kt (by omega) (buf_teller _ _), hU.same _ _ hj.2.1.ks (by omega) (buf_show _ _), hU.same _ _ hj.2.1.km hmW (fun h => h)⟩, Nat.le_trans hj.2.2 hU.size⟩
        · exact .inr ⟨rfl, h⟩ }
  have HC := shn_all E (ls.size + 1) ls (Nat.lt_succ_self _) 0 0 p c w3 hmay (by omega) hlen hin (Seg.all _) ⟨HJ.out 0 W w3 HJ0.out (Rn.of_below (HB2.out.trans (hB3.mono HB2.out.size)) (Nat.le_refl _)), ⟨ky, kt, ks, km⟩, by omega⟩
  rw [Nat.zero_add, show ((0 : Nat) : Int) = 0 from rfl] at HC
  refine HC.mono ?_
  rintro e w4 ⟨v, rfl, hs⟩
  have HS := Lib.hid hs
  clear E HC hs kt ks ky km hB3 hz3
  go_wp2_with fail
  go_end0
  refine ⟨⟨_, rfl⟩, ?_⟩
  rcases HS.out with ⟨_, h⟩ | ⟨_, h⟩
  · exact .inl h.1
  · exact .inr h
end Go.Proofs.YtlhbledakddbbaaGreatDoor
