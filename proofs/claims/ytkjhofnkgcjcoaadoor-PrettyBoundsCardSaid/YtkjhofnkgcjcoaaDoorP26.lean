/- A statement's first line: the program's firstLine. -/
import Derived.Test.YtkjhofnkgcjcoaaDoorP25
import Derived.Test.YtkjhofnkgcjcoaaDoorP18
import Derived.Test.YtkjhofnkgcjcoaaDoorP17
import Derived.Laws.Concat
namespace Go.Proofs.YtkjhofnkgcjcoaaDoor
open Go.RowKit

/-- the cells of a statement that lies there, its expressions as they lie -/
theorem St.At.parts {w : World} {N : Nat} {kd : Int} {nm : List UInt8} {ns : List (List UInt8)} {e a : Ex} {g : Exs} {lo hi : Nat} {bd el : Sts} {b o : Nat} (h : (St.mk kd nm ns e a g lo hi bd el).At w N b o) :
    w.cell? ⟨b, o, none⟩ = some (.int .i64 kd) ∧ w.cell? ⟨b, o + 1, none⟩ = some (.string (str nm)) ∧ e.At w N b (o + 3) ∧ a.At w N b (o + 7) ∧ (∃ p c, w.cell? ⟨b, o + 2, none⟩ = some (.slice p ns.length c) ∧ (ns.length ≤ c ∧ RowIn N (StrAt w) 1 ns p)) ∧
    (∃ p c, w.cell? ⟨b, o + 11, none⟩ = some (.slice p g.len c) ∧ g.In w N p) ∧ w.cell? ⟨b, o + 12, none⟩ = some (.int .u64 (lo : Int)) ∧ w.cell? ⟨b, o + 13, none⟩ = some (.int .u64 (hi : Int)) ∧ lo < 18446744073709551616 ∧ hi < 18446744073709551616 ∧
    (∃ p c, w.cell? ⟨b, o + 14, none⟩ = some (.slice p bd.len c) ∧ bd.In w N p) ∧ (∃ p c, w.cell? ⟨b, o + 15, none⟩ = some (.slice p el.len c) ∧ el.In w N p) := by
  obtain ⟨⟨h0, h1, h2, h3, h4, h5⟩, s1, he, ha, s2, s3, s4⟩ := h
  exact ⟨h0, h1, he, ha, s1, s2, h2, h3, h4, h5, s3, s4⟩
theorem Glob.tab {w : World} (h : Glob w) (B : Nat) (hB : w.heap.size ≤ B) : Lib.TabBelow Tryd.prog B w "internal/strconv.uint64pow10" .u64 Lib.pow10Tab := fun w2 h2 => h w2 (h2.mono hB)

set_option maxRecDepth 100000 in
set_option maxHeartbeats 6400000 in
theorem first_1 (nm : List UInt8) (ns : List (List UInt8)) (e a : Ex) (g : Exs) (lo hi : Nat) (bd el : Sts) (he : e.may = true) (b o m : Nat) (w : World) (hb : b < w.heap.size) (hx : (St.mk 1 nm ns e a g lo hi bd el).At w w.heap.size b o) (hmp : w.heap[m]? = some (fmap signT)) (hG : Glob w) (hl : (St.mk 1 nm ns e a g lo hi bd el).first.length ≤ 1000000) :
    Calls Tryd.prog 75 #[.agg #[.map (some m)], .pointer (some ⟨b, o, none⟩)] w fun z w' => z = .returned (.string (str (St.mk 1 nm ns e a g lo hi bd el).first)) ∧ Below w.heap.size w w' := by
  have ht : (St.mk 1 nm ns e a g lo hi bd el).first = ((nm ++ [32, 61, 32]) ++ e.text) ++ [59] := by rw [← first_eq, firstT, if_pos rfl]
  have hlen : nm.length + e.text.length ≤ 1000000 := by rw [ht] at hl; simp only [List.length_append, List.length_cons, List.length_nil] at hl; omega
  obtain ⟨W1, hW1⟩ : ∃ W1, w.alloc (.cells #[.map (some m)] 58) = W1 := ⟨_, rfl⟩
  have hB1 : Below w.heap.size w W1 := by rw [← hW1]; exact (Below.refl _ _).alloc (Nat.le_refl _) _
  have hz1 : W1.heap.size = w.heap.size + 1 := by rw [← hW1]; simp
  have xt : W1.cell? ⟨w.heap.size, 0, none⟩ = some (.map (some m)) := cell_block (show W1.heap[w.heap.size]? = some (.cells #[.map (some m)] 58 (0, 0)) by rw [← hW1]; exact heap_alloc_new w _) rfl
  obtain ⟨y0, y1, ye, ya, ⟨pn, cn, y2, hcn, sn⟩, ⟨pg, cg, y11, sg⟩, y12, y13, hlo, hhi, _, _⟩ := hx.parts
  have x0 := (hB1.cell hb).trans y0
  have x1 := (hB1.cell hb).trans y1
  have x2 := (hB1.cell hb).trans y2
  have x11 := (hB1.cell hb).trans y11
  have x12 := (hB1.cell hb).trans y12
  have x13 := (hB1.cell hb).trans y13
  have hmp1 := (hB1.block m (lt_of_block hmp)).trans hmp
  have hb1 : b < W1.heap.size := by omega
  have ht1 : w.heap.size < W1.heap.size := by omega
  have hG1 := hG.later hB1
  have HB1 := Lib.hid hB1
  have HTe := Lib.hid (fun (w1 : World) (hB : Below W1.heap.size W1 w1) => exprText_any e he b (o + 3) m w1 (Nat.lt_of_lt_of_le hb1 hB.size) (Ex.At.later ((hB1.trans (hB.mono hB1.size))) (Nat.le_trans hB1.size hB.size) e b (o + 3) hb ye) ((hB.block m (lt_of_block hmp1)).trans hmp1) (hG1.later hB) (by omega))
  obtain ⟨NM, hNM⟩ : ∃ A, A = str (nm) := ⟨_, rfl⟩
  obtain ⟨A0, hA0⟩ : ∃ A, A = str (e.text) := ⟨_, rfl⟩
  rw [← hNM] at x1
  rw [← hA0] at HTe
  obtain ⟨B4, hB4⟩ : ∃ B, B = str (nm ++ [32, 61, 32]) := ⟨_, rfl⟩
  obtain ⟨B10, hB10⟩ : ∃ B, B = str ((nm ++ [32, 61, 32]) ++ e.text) := ⟨_, rfl⟩
  obtain ⟨B11, hB11⟩ : ∃ B, B = str (((nm ++ [32, 61, 32]) ++ e.text) ++ [59]) := ⟨_, rfl⟩
  have qB4 : ∀ w : World, (Op.stringOp .add NM ⟨#[32, 61, 32]⟩).run Tryd.prog w = .ok (.string B4) w := fun w => by
    (try rw [hB4]); (try rw [hNM]); exact add_str (nm) ([32, 61, 32]) (by simp only [List.length_cons, List.length_nil] at hlen ⊢; omega) w
  have qB10 : ∀ w : World, (Op.stringOp .add B4 A0).run Tryd.prog w = .ok (.string B10) w := fun w => by
    (try rw [hB10]); (try rw [hB4]); (try rw [hA0]); exact add_str ((nm ++ [32, 61, 32])) (e.text) (by simp only [List.length_append, List.length_cons, List.length_nil] at hlen ⊢; omega) w
  have qB11 : ∀ w : World, (Op.stringOp .add B10 ⟨#[59]⟩).run Tryd.prog w = .ok (.string B11) w := fun w => by
    (try rw [hB11]); (try rw [hB10]); exact add_str (((nm ++ [32, 61, 32]) ++ e.text)) ([59]) (by simp only [List.length_append, List.length_cons, List.length_nil] at hlen ⊢; omega) w
  have HF := Lib.hid (show str (St.mk 1 nm ns e a g lo hi bd el).first = B11 by rw [ht, hB11])
  clear hNM hA0 hB4 hB10 hB11 hl ht hx y0 y1 y2 y11 y12 y13 ye ya sn sg hG hG1 hmp hmp1 hB1 hlo hhi x2 x11 x12 x13
  go_enter Tryd.func75, Tryd.ntmps75
  go_wp2_with fail
  clear hW1 x0
  have HS : Below W1.heap.size W1 W1.drew := (Below.refl _ _).drew
  refine wp_region_held_drew (S := fun W => Below W1.heap.size W1 W ∧ W.cell? ⟨w.heap.size, 0, none⟩ = some (.map (some m)) ∧ W.cell? ⟨b, o + 1, none⟩ = some (.string NM)) (by kernel_rfl) ?_ (fun hHeld => ?_)
  · exact ⟨HS, (HS.cell ht1).trans xt, (HS.cell hb1).trans x1⟩
  refine wpAnyH_take (i := 0) (oi := { dst := Option.some 12, op := Go.Op.move (Go.Operand.tmp 1), type := 110, pos := "lines.go:84", after := #[], guard := Option.none }) (v := ?_) rfl (by kernel_rfl) (by kernel_rfl) (by kernel_rfl) (fun _ _ _ h => h) (Or.inl ⟨by rfl, ?_⟩) (by assumption) ?_
  rotate_left
  · (intro w hSw; (try dsimp only at hSw); go_simp; try with_reducible rfl)
  try simp only [Act.put, List.setIfInBounds_toArray, List.set_cons_zero, List.set_cons_succ]
  refine wpAnyH_take (i := 1) (oi := { dst := Option.some 13, op := Go.Op.nilCheck (Go.Operand.tmp 12), type := 0, pos := "lines.go:84", after := #[{ on := 0, ground := Go.Ground.data }], guard := Option.none }) (v := ?_) rfl (by kernel_rfl) (by kernel_rfl) (by kernel_rfl) (fun _ _ _ h => h) (Or.inl ⟨by rfl, ?_⟩) (by assumption) ?_
  rotate_left
  · (intro w hSw; (try dsimp only at hSw); go_simp; try with_reducible rfl)
  try simp only [Act.put, List.setIfInBounds_toArray, List.set_cons_zero, List.set_cons_succ]
  refine wpAnyH_take (i := 2) (oi := { dst := Option.some 14, op := Go.Op.fieldAddr 35 (Go.Operand.tmp 13) 1, type := 0, pos := "lines.go:84", after := #[{ on := 1, ground := Go.Ground.data }], guard := Option.none }) (v := ?_) rfl (by kernel_rfl) (by kernel_rfl) (by kernel_rfl) (fun _ _ _ h => h) (Or.inl ⟨by rfl, ?_⟩) (by assumption) ?_
  rotate_left
  · (intro w hSw; (try dsimp only at hSw); go_simp; try with_reducible rfl)
  try simp only [Act.put, List.setIfInBounds_toArray, List.set_cons_zero, List.set_cons_succ]
  refine wpAnyH_take (i := 3) (oi := { dst := Option.some 15, op := Go.Op.load 9 (Go.Operand.tmp 14), type := 9, pos := "lines.go:84", after := #[{ on := 2, ground := Go.Ground.data }], guard := Option.none }) (v := ?_) rfl (by kernel_rfl) (by kernel_rfl) (by kernel_rfl) (fun _ _ _ h => h) (Or.inl ⟨by rfl, ?_⟩) (by assumption) ?_
  rotate_left
  · (intro w hSw; (try dsimp only at hSw); go_simp; try with_reducible rfl)
  try simp only [Act.put, List.setIfInBounds_toArray, List.set_cons_zero, List.set_cons_succ]
  refine wpAnyH_take (i := 4) (oi := { dst := Option.some 16, op := Go.Op.binOp Go.BinOp.add 9 (Go.Operand.tmp 15) (Go.Operand.const (Go.Value.string { data := #[32, 61, 32] })) 9, type := 9, pos := "lines.go:84", after := #[{ on := 3, ground := Go.Ground.data }], guard := Option.none }) (v := .string B4) rfl (by kernel_rfl) (by kernel_rfl) (by kernel_rfl) (fun _ _ _ h => h) (Or.inl ⟨by rfl, ?_⟩) (by assumption) ?_
  · (intro w hSw; (try dsimp only at hSw); go_simp)
  try simp only [Act.put, List.setIfInBounds_toArray, List.set_cons_zero, List.set_cons_succ]
  refine wpAnyH_take (i := 5) (oi := { dst := Option.some 17, op := Go.Op.load 58 (Go.Operand.tmp 2), type := 58, pos := "lines.go:84", after := #[], guard := Option.none }) (v := ?_) rfl (by kernel_rfl) (by kernel_rfl) (by kernel_rfl) (fun _ _ _ h => h) (Or.inl ⟨by rfl, ?_⟩) (by assumption) ?_
  rotate_left
  · (intro w hSw; (try dsimp only at hSw); go_simp; try with_reducible rfl)
  try simp only [Act.put, List.setIfInBounds_toArray, List.set_cons_zero, List.set_cons_succ]
  refine wpAnyH_take (i := 6) (oi := { dst := Option.some 18, op := Go.Op.move (Go.Operand.tmp 1), type := 110, pos := "lines.go:84", after := #[], guard := Option.none }) (v := ?_) rfl (by kernel_rfl) (by kernel_rfl) (by kernel_rfl) (fun _ _ _ h => h) (Or.inl ⟨by rfl, ?_⟩) (by assumption) ?_
  rotate_left
  · (intro w hSw; (try dsimp only at hSw); go_simp; try with_reducible rfl)
  try simp only [Act.put, List.setIfInBounds_toArray, List.set_cons_zero, List.set_cons_succ]
  refine wpAnyH_take (i := 7) (oi := { dst := Option.some 19, op := Go.Op.nilCheck (Go.Operand.tmp 18), type := 0, pos := "lines.go:84", after := #[{ on := 6, ground := Go.Ground.data }], guard := Option.none }) (v := ?_) rfl (by kernel_rfl) (by kernel_rfl) (by kernel_rfl) (fun _ _ _ h => h) (Or.inl ⟨by rfl, ?_⟩) (by assumption) ?_
  rotate_left
  · (intro w hSw; (try dsimp only at hSw); go_simp; try with_reducible rfl)
  try simp only [Act.put, List.setIfInBounds_toArray, List.set_cons_zero, List.set_cons_succ]
  refine wpAnyH_take (i := 8) (oi := { dst := Option.some 20, op := Go.Op.fieldAddr 35 (Go.Operand.tmp 19) 3, type := 0, pos := "lines.go:84", after := #[{ on := 7, ground := Go.Ground.data }], guard := Option.none }) (v := ?_) rfl (by kernel_rfl) (by kernel_rfl) (by kernel_rfl) (fun _ _ _ h => h) (Or.inl ⟨by rfl, ?_⟩) (by assumption) ?_
  rotate_left
  · (intro w hSw; (try dsimp only at hSw); go_simp; try with_reducible rfl)
  try simp only [Act.put, List.setIfInBounds_toArray, List.set_cons_zero, List.set_cons_succ]
  refine wpAnyH_ready (rs := [9]) (by kernel_rfl) (by simp) ?_
  refine AllReadyH.cons (o := { dst := Option.some 21, op := Go.Op.call { callee := Go.Callee.value (Go.Operand.func 17), args := #[Go.Operand.tmp 17, Go.Operand.tmp 20], argTypes := #[58, 61] }, type := 9, pos := "lines.go:84", after := #[{ on := 5, ground := Go.Ground.data }, { on := 8, ground := Go.Ground.data }], guard := Option.none }) rfl (fun K hK => ?_) AllReadyH.nil
  go_simp
  refine (HTe.out _ HS).mono ?_
  rintro z wa ⟨rfl, hB'⟩
  replace HS := HS.trans (hB'.mono HS.size)
  clear hB'
  refine hK.out _ _ ?_ (fun hHeld => ?_)
  · exact ⟨HS, (HS.cell ht1).trans xt, (HS.cell hb1).trans x1⟩
  clear hK K
  try simp only [Act.put, List.setIfInBounds_toArray, List.set_cons_zero, List.set_cons_succ]
  refine wpAnyH_take (i := 10) (oi := { dst := Option.some 22, op := Go.Op.binOp Go.BinOp.add 9 (Go.Operand.tmp 16) (Go.Operand.tmp 21) 9, type := 9, pos := "lines.go:84", after := #[{ on := 4, ground := Go.Ground.data }, { on := 9, ground := Go.Ground.data }], guard := Option.none }) (v := .string B10) rfl (by kernel_rfl) (by kernel_rfl) (by kernel_rfl) (fun _ _ _ h => h) (Or.inl ⟨by rfl, ?_⟩) (by assumption) ?_
  · (intro w hSw; (try dsimp only at hSw); go_simp)
  try simp only [Act.put, List.setIfInBounds_toArray, List.set_cons_zero, List.set_cons_succ]
  refine wpAnyH_take (i := 11) (oi := { dst := Option.some 23, op := Go.Op.binOp Go.BinOp.add 9 (Go.Operand.tmp 22) (Go.Operand.const (Go.Value.string { data := #[59] })) 9, type := 9, pos := "lines.go:84", after := #[{ on := 10, ground := Go.Ground.data }], guard := Option.none }) (v := .string B11) rfl (by kernel_rfl) (by kernel_rfl) (by kernel_rfl) (fun _ _ _ h => h) (Or.inl ⟨by rfl, ?_⟩) (by assumption) ?_
  · (intro w hSw; (try dsimp only at hSw); go_simp)
  try simp only [Act.put, List.setIfInBounds_toArray, List.set_cons_zero, List.set_cons_succ]
  refine wpAnyH_take (i := 12) (oi := { dst := Option.some 4, op := Go.Op.assign (Go.Operand.tmp 23), type := 9, pos := "lines.go:84", after := #[{ on := 11, ground := Go.Ground.data }, { on := 9, ground := Go.Ground.chain }, { on := 0, ground := Go.Ground.phase }, { on := 1, ground := Go.Ground.phase }, { on := 2, ground := Go.Ground.phase }, { on := 3, ground := Go.Ground.phase }, { on := 4, ground := Go.Ground.phase }, { on := 5, ground := Go.Ground.phase }, { on := 6, ground := Go.Ground.phase }, { on := 7, ground := Go.Ground.phase }, { on := 8, ground := Go.Ground.phase }, { on := 9, ground := Go.Ground.phase }, { on := 10, ground := Go.Ground.phase }, { on := 11, ground := Go.Ground.phase }], guard := Option.none }) (v := ?_) rfl (by kernel_rfl) (by kernel_rfl) (by kernel_rfl) (fun _ _ _ h => h) (Or.inl ⟨by rfl, ?_⟩) (by assumption) ?_
  rotate_left
  · (intro w hSw; (try dsimp only at hSw); go_simp; try with_reducible rfl)
  try simp only [Act.put, List.setIfInBounds_toArray, List.set_cons_zero, List.set_cons_succ]
  refine wpAnyH_done (by kernel_rfl) ?_ _
  have HE := Lib.hid (HB1.out.trans (HS.mono HB1.out.size))
  go_wp2_with fail
  go_ret
  exact ⟨ret_strE HF.out.symm, HE.out⟩
set_option maxRecDepth 100000 in
set_option maxHeartbeats 6400000 in
theorem first_3 (nm : List UInt8) (ns : List (List UInt8)) (e a : Ex) (g : Exs) (lo hi : Nat) (bd el : Sts) (he : e.may = true) (b o m : Nat) (w : World) (hb : b < w.heap.size) (hx : (St.mk 3 nm ns e a g lo hi bd el).At w w.heap.size b o) (hmp : w.heap[m]? = some (fmap signT)) (hG : Glob w) (hl : (St.mk 3 nm ns e a g lo hi bd el).first.length ≤ 1000000) :
    Calls Tryd.prog 75 #[.agg #[.map (some m)], .pointer (some ⟨b, o, none⟩)] w fun z w' => z = .returned (.string (str (St.mk 3 nm ns e a g lo hi bd el).first)) ∧ Below w.heap.size w w' := by
  have ht : (St.mk 3 nm ns e a g lo hi bd el).first = ([105, 102, 32] ++ e.text) ++ [32, 123] := by rw [← first_eq, firstT, if_neg (by decide), if_neg (by decide), if_pos rfl]
  have hlen : e.text.length ≤ 1000000 := by rw [ht] at hl; simp only [List.length_append, List.length_cons, List.length_nil] at hl; omega
  obtain ⟨W1, hW1⟩ : ∃ W1, w.alloc (.cells #[.map (some m)] 58) = W1 := ⟨_, rfl⟩
  have hB1 : Below w.heap.size w W1 := by rw [← hW1]; exact (Below.refl _ _).alloc (Nat.le_refl _) _
  have hz1 : W1.heap.size = w.heap.size + 1 := by rw [← hW1]; simp
  have xt : W1.cell? ⟨w.heap.size, 0, none⟩ = some (.map (some m)) := cell_block (show W1.heap[w.heap.size]? = some (.cells #[.map (some m)] 58 (0, 0)) by rw [← hW1]; exact heap_alloc_new w _) rfl
  obtain ⟨y0, y1, ye, ya, ⟨pn, cn, y2, hcn, sn⟩, ⟨pg, cg, y11, sg⟩, y12, y13, hlo, hhi, _, _⟩ := hx.parts
  have x0 := (hB1.cell hb).trans y0
  have x1 := (hB1.cell hb).trans y1
  have x2 := (hB1.cell hb).trans y2
  have x11 := (hB1.cell hb).trans y11
  have x12 := (hB1.cell hb).trans y12
  have x13 := (hB1.cell hb).trans y13
  have hmp1 := (hB1.block m (lt_of_block hmp)).trans hmp
  have hb1 : b < W1.heap.size := by omega
  have ht1 : w.heap.size < W1.heap.size := by omega
  have hG1 := hG.later hB1
  have HB1 := Lib.hid hB1
  have HTe := Lib.hid (fun (w1 : World) (hB : Below W1.heap.size W1 w1) => exprText_any e he b (o + 3) m w1 (Nat.lt_of_lt_of_le hb1 hB.size) (Ex.At.later ((hB1.trans (hB.mono hB1.size))) (Nat.le_trans hB1.size hB.size) e b (o + 3) hb ye) ((hB.block m (lt_of_block hmp1)).trans hmp1) (hG1.later hB) (by omega))
  obtain ⟨A0, hA0⟩ : ∃ A, A = str (e.text) := ⟨_, rfl⟩
  rw [← hA0] at HTe
  obtain ⟨B5, hB5⟩ : ∃ B, B = str ([105, 102, 32] ++ e.text) := ⟨_, rfl⟩
  obtain ⟨B6, hB6⟩ : ∃ B, B = str (([105, 102, 32] ++ e.text) ++ [32, 123]) := ⟨_, rfl⟩
  have qB5 : ∀ w : World, (Op.stringOp .add ⟨#[105, 102, 32]⟩ A0).run Tryd.prog w = .ok (.string B5) w := fun w => by
    (try rw [hB5]); (try rw [hA0]); exact add_str ([105, 102, 32]) (e.text) (by simp only [List.length_cons, List.length_nil] at hlen ⊢; omega) w
  have qB6 : ∀ w : World, (Op.stringOp .add B5 ⟨#[32, 123]⟩).run Tryd.prog w = .ok (.string B6) w := fun w => by
    (try rw [hB6]); (try rw [hB5]); exact add_str (([105, 102, 32] ++ e.text)) ([32, 123]) (by simp only [List.length_append, List.length_cons, List.length_nil] at hlen ⊢; omega) w
  have HF := Lib.hid (show str (St.mk 3 nm ns e a g lo hi bd el).first = B6 by rw [ht, hB6])
  clear hA0 hB5 hB6 hl ht hx y0 y1 y2 y11 y12 y13 ye ya sn sg hG hG1 hmp hmp1 hB1 hlo hhi x1 x2 x11 x12 x13
  go_enter Tryd.func75, Tryd.ntmps75
  go_wp2_with fail
  clear hW1 x0
  have HS : Below W1.heap.size W1 W1.drew := (Below.refl _ _).drew
  refine wp_region_held_drew (S := fun W => Below W1.heap.size W1 W ∧ W.cell? ⟨w.heap.size, 0, none⟩ = some (.map (some m))) (by kernel_rfl) ?_ (fun hHeld => ?_)
  · exact ⟨HS, (HS.cell ht1).trans xt⟩
  refine wpAnyH_take (i := 0) (oi := { dst := Option.some 46, op := Go.Op.load 58 (Go.Operand.tmp 2), type := 58, pos := "lines.go:88", after := #[], guard := Option.none }) (v := ?_) rfl (by kernel_rfl) (by kernel_rfl) (by kernel_rfl) (fun _ _ _ h => h) (Or.inl ⟨by rfl, ?_⟩) (by assumption) ?_
  rotate_left
  · (intro w hSw; (try dsimp only at hSw); go_simp; try with_reducible rfl)
  try simp only [Act.put, List.setIfInBounds_toArray, List.set_cons_zero, List.set_cons_succ]
  refine wpAnyH_take (i := 1) (oi := { dst := Option.some 47, op := Go.Op.move (Go.Operand.tmp 1), type := 110, pos := "lines.go:88", after := #[], guard := Option.none }) (v := ?_) rfl (by kernel_rfl) (by kernel_rfl) (by kernel_rfl) (fun _ _ _ h => h) (Or.inl ⟨by rfl, ?_⟩) (by assumption) ?_
  rotate_left
  · (intro w hSw; (try dsimp only at hSw); go_simp; try with_reducible rfl)
  try simp only [Act.put, List.setIfInBounds_toArray, List.set_cons_zero, List.set_cons_succ]
  refine wpAnyH_take (i := 2) (oi := { dst := Option.some 48, op := Go.Op.nilCheck (Go.Operand.tmp 47), type := 0, pos := "lines.go:88", after := #[{ on := 1, ground := Go.Ground.data }], guard := Option.none }) (v := ?_) rfl (by kernel_rfl) (by kernel_rfl) (by kernel_rfl) (fun _ _ _ h => h) (Or.inl ⟨by rfl, ?_⟩) (by assumption) ?_
  rotate_left
  · (intro w hSw; (try dsimp only at hSw); go_simp; try with_reducible rfl)
  try simp only [Act.put, List.setIfInBounds_toArray, List.set_cons_zero, List.set_cons_succ]
  refine wpAnyH_take (i := 3) (oi := { dst := Option.some 49, op := Go.Op.fieldAddr 35 (Go.Operand.tmp 48) 3, type := 0, pos := "lines.go:88", after := #[{ on := 2, ground := Go.Ground.data }], guard := Option.none }) (v := ?_) rfl (by kernel_rfl) (by kernel_rfl) (by kernel_rfl) (fun _ _ _ h => h) (Or.inl ⟨by rfl, ?_⟩) (by assumption) ?_
  rotate_left
  · (intro w hSw; (try dsimp only at hSw); go_simp; try with_reducible rfl)
  try simp only [Act.put, List.setIfInBounds_toArray, List.set_cons_zero, List.set_cons_succ]
  refine wpAnyH_ready (rs := [4]) (by kernel_rfl) (by simp) ?_
  refine AllReadyH.cons (o := { dst := Option.some 50, op := Go.Op.call { callee := Go.Callee.value (Go.Operand.func 17), args := #[Go.Operand.tmp 46, Go.Operand.tmp 49], argTypes := #[58, 61] }, type := 9, pos := "lines.go:88", after := #[{ on := 0, ground := Go.Ground.data }, { on := 3, ground := Go.Ground.data }], guard := Option.none }) rfl (fun K hK => ?_) AllReadyH.nil
  go_simp
  refine (HTe.out _ HS).mono ?_
  rintro z wa ⟨rfl, hB'⟩
  replace HS := HS.trans (hB'.mono HS.size)
  clear hB'
  refine hK.out _ _ ?_ (fun hHeld => ?_)
  · exact ⟨HS, (HS.cell ht1).trans xt⟩
  clear hK K
  try simp only [Act.put, List.setIfInBounds_toArray, List.set_cons_zero, List.set_cons_succ]
  refine wpAnyH_take (i := 5) (oi := { dst := Option.some 51, op := Go.Op.binOp Go.BinOp.add 9 (Go.Operand.const (Go.Value.string { data := #[105, 102, 32] })) (Go.Operand.tmp 50) 9, type := 9, pos := "lines.go:88", after := #[{ on := 4, ground := Go.Ground.data }], guard := Option.none }) (v := .string B5) rfl (by kernel_rfl) (by kernel_rfl) (by kernel_rfl) (fun _ _ _ h => h) (Or.inl ⟨by rfl, ?_⟩) (by assumption) ?_
  · (intro w hSw; (try dsimp only at hSw); go_simp)
  try simp only [Act.put, List.setIfInBounds_toArray, List.set_cons_zero, List.set_cons_succ]
  refine wpAnyH_take (i := 6) (oi := { dst := Option.some 52, op := Go.Op.binOp Go.BinOp.add 9 (Go.Operand.tmp 51) (Go.Operand.const (Go.Value.string { data := #[32, 123] })) 9, type := 9, pos := "lines.go:88", after := #[{ on := 5, ground := Go.Ground.data }], guard := Option.none }) (v := .string B6) rfl (by kernel_rfl) (by kernel_rfl) (by kernel_rfl) (fun _ _ _ h => h) (Or.inl ⟨by rfl, ?_⟩) (by assumption) ?_
  · (intro w hSw; (try dsimp only at hSw); go_simp)
  try simp only [Act.put, List.setIfInBounds_toArray, List.set_cons_zero, List.set_cons_succ]
  refine wpAnyH_take (i := 7) (oi := { dst := Option.some 4, op := Go.Op.assign (Go.Operand.tmp 52), type := 9, pos := "lines.go:88", after := #[{ on := 6, ground := Go.Ground.data }, { on := 4, ground := Go.Ground.chain }, { on := 0, ground := Go.Ground.phase }, { on := 1, ground := Go.Ground.phase }, { on := 2, ground := Go.Ground.phase }, { on := 3, ground := Go.Ground.phase }, { on := 4, ground := Go.Ground.phase }, { on := 5, ground := Go.Ground.phase }, { on := 6, ground := Go.Ground.phase }], guard := Option.none }) (v := ?_) rfl (by kernel_rfl) (by kernel_rfl) (by kernel_rfl) (fun _ _ _ h => h) (Or.inl ⟨by rfl, ?_⟩) (by assumption) ?_
  rotate_left
  · (intro w hSw; (try dsimp only at hSw); go_simp; try with_reducible rfl)
  try simp only [Act.put, List.setIfInBounds_toArray, List.set_cons_zero, List.set_cons_succ]
  refine wpAnyH_done (by kernel_rfl) ?_ _
  have HE := Lib.hid (HB1.out.trans (HS.mono HB1.out.size))
  go_wp2_with fail
  go_ret
  exact ⟨ret_strE HF.out.symm, HE.out⟩
set_option maxRecDepth 100000 in
set_option maxHeartbeats 6400000 in
theorem first_4 (nm : List UInt8) (ns : List (List UInt8)) (e a : Ex) (g : Exs) (lo hi : Nat) (bd el : Sts) (he : e.may = true) (b o m : Nat) (w : World) (hb : b < w.heap.size) (hx : (St.mk 4 nm ns e a g lo hi bd el).At w w.heap.size b o) (hmp : w.heap[m]? = some (fmap signT)) (hG : Glob w) (hl : (St.mk 4 nm ns e a g lo hi bd el).first.length ≤ 1000000) :
    Calls Tryd.prog 75 #[.agg #[.map (some m)], .pointer (some ⟨b, o, none⟩)] w fun z w' => z = .returned (.string (str (St.mk 4 nm ns e a g lo hi bd el).first)) ∧ Below w.heap.size w w' := by
  have ht : (St.mk 4 nm ns e a g lo hi bd el).first = ([119, 104, 105, 108, 101, 32] ++ e.text) ++ [32, 123] := by rw [← first_eq, firstT, if_neg (by decide), if_neg (by decide), if_neg (by decide), if_pos rfl]
  have hlen : e.text.length ≤ 1000000 := by rw [ht] at hl; simp only [List.length_append, List.length_cons, List.length_nil] at hl; omega
  obtain ⟨W1, hW1⟩ : ∃ W1, w.alloc (.cells #[.map (some m)] 58) = W1 := ⟨_, rfl⟩
  have hB1 : Below w.heap.size w W1 := by rw [← hW1]; exact (Below.refl _ _).alloc (Nat.le_refl _) _
  have hz1 : W1.heap.size = w.heap.size + 1 := by rw [← hW1]; simp
  have xt : W1.cell? ⟨w.heap.size, 0, none⟩ = some (.map (some m)) := cell_block (show W1.heap[w.heap.size]? = some (.cells #[.map (some m)] 58 (0, 0)) by rw [← hW1]; exact heap_alloc_new w _) rfl
  obtain ⟨y0, y1, ye, ya, ⟨pn, cn, y2, hcn, sn⟩, ⟨pg, cg, y11, sg⟩, y12, y13, hlo, hhi, _, _⟩ := hx.parts
  have x0 := (hB1.cell hb).trans y0
  have x1 := (hB1.cell hb).trans y1
  have x2 := (hB1.cell hb).trans y2
  have x11 := (hB1.cell hb).trans y11
  have x12 := (hB1.cell hb).trans y12
  have x13 := (hB1.cell hb).trans y13
  have hmp1 := (hB1.block m (lt_of_block hmp)).trans hmp
  have hb1 : b < W1.heap.size := by omega
  have ht1 : w.heap.size < W1.heap.size := by omega
  have hG1 := hG.later hB1
  have HB1 := Lib.hid hB1
  have HTe := Lib.hid (fun (w1 : World) (hB : Below W1.heap.size W1 w1) => exprText_any e he b (o + 3) m w1 (Nat.lt_of_lt_of_le hb1 hB.size) (Ex.At.later ((hB1.trans (hB.mono hB1.size))) (Nat.le_trans hB1.size hB.size) e b (o + 3) hb ye) ((hB.block m (lt_of_block hmp1)).trans hmp1) (hG1.later hB) (by omega))
  obtain ⟨A0, hA0⟩ : ∃ A, A = str (e.text) := ⟨_, rfl⟩
  rw [← hA0] at HTe
  obtain ⟨B5, hB5⟩ : ∃ B, B = str ([119, 104, 105, 108, 101, 32] ++ e.text) := ⟨_, rfl⟩
  obtain ⟨B6, hB6⟩ : ∃ B, B = str (([119, 104, 105, 108, 101, 32] ++ e.text) ++ [32, 123]) := ⟨_, rfl⟩
  have qB5 : ∀ w : World, (Op.stringOp .add ⟨#[119, 104, 105, 108, 101, 32]⟩ A0).run Tryd.prog w = .ok (.string B5) w := fun w => by
    (try rw [hB5]); (try rw [hA0]); exact add_str ([119, 104, 105, 108, 101, 32]) (e.text) (by simp only [List.length_cons, List.length_nil] at hlen ⊢; omega) w
  have qB6 : ∀ w : World, (Op.stringOp .add B5 ⟨#[32, 123]⟩).run Tryd.prog w = .ok (.string B6) w := fun w => by
    (try rw [hB6]); (try rw [hB5]); exact add_str (([119, 104, 105, 108, 101, 32] ++ e.text)) ([32, 123]) (by simp only [List.length_append, List.length_cons, List.length_nil] at hlen ⊢; omega) w
  have HF := Lib.hid (show str (St.mk 4 nm ns e a g lo hi bd el).first = B6 by rw [ht, hB6])
  clear hA0 hB5 hB6 hl ht hx y0 y1 y2 y11 y12 y13 ye ya sn sg hG hG1 hmp hmp1 hB1 hlo hhi x1 x2 x11 x12 x13
  go_enter Tryd.func75, Tryd.ntmps75
  go_wp2_with fail
  clear hW1 x0
  have HS : Below W1.heap.size W1 W1.drew := (Below.refl _ _).drew
  refine wp_region_held_drew (S := fun W => Below W1.heap.size W1 W ∧ W.cell? ⟨w.heap.size, 0, none⟩ = some (.map (some m))) (by kernel_rfl) ?_ (fun hHeld => ?_)
  · exact ⟨HS, (HS.cell ht1).trans xt⟩
  refine wpAnyH_take (i := 0) (oi := { dst := Option.some 55, op := Go.Op.load 58 (Go.Operand.tmp 2), type := 58, pos := "lines.go:90", after := #[], guard := Option.none }) (v := ?_) rfl (by kernel_rfl) (by kernel_rfl) (by kernel_rfl) (fun _ _ _ h => h) (Or.inl ⟨by rfl, ?_⟩) (by assumption) ?_
  rotate_left
  · (intro w hSw; (try dsimp only at hSw); go_simp; try with_reducible rfl)
  try simp only [Act.put, List.setIfInBounds_toArray, List.set_cons_zero, List.set_cons_succ]
  refine wpAnyH_take (i := 1) (oi := { dst := Option.some 56, op := Go.Op.move (Go.Operand.tmp 1), type := 110, pos := "lines.go:90", after := #[], guard := Option.none }) (v := ?_) rfl (by kernel_rfl) (by kernel_rfl) (by kernel_rfl) (fun _ _ _ h => h) (Or.inl ⟨by rfl, ?_⟩) (by assumption) ?_
  rotate_left
  · (intro w hSw; (try dsimp only at hSw); go_simp; try with_reducible rfl)
  try simp only [Act.put, List.setIfInBounds_toArray, List.set_cons_zero, List.set_cons_succ]
  refine wpAnyH_take (i := 2) (oi := { dst := Option.some 57, op := Go.Op.nilCheck (Go.Operand.tmp 56), type := 0, pos := "lines.go:90", after := #[{ on := 1, ground := Go.Ground.data }], guard := Option.none }) (v := ?_) rfl (by kernel_rfl) (by kernel_rfl) (by kernel_rfl) (fun _ _ _ h => h) (Or.inl ⟨by rfl, ?_⟩) (by assumption) ?_
  rotate_left
  · (intro w hSw; (try dsimp only at hSw); go_simp; try with_reducible rfl)
  try simp only [Act.put, List.setIfInBounds_toArray, List.set_cons_zero, List.set_cons_succ]
  refine wpAnyH_take (i := 3) (oi := { dst := Option.some 58, op := Go.Op.fieldAddr 35 (Go.Operand.tmp 57) 3, type := 0, pos := "lines.go:90", after := #[{ on := 2, ground := Go.Ground.data }], guard := Option.none }) (v := ?_) rfl (by kernel_rfl) (by kernel_rfl) (by kernel_rfl) (fun _ _ _ h => h) (Or.inl ⟨by rfl, ?_⟩) (by assumption) ?_
  rotate_left
  · (intro w hSw; (try dsimp only at hSw); go_simp; try with_reducible rfl)
  try simp only [Act.put, List.setIfInBounds_toArray, List.set_cons_zero, List.set_cons_succ]
  refine wpAnyH_ready (rs := [4]) (by kernel_rfl) (by simp) ?_
  refine AllReadyH.cons (o := { dst := Option.some 59, op := Go.Op.call { callee := Go.Callee.value (Go.Operand.func 17), args := #[Go.Operand.tmp 55, Go.Operand.tmp 58], argTypes := #[58, 61] }, type := 9, pos := "lines.go:90", after := #[{ on := 0, ground := Go.Ground.data }, { on := 3, ground := Go.Ground.data }], guard := Option.none }) rfl (fun K hK => ?_) AllReadyH.nil
  go_simp
  refine (HTe.out _ HS).mono ?_
  rintro z wa ⟨rfl, hB'⟩
  replace HS := HS.trans (hB'.mono HS.size)
  clear hB'
  refine hK.out _ _ ?_ (fun hHeld => ?_)
  · exact ⟨HS, (HS.cell ht1).trans xt⟩
  clear hK K
  try simp only [Act.put, List.setIfInBounds_toArray, List.set_cons_zero, List.set_cons_succ]
  refine wpAnyH_take (i := 5) (oi := { dst := Option.some 60, op := Go.Op.binOp Go.BinOp.add 9 (Go.Operand.const (Go.Value.string { data := #[119, 104, 105, 108, 101, 32] })) (Go.Operand.tmp 59) 9, type := 9, pos := "lines.go:90", after := #[{ on := 4, ground := Go.Ground.data }], guard := Option.none }) (v := .string B5) rfl (by kernel_rfl) (by kernel_rfl) (by kernel_rfl) (fun _ _ _ h => h) (Or.inl ⟨by rfl, ?_⟩) (by assumption) ?_
  · (intro w hSw; (try dsimp only at hSw); go_simp)
  try simp only [Act.put, List.setIfInBounds_toArray, List.set_cons_zero, List.set_cons_succ]
  refine wpAnyH_take (i := 6) (oi := { dst := Option.some 61, op := Go.Op.binOp Go.BinOp.add 9 (Go.Operand.tmp 60) (Go.Operand.const (Go.Value.string { data := #[32, 123] })) 9, type := 9, pos := "lines.go:90", after := #[{ on := 5, ground := Go.Ground.data }], guard := Option.none }) (v := .string B6) rfl (by kernel_rfl) (by kernel_rfl) (by kernel_rfl) (fun _ _ _ h => h) (Or.inl ⟨by rfl, ?_⟩) (by assumption) ?_
  · (intro w hSw; (try dsimp only at hSw); go_simp)
  try simp only [Act.put, List.setIfInBounds_toArray, List.set_cons_zero, List.set_cons_succ]
  refine wpAnyH_take (i := 7) (oi := { dst := Option.some 4, op := Go.Op.assign (Go.Operand.tmp 61), type := 9, pos := "lines.go:90", after := #[{ on := 6, ground := Go.Ground.data }, { on := 4, ground := Go.Ground.chain }, { on := 0, ground := Go.Ground.phase }, { on := 1, ground := Go.Ground.phase }, { on := 2, ground := Go.Ground.phase }, { on := 3, ground := Go.Ground.phase }, { on := 4, ground := Go.Ground.phase }, { on := 5, ground := Go.Ground.phase }, { on := 6, ground := Go.Ground.phase }], guard := Option.none }) (v := ?_) rfl (by kernel_rfl) (by kernel_rfl) (by kernel_rfl) (fun _ _ _ h => h) (Or.inl ⟨by rfl, ?_⟩) (by assumption) ?_
  rotate_left
  · (intro w hSw; (try dsimp only at hSw); go_simp; try with_reducible rfl)
  try simp only [Act.put, List.setIfInBounds_toArray, List.set_cons_zero, List.set_cons_succ]
  refine wpAnyH_done (by kernel_rfl) ?_ _
  have HE := Lib.hid (HB1.out.trans (HS.mono HB1.out.size))
  go_wp2_with fail
  go_ret
  exact ⟨ret_strE HF.out.symm, HE.out⟩
set_option maxRecDepth 100000 in
set_option maxHeartbeats 6400000 in
theorem first_5 (nm : List UInt8) (ns : List (List UInt8)) (e a : Ex) (g : Exs) (lo hi : Nat) (bd el : Sts)  (b o m : Nat) (w : World) (hb : b < w.heap.size) (hx : (St.mk 5 nm ns e a g lo hi bd el).At w w.heap.size b o) (hmp : w.heap[m]? = some (fmap signT)) (hG : Glob w) (hl : (St.mk 5 nm ns e a g lo hi bd el).first.length ≤ 1000000) :
    Calls Tryd.prog 75 #[.agg #[.map (some m)], .pointer (some ⟨b, o, none⟩)] w fun z w' => z = .returned (.string (str (St.mk 5 nm ns e a g lo hi bd el).first)) ∧ Below w.heap.size w w' := by
  have ht : (St.mk 5 nm ns e a g lo hi bd el).first = ((((([102, 111, 114, 32] ++ nm) ++ [32]) ++ Lib.decDigits lo) ++ [32]) ++ Lib.decDigits hi) ++ [32, 123] := by rw [← first_eq, firstT, if_neg (by decide), if_neg (by decide), if_neg (by decide), if_neg (by decide), if_pos rfl]
  have hlen : nm.length + (Lib.decDigits lo).length + (Lib.decDigits hi).length ≤ 1000000 := by rw [ht] at hl; simp only [List.length_append, List.length_cons, List.length_nil] at hl; omega
  obtain ⟨W1, hW1⟩ : ∃ W1, w.alloc (.cells #[.map (some m)] 58) = W1 := ⟨_, rfl⟩
  have hB1 : Below w.heap.size w W1 := by rw [← hW1]; exact (Below.refl _ _).alloc (Nat.le_refl _) _
  have hz1 : W1.heap.size = w.heap.size + 1 := by rw [← hW1]; simp
  have xt : W1.cell? ⟨w.heap.size, 0, none⟩ = some (.map (some m)) := cell_block (show W1.heap[w.heap.size]? = some (.cells #[.map (some m)] 58 (0, 0)) by rw [← hW1]; exact heap_alloc_new w _) rfl
  obtain ⟨y0, y1, ye, ya, ⟨pn, cn, y2, hcn, sn⟩, ⟨pg, cg, y11, sg⟩, y12, y13, hlo, hhi, _, _⟩ := hx.parts
  have x0 := (hB1.cell hb).trans y0
  have x1 := (hB1.cell hb).trans y1
  have x2 := (hB1.cell hb).trans y2
  have x11 := (hB1.cell hb).trans y11
  have x12 := (hB1.cell hb).trans y12
  have x13 := (hB1.cell hb).trans y13
  have hmp1 := (hB1.block m (lt_of_block hmp)).trans hmp
  have hb1 : b < W1.heap.size := by omega
  have ht1 : w.heap.size < W1.heap.size := by omega
  have hG1 := hG.later hB1
  have HB1 := Lib.hid hB1
  have HLo := Lib.hid (fun (w1 : World) (hB : Below W1.heap.size W1 w1) => formatUint_any lo hlo w1 (hG1.later hB))
  have HHi := Lib.hid (fun (w1 : World) (hB : Below W1.heap.size W1 w1) => formatUint_any hi hhi w1 (hG1.later hB))
  obtain ⟨NM, hNM⟩ : ∃ A, A = str (nm) := ⟨_, rfl⟩
  obtain ⟨A0, hA0⟩ : ∃ A, A = str (Lib.decDigits lo) := ⟨_, rfl⟩
  obtain ⟨A1, hA1⟩ : ∃ A, A = str (Lib.decDigits hi) := ⟨_, rfl⟩
  rw [← hNM] at x1
  rw [← hA0] at HLo
  rw [← hA1] at HHi
  obtain ⟨B4, hB4⟩ : ∃ B, B = str ([102, 111, 114, 32] ++ nm) := ⟨_, rfl⟩
  obtain ⟨B5, hB5⟩ : ∃ B, B = str (([102, 111, 114, 32] ++ nm) ++ [32]) := ⟨_, rfl⟩
  obtain ⟨B11, hB11⟩ : ∃ B, B = str ((([102, 111, 114, 32] ++ nm) ++ [32]) ++ Lib.decDigits lo) := ⟨_, rfl⟩
  obtain ⟨B12, hB12⟩ : ∃ B, B = str (((([102, 111, 114, 32] ++ nm) ++ [32]) ++ Lib.decDigits lo) ++ [32]) := ⟨_, rfl⟩
  obtain ⟨B18, hB18⟩ : ∃ B, B = str ((((([102, 111, 114, 32] ++ nm) ++ [32]) ++ Lib.decDigits lo) ++ [32]) ++ Lib.decDigits hi) := ⟨_, rfl⟩
  obtain ⟨B19, hB19⟩ : ∃ B, B = str (((((([102, 111, 114, 32] ++ nm) ++ [32]) ++ Lib.decDigits lo) ++ [32]) ++ Lib.decDigits hi) ++ [32, 123]) := ⟨_, rfl⟩
  have qB4 : ∀ w : World, (Op.stringOp .add ⟨#[102, 111, 114, 32]⟩ NM).run Tryd.prog w = .ok (.string B4) w := fun w => by
    (try rw [hB4]); (try rw [hNM]); exact add_str ([102, 111, 114, 32]) (nm) (by simp only [List.length_cons, List.length_nil] at hlen ⊢; omega) w
  have qB5 : ∀ w : World, (Op.stringOp .add B4 ⟨#[32]⟩).run Tryd.prog w = .ok (.string B5) w := fun w => by
    (try rw [hB5]); (try rw [hB4]); exact add_str (([102, 111, 114, 32] ++ nm)) ([32]) (by simp only [List.length_append, List.length_cons, List.length_nil] at hlen ⊢; omega) w
  have qB11 : ∀ w : World, (Op.stringOp .add B5 A0).run Tryd.prog w = .ok (.string B11) w := fun w => by
    (try rw [hB11]); (try rw [hB5]); (try rw [hA0]); exact add_str ((([102, 111, 114, 32] ++ nm) ++ [32])) (Lib.decDigits lo) (by simp only [List.length_append, List.length_cons, List.length_nil] at hlen ⊢; omega) w
  have qB12 : ∀ w : World, (Op.stringOp .add B11 ⟨#[32]⟩).run Tryd.prog w = .ok (.string B12) w := fun w => by
    (try rw [hB12]); (try rw [hB11]); exact add_str (((([102, 111, 114, 32] ++ nm) ++ [32]) ++ Lib.decDigits lo)) ([32]) (by simp only [List.length_append, List.length_cons, List.length_nil] at hlen ⊢; omega) w
  have qB18 : ∀ w : World, (Op.stringOp .add B12 A1).run Tryd.prog w = .ok (.string B18) w := fun w => by
    (try rw [hB18]); (try rw [hB12]); (try rw [hA1]); exact add_str ((((([102, 111, 114, 32] ++ nm) ++ [32]) ++ Lib.decDigits lo) ++ [32])) (Lib.decDigits hi) (by simp only [List.length_append, List.length_cons, List.length_nil] at hlen ⊢; omega) w
  have qB19 : ∀ w : World, (Op.stringOp .add B18 ⟨#[32, 123]⟩).run Tryd.prog w = .ok (.string B19) w := fun w => by
    (try rw [hB19]); (try rw [hB18]); exact add_str (((((([102, 111, 114, 32] ++ nm) ++ [32]) ++ Lib.decDigits lo) ++ [32]) ++ Lib.decDigits hi)) ([32, 123]) (by simp only [List.length_append, List.length_cons, List.length_nil] at hlen ⊢; omega) w
  have HF := Lib.hid (show str (St.mk 5 nm ns e a g lo hi bd el).first = B19 by rw [ht, hB19])
  clear hNM hA0 hA1 hB4 hB5 hB11 hB12 hB18 hB19 hl ht hx y0 y1 y2 y11 y12 y13 ye ya sn sg hG hG1 hmp hmp1 hB1 hlo hhi x2 x11
  go_enter Tryd.func75, Tryd.ntmps75
  go_wp2_with fail
  clear hW1 x0
  have HS : Below W1.heap.size W1 W1.drew := (Below.refl _ _).drew
  refine wp_region_held_drew (S := fun W => Below W1.heap.size W1 W ∧ W.cell? ⟨w.heap.size, 0, none⟩ = some (.map (some m)) ∧ W.cell? ⟨b, o + 1, none⟩ = some (.string NM) ∧ W.cell? ⟨b, o + 12, none⟩ = some (.int .u64 (lo : Int)) ∧ W.cell? ⟨b, o + 13, none⟩ = some (.int .u64 (hi : Int))) (by kernel_rfl) ?_ (fun hHeld => ?_)
  · exact ⟨HS, (HS.cell ht1).trans xt, (HS.cell hb1).trans x1, (HS.cell hb1).trans x12, (HS.cell hb1).trans x13⟩
  refine wpAnyH_take (i := 0) (oi := { dst := Option.some 64, op := Go.Op.move (Go.Operand.tmp 1), type := 110, pos := "lines.go:92", after := #[], guard := Option.none }) (v := ?_) rfl (by kernel_rfl) (by kernel_rfl) (by kernel_rfl) (fun _ _ _ h => h) (Or.inl ⟨by rfl, ?_⟩) (by assumption) ?_
  rotate_left
  · (intro w hSw; (try dsimp only at hSw); go_simp; try with_reducible rfl)
  try simp only [Act.put, List.setIfInBounds_toArray, List.set_cons_zero, List.set_cons_succ]
  refine wpAnyH_take (i := 1) (oi := { dst := Option.some 65, op := Go.Op.nilCheck (Go.Operand.tmp 64), type := 0, pos := "lines.go:92", after := #[{ on := 0, ground := Go.Ground.data }], guard := Option.none }) (v := ?_) rfl (by kernel_rfl) (by kernel_rfl) (by kernel_rfl) (fun _ _ _ h => h) (Or.inl ⟨by rfl, ?_⟩) (by assumption) ?_
  rotate_left
  · (intro w hSw; (try dsimp only at hSw); go_simp; try with_reducible rfl)
  try simp only [Act.put, List.setIfInBounds_toArray, List.set_cons_zero, List.set_cons_succ]
  refine wpAnyH_take (i := 2) (oi := { dst := Option.some 66, op := Go.Op.fieldAddr 35 (Go.Operand.tmp 65) 1, type := 0, pos := "lines.go:92", after := #[{ on := 1, ground := Go.Ground.data }], guard := Option.none }) (v := ?_) rfl (by kernel_rfl) (by kernel_rfl) (by kernel_rfl) (fun _ _ _ h => h) (Or.inl ⟨by rfl, ?_⟩) (by assumption) ?_
  rotate_left
  · (intro w hSw; (try dsimp only at hSw); go_simp; try with_reducible rfl)
  try simp only [Act.put, List.setIfInBounds_toArray, List.set_cons_zero, List.set_cons_succ]
  refine wpAnyH_take (i := 3) (oi := { dst := Option.some 67, op := Go.Op.load 9 (Go.Operand.tmp 66), type := 9, pos := "lines.go:92", after := #[{ on := 2, ground := Go.Ground.data }], guard := Option.none }) (v := ?_) rfl (by kernel_rfl) (by kernel_rfl) (by kernel_rfl) (fun _ _ _ h => h) (Or.inl ⟨by rfl, ?_⟩) (by assumption) ?_
  rotate_left
  · (intro w hSw; (try dsimp only at hSw); go_simp; try with_reducible rfl)
  try simp only [Act.put, List.setIfInBounds_toArray, List.set_cons_zero, List.set_cons_succ]
  refine wpAnyH_take (i := 4) (oi := { dst := Option.some 68, op := Go.Op.binOp Go.BinOp.add 9 (Go.Operand.const (Go.Value.string { data := #[102, 111, 114, 32] })) (Go.Operand.tmp 67) 9, type := 9, pos := "lines.go:92", after := #[{ on := 3, ground := Go.Ground.data }], guard := Option.none }) (v := .string B4) rfl (by kernel_rfl) (by kernel_rfl) (by kernel_rfl) (fun _ _ _ h => h) (Or.inl ⟨by rfl, ?_⟩) (by assumption) ?_
  · (intro w hSw; (try dsimp only at hSw); go_simp)
  try simp only [Act.put, List.setIfInBounds_toArray, List.set_cons_zero, List.set_cons_succ]
  refine wpAnyH_take (i := 5) (oi := { dst := Option.some 69, op := Go.Op.binOp Go.BinOp.add 9 (Go.Operand.tmp 68) (Go.Operand.const (Go.Value.string { data := #[32] })) 9, type := 9, pos := "lines.go:92", after := #[{ on := 4, ground := Go.Ground.data }], guard := Option.none }) (v := .string B5) rfl (by kernel_rfl) (by kernel_rfl) (by kernel_rfl) (fun _ _ _ h => h) (Or.inl ⟨by rfl, ?_⟩) (by assumption) ?_
  · (intro w hSw; (try dsimp only at hSw); go_simp)
  try simp only [Act.put, List.setIfInBounds_toArray, List.set_cons_zero, List.set_cons_succ]
  refine wpAnyH_take (i := 6) (oi := { dst := Option.some 70, op := Go.Op.move (Go.Operand.tmp 1), type := 110, pos := "lines.go:92", after := #[], guard := Option.none }) (v := ?_) rfl (by kernel_rfl) (by kernel_rfl) (by kernel_rfl) (fun _ _ _ h => h) (Or.inl ⟨by rfl, ?_⟩) (by assumption) ?_
  rotate_left
  · (intro w hSw; (try dsimp only at hSw); go_simp; try with_reducible rfl)
  try simp only [Act.put, List.setIfInBounds_toArray, List.set_cons_zero, List.set_cons_succ]
  refine wpAnyH_take (i := 7) (oi := { dst := Option.some 71, op := Go.Op.nilCheck (Go.Operand.tmp 70), type := 0, pos := "lines.go:92", after := #[{ on := 6, ground := Go.Ground.data }], guard := Option.none }) (v := ?_) rfl (by kernel_rfl) (by kernel_rfl) (by kernel_rfl) (fun _ _ _ h => h) (Or.inl ⟨by rfl, ?_⟩) (by assumption) ?_
  rotate_left
  · (intro w hSw; (try dsimp only at hSw); go_simp; try with_reducible rfl)
  try simp only [Act.put, List.setIfInBounds_toArray, List.set_cons_zero, List.set_cons_succ]
  refine wpAnyH_take (i := 8) (oi := { dst := Option.some 72, op := Go.Op.fieldAddr 35 (Go.Operand.tmp 71) 6, type := 0, pos := "lines.go:92", after := #[{ on := 7, ground := Go.Ground.data }], guard := Option.none }) (v := ?_) rfl (by kernel_rfl) (by kernel_rfl) (by kernel_rfl) (fun _ _ _ h => h) (Or.inl ⟨by rfl, ?_⟩) (by assumption) ?_
  rotate_left
  · (intro w hSw; (try dsimp only at hSw); go_simp; try with_reducible rfl)
  try simp only [Act.put, List.setIfInBounds_toArray, List.set_cons_zero, List.set_cons_succ]
  refine wpAnyH_take (i := 9) (oi := { dst := Option.some 73, op := Go.Op.load 26 (Go.Operand.tmp 72), type := 26, pos := "lines.go:92", after := #[{ on := 8, ground := Go.Ground.data }], guard := Option.none }) (v := ?_) rfl (by kernel_rfl) (by kernel_rfl) (by kernel_rfl) (fun _ _ _ h => h) (Or.inl ⟨by rfl, ?_⟩) (by assumption) ?_
  rotate_left
  · (intro w hSw; (try dsimp only at hSw); go_simp; try with_reducible rfl)
  try simp only [Act.put, List.setIfInBounds_toArray, List.set_cons_zero, List.set_cons_succ]
  refine wpAnyH_take (i := 13) (oi := { dst := Option.some 77, op := Go.Op.move (Go.Operand.tmp 1), type := 110, pos := "lines.go:92", after := #[], guard := Option.none }) (v := ?_) rfl (by kernel_rfl) (by kernel_rfl) (by kernel_rfl) (fun _ _ _ h => h) (Or.inl ⟨by rfl, ?_⟩) (by assumption) ?_
  rotate_left
  · (intro w hSw; (try dsimp only at hSw); go_simp; try with_reducible rfl)
  try simp only [Act.put, List.setIfInBounds_toArray, List.set_cons_zero, List.set_cons_succ]
  refine wpAnyH_take (i := 14) (oi := { dst := Option.some 78, op := Go.Op.nilCheck (Go.Operand.tmp 77), type := 0, pos := "lines.go:92", after := #[{ on := 13, ground := Go.Ground.data }], guard := Option.none }) (v := ?_) rfl (by kernel_rfl) (by kernel_rfl) (by kernel_rfl) (fun _ _ _ h => h) (Or.inl ⟨by rfl, ?_⟩) (by assumption) ?_
  rotate_left
  · (intro w hSw; (try dsimp only at hSw); go_simp; try with_reducible rfl)
  try simp only [Act.put, List.setIfInBounds_toArray, List.set_cons_zero, List.set_cons_succ]
  refine wpAnyH_take (i := 15) (oi := { dst := Option.some 79, op := Go.Op.fieldAddr 35 (Go.Operand.tmp 78) 7, type := 0, pos := "lines.go:92", after := #[{ on := 14, ground := Go.Ground.data }], guard := Option.none }) (v := ?_) rfl (by kernel_rfl) (by kernel_rfl) (by kernel_rfl) (fun _ _ _ h => h) (Or.inl ⟨by rfl, ?_⟩) (by assumption) ?_
  rotate_left
  · (intro w hSw; (try dsimp only at hSw); go_simp; try with_reducible rfl)
  try simp only [Act.put, List.setIfInBounds_toArray, List.set_cons_zero, List.set_cons_succ]
  refine wpAnyH_take (i := 16) (oi := { dst := Option.some 80, op := Go.Op.load 26 (Go.Operand.tmp 79), type := 26, pos := "lines.go:92", after := #[{ on := 15, ground := Go.Ground.data }], guard := Option.none }) (v := ?_) rfl (by kernel_rfl) (by kernel_rfl) (by kernel_rfl) (fun _ _ _ h => h) (Or.inl ⟨by rfl, ?_⟩) (by assumption) ?_
  rotate_left
  · (intro w hSw; (try dsimp only at hSw); go_simp; try with_reducible rfl)
  try simp only [Act.put, List.setIfInBounds_toArray, List.set_cons_zero, List.set_cons_succ]
  refine wpAnyH_ready (rs := [10]) (by kernel_rfl) (by simp) ?_
  refine AllReadyH.cons (o := { dst := Option.some 74, op := Go.Op.call { callee := Go.Callee.value (Go.Operand.func 86), args := #[Go.Operand.tmp 73, Go.Operand.const (Go.Value.int Go.IntKind.i64 10)], argTypes := #[26, 3] }, type := 9, pos := "lines.go:92", after := #[{ on := 9, ground := Go.Ground.data }], guard := Option.none }) rfl (fun K hK => ?_) AllReadyH.nil
  go_simp
  refine (HLo.out _ HS).mono ?_
  rintro z wa ⟨rfl, hB'⟩
  replace HS := HS.trans (hB'.mono HS.size)
  clear hB'
  refine hK.out _ _ ?_ (fun hHeld => ?_)
  · exact ⟨HS, (HS.cell ht1).trans xt, (HS.cell hb1).trans x1, (HS.cell hb1).trans x12, (HS.cell hb1).trans x13⟩
  clear hK K
  try simp only [Act.put, List.setIfInBounds_toArray, List.set_cons_zero, List.set_cons_succ]
  refine wpAnyH_take (i := 11) (oi := { dst := Option.some 75, op := Go.Op.binOp Go.BinOp.add 9 (Go.Operand.tmp 69) (Go.Operand.tmp 74) 9, type := 9, pos := "lines.go:92", after := #[{ on := 5, ground := Go.Ground.data }, { on := 10, ground := Go.Ground.data }], guard := Option.none }) (v := .string B11) rfl (by kernel_rfl) (by kernel_rfl) (by kernel_rfl) (fun _ _ _ h => h) (Or.inl ⟨by rfl, ?_⟩) (by assumption) ?_
  · (intro w hSw; (try dsimp only at hSw); go_simp)
  try simp only [Act.put, List.setIfInBounds_toArray, List.set_cons_zero, List.set_cons_succ]
  refine wpAnyH_take (i := 12) (oi := { dst := Option.some 76, op := Go.Op.binOp Go.BinOp.add 9 (Go.Operand.tmp 75) (Go.Operand.const (Go.Value.string { data := #[32] })) 9, type := 9, pos := "lines.go:92", after := #[{ on := 11, ground := Go.Ground.data }], guard := Option.none }) (v := .string B12) rfl (by kernel_rfl) (by kernel_rfl) (by kernel_rfl) (fun _ _ _ h => h) (Or.inl ⟨by rfl, ?_⟩) (by assumption) ?_
  · (intro w hSw; (try dsimp only at hSw); go_simp)
  try simp only [Act.put, List.setIfInBounds_toArray, List.set_cons_zero, List.set_cons_succ]
  refine wpAnyH_ready (rs := [17]) (by kernel_rfl) (by simp) ?_
  refine AllReadyH.cons (o := { dst := Option.some 81, op := Go.Op.call { callee := Go.Callee.value (Go.Operand.func 86), args := #[Go.Operand.tmp 80, Go.Operand.const (Go.Value.int Go.IntKind.i64 10)], argTypes := #[26, 3] }, type := 9, pos := "lines.go:92", after := #[{ on := 16, ground := Go.Ground.data }, { on := 10, ground := Go.Ground.chain }], guard := Option.none }) rfl (fun K hK => ?_) AllReadyH.nil
  go_simp
  refine (HHi.out _ HS).mono ?_
  rintro z wa ⟨rfl, hB'⟩
  replace HS := HS.trans (hB'.mono HS.size)
  clear hB'
  refine hK.out _ _ ?_ (fun hHeld => ?_)
  · exact ⟨HS, (HS.cell ht1).trans xt, (HS.cell hb1).trans x1, (HS.cell hb1).trans x12, (HS.cell hb1).trans x13⟩
  clear hK K
  try simp only [Act.put, List.setIfInBounds_toArray, List.set_cons_zero, List.set_cons_succ]
  refine wpAnyH_take (i := 18) (oi := { dst := Option.some 82, op := Go.Op.binOp Go.BinOp.add 9 (Go.Operand.tmp 76) (Go.Operand.tmp 81) 9, type := 9, pos := "lines.go:92", after := #[{ on := 12, ground := Go.Ground.data }, { on := 17, ground := Go.Ground.data }], guard := Option.none }) (v := .string B18) rfl (by kernel_rfl) (by kernel_rfl) (by kernel_rfl) (fun _ _ _ h => h) (Or.inl ⟨by rfl, ?_⟩) (by assumption) ?_
  · (intro w hSw; (try dsimp only at hSw); go_simp)
  try simp only [Act.put, List.setIfInBounds_toArray, List.set_cons_zero, List.set_cons_succ]
  refine wpAnyH_take (i := 19) (oi := { dst := Option.some 83, op := Go.Op.binOp Go.BinOp.add 9 (Go.Operand.tmp 82) (Go.Operand.const (Go.Value.string { data := #[32, 123] })) 9, type := 9, pos := "lines.go:92", after := #[{ on := 18, ground := Go.Ground.data }], guard := Option.none }) (v := .string B19) rfl (by kernel_rfl) (by kernel_rfl) (by kernel_rfl) (fun _ _ _ h => h) (Or.inl ⟨by rfl, ?_⟩) (by assumption) ?_
  · (intro w hSw; (try dsimp only at hSw); go_simp)
  try simp only [Act.put, List.setIfInBounds_toArray, List.set_cons_zero, List.set_cons_succ]
  refine wpAnyH_take (i := 20) (oi := { dst := Option.some 4, op := Go.Op.assign (Go.Operand.tmp 83), type := 9, pos := "lines.go:92", after := #[{ on := 19, ground := Go.Ground.data }, { on := 17, ground := Go.Ground.chain }, { on := 0, ground := Go.Ground.phase }, { on := 1, ground := Go.Ground.phase }, { on := 2, ground := Go.Ground.phase }, { on := 3, ground := Go.Ground.phase }, { on := 4, ground := Go.Ground.phase }, { on := 5, ground := Go.Ground.phase }, { on := 6, ground := Go.Ground.phase }, { on := 7, ground := Go.Ground.phase }, { on := 8, ground := Go.Ground.phase }, { on := 9, ground := Go.Ground.phase }, { on := 10, ground := Go.Ground.phase }, { on := 11, ground := Go.Ground.phase }, { on := 12, ground := Go.Ground.phase }, { on := 13, ground := Go.Ground.phase }, { on := 14, ground := Go.Ground.phase }, { on := 15, ground := Go.Ground.phase }, { on := 16, ground := Go.Ground.phase }, { on := 17, ground := Go.Ground.phase }, { on := 18, ground := Go.Ground.phase }, { on := 19, ground := Go.Ground.phase }], guard := Option.none }) (v := ?_) rfl (by kernel_rfl) (by kernel_rfl) (by kernel_rfl) (fun _ _ _ h => h) (Or.inl ⟨by rfl, ?_⟩) (by assumption) ?_
  rotate_left
  · (intro w hSw; (try dsimp only at hSw); go_simp; try with_reducible rfl)
  try simp only [Act.put, List.setIfInBounds_toArray, List.set_cons_zero, List.set_cons_succ]
  refine wpAnyH_done (by kernel_rfl) ?_ _
  have HE := Lib.hid (HB1.out.trans (HS.mono HB1.out.size))
  go_wp2_with fail
  go_ret
  exact ⟨ret_strE HF.out.symm, HE.out⟩
set_option maxRecDepth 100000 in
set_option maxHeartbeats 6400000 in
theorem first_2 (nm : List UInt8) (ns : List (List UInt8)) (e a : Ex) (g : Exs) (lo hi : Nat) (bd el : Sts) (he : e.may = true) (ha : a.may = true) (b o m : Nat) (w : World) (hb : b < w.heap.size) (hx : (St.mk 2 nm ns e a g lo hi bd el).At w w.heap.size b o) (hmp : w.heap[m]? = some (fmap signT)) (hG : Glob w) (hl : (St.mk 2 nm ns e a g lo hi bd el).first.length ≤ 1000000) :
    Calls Tryd.prog 75 #[.agg #[.map (some m)], .pointer (some ⟨b, o, none⟩)] w fun z w' => z = .returned (.string (str (St.mk 2 nm ns e a g lo hi bd el).first)) ∧ Below w.heap.size w w' := by
  have ht : (St.mk 2 nm ns e a g lo hi bd el).first = (((nm ++ [91] ++ a.text ++ [93]) ++ [32, 61, 32]) ++ e.text) ++ [59] := by rw [← first_eq, firstT, if_neg (by decide), if_pos rfl]
  have hlen : nm.length + a.text.length + e.text.length ≤ 1000000 := by rw [ht] at hl; simp only [List.length_append, List.length_cons, List.length_nil] at hl; omega
  obtain ⟨W1, hW1⟩ : ∃ W1, w.alloc (.cells #[.map (some m)] 58) = W1 := ⟨_, rfl⟩
  have hB1 : Below w.heap.size w W1 := by rw [← hW1]; exact (Below.refl _ _).alloc (Nat.le_refl _) _
  have hz1 : W1.heap.size = w.heap.size + 1 := by rw [← hW1]; simp
  have xt : W1.cell? ⟨w.heap.size, 0, none⟩ = some (.map (some m)) := cell_block (show W1.heap[w.heap.size]? = some (.cells #[.map (some m)] 58 (0, 0)) by rw [← hW1]; exact heap_alloc_new w _) rfl
  obtain ⟨y0, y1, ye, ya, ⟨pn, cn, y2, hcn, sn⟩, ⟨pg, cg, y11, sg⟩, y12, y13, hlo, hhi, _, _⟩ := hx.parts
  have x0 := (hB1.cell hb).trans y0
  have x1 := (hB1.cell hb).trans y1
  have x2 := (hB1.cell hb).trans y2
  have x11 := (hB1.cell hb).trans y11
  have x12 := (hB1.cell hb).trans y12
  have x13 := (hB1.cell hb).trans y13
  have hmp1 := (hB1.block m (lt_of_block hmp)).trans hmp
  have hb1 : b < W1.heap.size := by omega
  have ht1 : w.heap.size < W1.heap.size := by omega
  have hG1 := hG.later hB1
  have HB1 := Lib.hid hB1
  have HTe := Lib.hid (fun (w1 : World) (hB : Below W1.heap.size W1 w1) => exprText_any e he b (o + 3) m w1 (Nat.lt_of_lt_of_le hb1 hB.size) (Ex.At.later ((hB1.trans (hB.mono hB1.size))) (Nat.le_trans hB1.size hB.size) e b (o + 3) hb ye) ((hB.block m (lt_of_block hmp1)).trans hmp1) (hG1.later hB) (by omega))
  have hE1 : TEnv W1.heap.size m W1.drew := ⟨hmp1, lt_of_block hmp1, fun w2 h2 => hG1 w2 ((Below.refl _ _).drew.trans h2), Nat.le_refl _⟩
  have HPl := Lib.hid (place_step _ (tell_to _) a (Nat.lt_succ_self _) ha nm b (o + 7) W1.heap.size W1.heap.size m (.slice none 0 0) [] W1.drew hb1 (Nat.le_refl _) (Ex.At.later (hB1.drew) hB1.size a b (o + 7) hb ya) hE1 (BRow.nil _ _) (by simp only [List.length_append, List.length_cons, List.length_nil]; omega))
  rw [List.nil_append] at HPl
  obtain ⟨NM, hNM⟩ : ∃ A, A = str (nm) := ⟨_, rfl⟩
  obtain ⟨A0, hA0⟩ : ∃ A, A = str (e.text) := ⟨_, rfl⟩
  obtain ⟨PT, hPT⟩ : ∃ A, A = str (nm ++ [91] ++ a.text ++ [93]) := ⟨_, rfl⟩
  rw [← hNM] at x1 HPl
  rw [← hA0] at HTe
  obtain ⟨B10, hB10⟩ : ∃ B, B = str ((nm ++ [91] ++ a.text ++ [93]) ++ [32, 61, 32]) := ⟨_, rfl⟩
  obtain ⟨B16, hB16⟩ : ∃ B, B = str (((nm ++ [91] ++ a.text ++ [93]) ++ [32, 61, 32]) ++ e.text) := ⟨_, rfl⟩
  obtain ⟨B17, hB17⟩ : ∃ B, B = str ((((nm ++ [91] ++ a.text ++ [93]) ++ [32, 61, 32]) ++ e.text) ++ [59]) := ⟨_, rfl⟩
  have qB10 : ∀ w : World, (Op.stringOp .add PT ⟨#[32, 61, 32]⟩).run Tryd.prog w = .ok (.string B10) w := fun w => by
    (try rw [hB10]); (try rw [hPT]); exact add_str ((nm ++ [91] ++ a.text ++ [93])) ([32, 61, 32]) (by simp only [List.length_append, List.length_cons, List.length_nil] at hlen ⊢; omega) w
  have qB16 : ∀ w : World, (Op.stringOp .add B10 A0).run Tryd.prog w = .ok (.string B16) w := fun w => by
    (try rw [hB16]); (try rw [hB10]); (try rw [hA0]); exact add_str (((nm ++ [91] ++ a.text ++ [93]) ++ [32, 61, 32])) (e.text) (by simp only [List.length_append, List.length_cons, List.length_nil] at hlen ⊢; omega) w
  have qB17 : ∀ w : World, (Op.stringOp .add B16 ⟨#[59]⟩).run Tryd.prog w = .ok (.string B17) w := fun w => by
    (try rw [hB17]); (try rw [hB16]); exact add_str ((((nm ++ [91] ++ a.text ++ [93]) ++ [32, 61, 32]) ++ e.text)) ([59]) (by simp only [List.length_append, List.length_cons, List.length_nil] at hlen ⊢; omega) w
  have HF := Lib.hid (show str (St.mk 2 nm ns e a g lo hi bd el).first = B17 by rw [ht, hB17])
  have HPT := Lib.hid hPT
  clear hNM hA0 hPT hB10 hB16 hB17 hl ht hx y0 y1 y2 y11 y12 y13 ye ya sn sg hG hG1 hmp hmp1 hB1 hlo hhi hE1 x2 x11 x12 x13
  go_enter Tryd.func75, Tryd.ntmps75
  go_wp2_with fail
  clear hW1 x0
  have HS : Below W1.heap.size W1 W1.drew := (Below.refl _ _).drew
  refine wp_region_held_drew (S := fun W => Below W1.heap.size W1 W ∧ W.cell? ⟨w.heap.size, 0, none⟩ = some (.map (some m)) ∧ W.cell? ⟨b, o + 1, none⟩ = some (.string NM)) (by kernel_rfl) ?_ (fun hHeld => ?_)
  · exact ⟨HS, (HS.cell ht1).trans xt, (HS.cell hb1).trans x1⟩
  refine wpAnyH_take (i := 0) (oi := { dst := Option.some 26, op := Go.Op.load 58 (Go.Operand.tmp 2), type := 58, pos := "lines.go:86", after := #[], guard := Option.none }) (v := ?_) rfl (by kernel_rfl) (by kernel_rfl) (by kernel_rfl) (fun _ _ _ h => h) (Or.inl ⟨by rfl, ?_⟩) (by assumption) ?_
  rotate_left
  · (intro w hSw; (try dsimp only at hSw); go_simp; try with_reducible rfl)
  try simp only [Act.put, List.setIfInBounds_toArray, List.set_cons_zero, List.set_cons_succ]
  refine wpAnyH_take (i := 1) (oi := { dst := Option.some 27, op := Go.Op.move (Go.Operand.tmp 1), type := 110, pos := "lines.go:86", after := #[], guard := Option.none }) (v := ?_) rfl (by kernel_rfl) (by kernel_rfl) (by kernel_rfl) (fun _ _ _ h => h) (Or.inl ⟨by rfl, ?_⟩) (by assumption) ?_
  rotate_left
  · (intro w hSw; (try dsimp only at hSw); go_simp; try with_reducible rfl)
  try simp only [Act.put, List.setIfInBounds_toArray, List.set_cons_zero, List.set_cons_succ]
  refine wpAnyH_take (i := 2) (oi := { dst := Option.some 28, op := Go.Op.nilCheck (Go.Operand.tmp 27), type := 0, pos := "lines.go:86", after := #[{ on := 1, ground := Go.Ground.data }], guard := Option.none }) (v := ?_) rfl (by kernel_rfl) (by kernel_rfl) (by kernel_rfl) (fun _ _ _ h => h) (Or.inl ⟨by rfl, ?_⟩) (by assumption) ?_
  rotate_left
  · (intro w hSw; (try dsimp only at hSw); go_simp; try with_reducible rfl)
  try simp only [Act.put, List.setIfInBounds_toArray, List.set_cons_zero, List.set_cons_succ]
  refine wpAnyH_take (i := 3) (oi := { dst := Option.some 29, op := Go.Op.fieldAddr 35 (Go.Operand.tmp 28) 1, type := 0, pos := "lines.go:86", after := #[{ on := 2, ground := Go.Ground.data }], guard := Option.none }) (v := ?_) rfl (by kernel_rfl) (by kernel_rfl) (by kernel_rfl) (fun _ _ _ h => h) (Or.inl ⟨by rfl, ?_⟩) (by assumption) ?_
  rotate_left
  · (intro w hSw; (try dsimp only at hSw); go_simp; try with_reducible rfl)
  try simp only [Act.put, List.setIfInBounds_toArray, List.set_cons_zero, List.set_cons_succ]
  refine wpAnyH_take (i := 4) (oi := { dst := Option.some 30, op := Go.Op.load 9 (Go.Operand.tmp 29), type := 9, pos := "lines.go:86", after := #[{ on := 3, ground := Go.Ground.data }], guard := Option.none }) (v := ?_) rfl (by kernel_rfl) (by kernel_rfl) (by kernel_rfl) (fun _ _ _ h => h) (Or.inl ⟨by rfl, ?_⟩) (by assumption) ?_
  rotate_left
  · (intro w hSw; (try dsimp only at hSw); go_simp; try with_reducible rfl)
  try simp only [Act.put, List.setIfInBounds_toArray, List.set_cons_zero, List.set_cons_succ]
  refine wpAnyH_take (i := 5) (oi := { dst := Option.some 31, op := Go.Op.move (Go.Operand.tmp 1), type := 110, pos := "lines.go:86", after := #[], guard := Option.none }) (v := ?_) rfl (by kernel_rfl) (by kernel_rfl) (by kernel_rfl) (fun _ _ _ h => h) (Or.inl ⟨by rfl, ?_⟩) (by assumption) ?_
  rotate_left
  · (intro w hSw; (try dsimp only at hSw); go_simp; try with_reducible rfl)
  try simp only [Act.put, List.setIfInBounds_toArray, List.set_cons_zero, List.set_cons_succ]
  refine wpAnyH_take (i := 6) (oi := { dst := Option.some 32, op := Go.Op.nilCheck (Go.Operand.tmp 31), type := 0, pos := "lines.go:86", after := #[{ on := 5, ground := Go.Ground.data }], guard := Option.none }) (v := ?_) rfl (by kernel_rfl) (by kernel_rfl) (by kernel_rfl) (fun _ _ _ h => h) (Or.inl ⟨by rfl, ?_⟩) (by assumption) ?_
  rotate_left
  · (intro w hSw; (try dsimp only at hSw); go_simp; try with_reducible rfl)
  try simp only [Act.put, List.setIfInBounds_toArray, List.set_cons_zero, List.set_cons_succ]
  refine wpAnyH_take (i := 7) (oi := { dst := Option.some 33, op := Go.Op.fieldAddr 35 (Go.Operand.tmp 32) 4, type := 0, pos := "lines.go:86", after := #[{ on := 6, ground := Go.Ground.data }], guard := Option.none }) (v := ?_) rfl (by kernel_rfl) (by kernel_rfl) (by kernel_rfl) (fun _ _ _ h => h) (Or.inl ⟨by rfl, ?_⟩) (by assumption) ?_
  rotate_left
  · (intro w hSw; (try dsimp only at hSw); go_simp; try with_reducible rfl)
  try simp only [Act.put, List.setIfInBounds_toArray, List.set_cons_zero, List.set_cons_succ]
  refine wpAnyH_take (i := 11) (oi := { dst := Option.some 37, op := Go.Op.load 58 (Go.Operand.tmp 2), type := 58, pos := "lines.go:86", after := #[], guard := Option.none }) (v := ?_) rfl (by kernel_rfl) (by kernel_rfl) (by kernel_rfl) (fun _ _ _ h => h) (Or.inl ⟨by rfl, ?_⟩) (by assumption) ?_
  rotate_left
  · (intro w hSw; (try dsimp only at hSw); go_simp; try with_reducible rfl)
  try simp only [Act.put, List.setIfInBounds_toArray, List.set_cons_zero, List.set_cons_succ]
  refine wpAnyH_take (i := 12) (oi := { dst := Option.some 38, op := Go.Op.move (Go.Operand.tmp 1), type := 110, pos := "lines.go:86", after := #[], guard := Option.none }) (v := ?_) rfl (by kernel_rfl) (by kernel_rfl) (by kernel_rfl) (fun _ _ _ h => h) (Or.inl ⟨by rfl, ?_⟩) (by assumption) ?_
  rotate_left
  · (intro w hSw; (try dsimp only at hSw); go_simp; try with_reducible rfl)
  try simp only [Act.put, List.setIfInBounds_toArray, List.set_cons_zero, List.set_cons_succ]
  refine wpAnyH_take (i := 13) (oi := { dst := Option.some 39, op := Go.Op.nilCheck (Go.Operand.tmp 38), type := 0, pos := "lines.go:86", after := #[{ on := 12, ground := Go.Ground.data }], guard := Option.none }) (v := ?_) rfl (by kernel_rfl) (by kernel_rfl) (by kernel_rfl) (fun _ _ _ h => h) (Or.inl ⟨by rfl, ?_⟩) (by assumption) ?_
  rotate_left
  · (intro w hSw; (try dsimp only at hSw); go_simp; try with_reducible rfl)
  try simp only [Act.put, List.setIfInBounds_toArray, List.set_cons_zero, List.set_cons_succ]
  refine wpAnyH_take (i := 14) (oi := { dst := Option.some 40, op := Go.Op.fieldAddr 35 (Go.Operand.tmp 39) 3, type := 0, pos := "lines.go:86", after := #[{ on := 13, ground := Go.Ground.data }], guard := Option.none }) (v := ?_) rfl (by kernel_rfl) (by kernel_rfl) (by kernel_rfl) (fun _ _ _ h => h) (Or.inl ⟨by rfl, ?_⟩) (by assumption) ?_
  rotate_left
  · (intro w hSw; (try dsimp only at hSw); go_simp; try with_reducible rfl)
  try simp only [Act.put, List.setIfInBounds_toArray, List.set_cons_zero, List.set_cons_succ]
  refine wpAnyH_ready (rs := [8]) (by kernel_rfl) (by simp) ?_
  refine AllReadyH.cons (o := { dst := Option.some 34, op := Go.Op.call { callee := Go.Callee.value (Go.Operand.func 60), args := #[Go.Operand.tmp 26, Go.Operand.const (Go.Value.slice Option.none 0 0), Go.Operand.tmp 30, Go.Operand.tmp 33], argTypes := #[58, 64, 9, 61] }, type := 64, pos := "lines.go:86", after := #[{ on := 0, ground := Go.Ground.data }, { on := 4, ground := Go.Ground.data }, { on := 7, ground := Go.Ground.data }], guard := Option.none }) rfl (fun K hK => ?_) AllReadyH.nil
  go_simp
  refine HPl.out.mono ?_
  rintro z wa ⟨⟨v, rfl, hR⟩, hF'⟩
  have HR := Lib.hid hR
  have HW := Lib.hid (show W1.heap.size ≤ wa.heap.size from hF'.1.size)
  replace HS := HS.trans hF'.1
  clear hR hF'
  refine hK.out _ _ ?_ (fun hHeld => ?_)
  · exact ⟨HS, (HS.cell ht1).trans xt, (HS.cell hb1).trans x1⟩
  clear hK K
  try simp only [Act.put, List.setIfInBounds_toArray, List.set_cons_zero, List.set_cons_succ]
  refine wpAnyH_ready (rs := [9, 15]) (by kernel_rfl) (by simp) ?_
  refine AllReadyH.cons (o := { dst := Option.some 35, op := Go.Op.convert 64 9 (Go.Operand.tmp 34), type := 9, pos := "lines.go:86", after := #[{ on := 8, ground := Go.Ground.data }], guard := Option.none }) rfl (fun K hK => ?_) (AllReadyH.cons (o := { dst := Option.some 41, op := Go.Op.call { callee := Go.Callee.value (Go.Operand.func 17), args := #[Go.Operand.tmp 37, Go.Operand.tmp 40], argTypes := #[58, 61] }, type := 9, pos := "lines.go:86", after := #[{ on := 11, ground := Go.Ground.data }, { on := 14, ground := Go.Ground.data }, { on := 8, ground := Go.Ground.chain }], guard := Option.none }) rfl (fun K hK => ?_) AllReadyH.nil)
  · go_simp
    have hcv := BRow.conv HR.out
    rw [← HPT.out] at hcv
    go_simp
    refine hK.out _ _ ?_ (fun hHeld => ?_)
    · exact ⟨HS, (HS.cell ht1).trans xt, (HS.cell hb1).trans x1⟩
    clear hK K
    try simp only [Act.put, List.setIfInBounds_toArray, List.set_cons_zero, List.set_cons_succ]
    refine wpAnyH_take (i := 10) (oi := { dst := Option.some 36, op := Go.Op.binOp Go.BinOp.add 9 (Go.Operand.tmp 35) (Go.Operand.const (Go.Value.string { data := #[32, 61, 32] })) 9, type := 9, pos := "lines.go:86", after := #[{ on := 9, ground := Go.Ground.data }], guard := Option.none }) (v := .string B10) rfl (by kernel_rfl) (by kernel_rfl) (by kernel_rfl) (fun _ _ _ h => h) (Or.inl ⟨by rfl, ?_⟩) (by assumption) ?_
    · (intro w hSw; (try dsimp only at hSw); go_simp)
    try simp only [Act.put, List.setIfInBounds_toArray, List.set_cons_zero, List.set_cons_succ]
    refine wpAnyH_ready (rs := [15]) (by kernel_rfl) (by simp) ?_
    refine AllReadyH.cons (o := { dst := Option.some 41, op := Go.Op.call { callee := Go.Callee.value (Go.Operand.func 17), args := #[Go.Operand.tmp 37, Go.Operand.tmp 40], argTypes := #[58, 61] }, type := 9, pos := "lines.go:86", after := #[{ on := 11, ground := Go.Ground.data }, { on := 14, ground := Go.Ground.data }, { on := 8, ground := Go.Ground.chain }], guard := Option.none }) rfl (fun K hK => ?_) AllReadyH.nil
    go_simp
    refine (HTe.out _ HS).mono ?_
    rintro z wa ⟨rfl, hB'⟩
    replace HS := HS.trans (hB'.mono HS.size)
    clear hB'
    refine hK.out _ _ ?_ (fun hHeld => ?_)
    · exact ⟨HS, (HS.cell ht1).trans xt, (HS.cell hb1).trans x1⟩
    clear hK K
    try simp only [Act.put, List.setIfInBounds_toArray, List.set_cons_zero, List.set_cons_succ]
    refine wpAnyH_take (i := 16) (oi := { dst := Option.some 42, op := Go.Op.binOp Go.BinOp.add 9 (Go.Operand.tmp 36) (Go.Operand.tmp 41) 9, type := 9, pos := "lines.go:86", after := #[{ on := 10, ground := Go.Ground.data }, { on := 15, ground := Go.Ground.data }], guard := Option.none }) (v := .string B16) rfl (by kernel_rfl) (by kernel_rfl) (by kernel_rfl) (fun _ _ _ h => h) (Or.inl ⟨by rfl, ?_⟩) (by assumption) ?_
    · (intro w hSw; (try dsimp only at hSw); go_simp)
    try simp only [Act.put, List.setIfInBounds_toArray, List.set_cons_zero, List.set_cons_succ]
    refine wpAnyH_take (i := 17) (oi := { dst := Option.some 43, op := Go.Op.binOp Go.BinOp.add 9 (Go.Operand.tmp 42) (Go.Operand.const (Go.Value.string { data := #[59] })) 9, type := 9, pos := "lines.go:86", after := #[{ on := 16, ground := Go.Ground.data }], guard := Option.none }) (v := .string B17) rfl (by kernel_rfl) (by kernel_rfl) (by kernel_rfl) (fun _ _ _ h => h) (Or.inl ⟨by rfl, ?_⟩) (by assumption) ?_
    · (intro w hSw; (try dsimp only at hSw); go_simp)
    try simp only [Act.put, List.setIfInBounds_toArray, List.set_cons_zero, List.set_cons_succ]
    refine wpAnyH_take (i := 18) (oi := { dst := Option.some 4, op := Go.Op.assign (Go.Operand.tmp 43), type := 9, pos := "lines.go:86", after := #[{ on := 17, ground := Go.Ground.data }, { on := 15, ground := Go.Ground.chain }, { on := 0, ground := Go.Ground.phase }, { on := 1, ground := Go.Ground.phase }, { on := 2, ground := Go.Ground.phase }, { on := 3, ground := Go.Ground.phase }, { on := 4, ground := Go.Ground.phase }, { on := 5, ground := Go.Ground.phase }, { on := 6, ground := Go.Ground.phase }, { on := 7, ground := Go.Ground.phase }, { on := 8, ground := Go.Ground.phase }, { on := 9, ground := Go.Ground.phase }, { on := 10, ground := Go.Ground.phase }, { on := 11, ground := Go.Ground.phase }, { on := 12, ground := Go.Ground.phase }, { on := 13, ground := Go.Ground.phase }, { on := 14, ground := Go.Ground.phase }, { on := 15, ground := Go.Ground.phase }, { on := 16, ground := Go.Ground.phase }, { on := 17, ground := Go.Ground.phase }], guard := Option.none }) (v := ?_) rfl (by kernel_rfl) (by kernel_rfl) (by kernel_rfl) (fun _ _ _ h => h) (Or.inl ⟨by rfl, ?_⟩) (by assumption) ?_
    rotate_left
    · (intro w hSw; (try dsimp only at hSw); go_simp; try with_reducible rfl)
    try simp only [Act.put, List.setIfInBounds_toArray, List.set_cons_zero, List.set_cons_succ]
    refine wpAnyH_done (by kernel_rfl) ?_ _
    have HE := Lib.hid (HB1.out.trans (HS.mono HB1.out.size))
    go_wp2_with fail
    go_ret
    exact ⟨ret_strE HF.out.symm, HE.out⟩
  · go_simp
    refine (HTe.out _ HS).mono ?_
    rintro z wb ⟨rfl, hB'⟩
    replace HR := Lib.hid (HR.out.later hB')
    replace HS := HS.trans (hB'.mono HS.size)
    clear hB'
    refine hK.out _ _ ?_ (fun hHeld => ?_)
    · exact ⟨HS, (HS.cell ht1).trans xt, (HS.cell hb1).trans x1⟩
    clear hK K
    try simp only [Act.put, List.setIfInBounds_toArray, List.set_cons_zero, List.set_cons_succ]
    refine wpAnyH_ready (rs := [9]) (by kernel_rfl) (by simp) ?_
    refine AllReadyH.cons (o := { dst := Option.some 35, op := Go.Op.convert 64 9 (Go.Operand.tmp 34), type := 9, pos := "lines.go:86", after := #[{ on := 8, ground := Go.Ground.data }], guard := Option.none }) rfl (fun K hK => ?_) AllReadyH.nil
    go_simp
    have hcv := BRow.conv HR.out
    rw [← HPT.out] at hcv
    go_simp
    refine hK.out _ _ ?_ (fun hHeld => ?_)
    · exact ⟨HS, (HS.cell ht1).trans xt, (HS.cell hb1).trans x1⟩
    clear hK K
    try simp only [Act.put, List.setIfInBounds_toArray, List.set_cons_zero, List.set_cons_succ]
    refine wpAnyH_take (i := 10) (oi := { dst := Option.some 36, op := Go.Op.binOp Go.BinOp.add 9 (Go.Operand.tmp 35) (Go.Operand.const (Go.Value.string { data := #[32, 61, 32] })) 9, type := 9, pos := "lines.go:86", after := #[{ on := 9, ground := Go.Ground.data }], guard := Option.none }) (v := .string B10) rfl (by kernel_rfl) (by kernel_rfl) (by kernel_rfl) (fun _ _ _ h => h) (Or.inl ⟨by rfl, ?_⟩) (by assumption) ?_
    · (intro w hSw; (try dsimp only at hSw); go_simp)
    try simp only [Act.put, List.setIfInBounds_toArray, List.set_cons_zero, List.set_cons_succ]
    refine wpAnyH_take (i := 16) (oi := { dst := Option.some 42, op := Go.Op.binOp Go.BinOp.add 9 (Go.Operand.tmp 36) (Go.Operand.tmp 41) 9, type := 9, pos := "lines.go:86", after := #[{ on := 10, ground := Go.Ground.data }, { on := 15, ground := Go.Ground.data }], guard := Option.none }) (v := .string B16) rfl (by kernel_rfl) (by kernel_rfl) (by kernel_rfl) (fun _ _ _ h => h) (Or.inl ⟨by rfl, ?_⟩) (by assumption) ?_
    · (intro w hSw; (try dsimp only at hSw); go_simp)
    try simp only [Act.put, List.setIfInBounds_toArray, List.set_cons_zero, List.set_cons_succ]
    refine wpAnyH_take (i := 17) (oi := { dst := Option.some 43, op := Go.Op.binOp Go.BinOp.add 9 (Go.Operand.tmp 42) (Go.Operand.const (Go.Value.string { data := #[59] })) 9, type := 9, pos := "lines.go:86", after := #[{ on := 16, ground := Go.Ground.data }], guard := Option.none }) (v := .string B17) rfl (by kernel_rfl) (by kernel_rfl) (by kernel_rfl) (fun _ _ _ h => h) (Or.inl ⟨by rfl, ?_⟩) (by assumption) ?_
    · (intro w hSw; (try dsimp only at hSw); go_simp)
    try simp only [Act.put, List.setIfInBounds_toArray, List.set_cons_zero, List.set_cons_succ]
    refine wpAnyH_take (i := 18) (oi := { dst := Option.some 4, op := Go.Op.assign (Go.Operand.tmp 43), type := 9, pos := "lines.go:86", after := #[{ on := 17, ground := Go.Ground.data }, { on := 15, ground := Go.Ground.chain }, { on := 0, ground := Go.Ground.phase }, { on := 1, ground := Go.Ground.phase }, { on := 2, ground := Go.Ground.phase }, { on := 3, ground := Go.Ground.phase }, { on := 4, ground := Go.Ground.phase }, { on := 5, ground := Go.Ground.phase }, { on := 6, ground := Go.Ground.phase }, { on := 7, ground := Go.Ground.phase }, { on := 8, ground := Go.Ground.phase }, { on := 9, ground := Go.Ground.phase }, { on := 10, ground := Go.Ground.phase }, { on := 11, ground := Go.Ground.phase }, { on := 12, ground := Go.Ground.phase }, { on := 13, ground := Go.Ground.phase }, { on := 14, ground := Go.Ground.phase }, { on := 15, ground := Go.Ground.phase }, { on := 16, ground := Go.Ground.phase }, { on := 17, ground := Go.Ground.phase }], guard := Option.none }) (v := ?_) rfl (by kernel_rfl) (by kernel_rfl) (by kernel_rfl) (fun _ _ _ h => h) (Or.inl ⟨by rfl, ?_⟩) (by assumption) ?_
    rotate_left
    · (intro w hSw; (try dsimp only at hSw); go_simp; try with_reducible rfl)
    try simp only [Act.put, List.setIfInBounds_toArray, List.set_cons_zero, List.set_cons_succ]
    refine wpAnyH_done (by kernel_rfl) ?_ _
    have HE := Lib.hid (HB1.out.trans (HS.mono HB1.out.size))
    go_wp2_with fail
    go_ret
    exact ⟨ret_strE HF.out.symm, HE.out⟩
end Go.Proofs.YtkjhofnkgcjcoaaDoor
