/- A region's line; a variable's line. -/
import Derived.Test.YtkjhofnkgcjcoaaDoorP20
import Derived.Test.YtkjhofnkgcjcoaaDoorP27
namespace Go.Proofs.YtkjhofnkgcjcoaaDoor
open Go.RowKit

theorem secret_any (s : Bool) (w : World) : Calls Tryd.prog 63 #[.bool s] w fun e w' => e = .returned (.string (str (secT s))) ∧ w = w' := by
  cases s
  · go_enter Tryd.func63, Tryd.ntmps63
    go_wp2_with fail
    go_ret
    exact ⟨rfl, rfl⟩
  · go_enter Tryd.func63, Tryd.ntmps63
    go_wp2_with fail
    go_ret
    exact ⟨rfl, rfl⟩
theorem itoa_any (n : Int) (h0 : 0 ≤ n) (h1 : n ≤ 9223372036854775807) (w : World) (hG : Glob w) : Calls Tryd.prog 62 #[.int .i64 n] w fun e w' => e = .returned (.string (str (Lib.decDigits n.toNat))) ∧ Below w.heap.size w w' := by
  refine (Tryd.strconv_Itoa n (by omega) h1 w hG.here).mono ?_
  rintro e w' ⟨rfl, k, os, rfl⟩
  refine ⟨?_, Lib.below_grow w.heap.size w (Nat.le_refl _) k os⟩
  have : Lib.itoa n = Lib.decDigits n.toNat := by unfold Lib.itoa; rw [if_neg (by omega)]
  rw [this]; rfl

set_option maxRecDepth 100000 in
set_option maxHeartbeats 6400000 in
theorem regionLine_any (x : Rgn) (hm : x.may = true) (hf : x.fit) (w : World) (hG : Glob w) (hl : x.line.length ≤ 1000000) :
    Calls Tryd.prog 40 #[.agg #[.string (str x.name), .int .i64 x.addr, .int .i64 x.size, .bool x.secret]] w fun z w' => z = .returned (.string (str x.line)) ∧ Below w.heap.size w w' := by
  obtain ⟨nm, ad, sz, sc⟩ := x
  unfold Rgn.may at hm
  simp only [Bool.and_eq_true, decide_eq_true_eq] at hm
  obtain ⟨_, had, hsz⟩ := hm
  obtain ⟨⟨_, hau⟩, _, hsu⟩ := hf
  have ht : (Rgn.mk nm ad sz sc).line = (((((([114, 101, 103, 105, 111, 110, 32] ++ nm) ++ [32]) ++ Lib.decDigits ad.toNat) ++ [32]) ++ Lib.decDigits sz.toNat) ++ secT sc) ++ [59] := rfl
  have hlen : nm.length + (Lib.decDigits ad.toNat).length + (Lib.decDigits sz.toNat).length + (secT sc).length ≤ 1000000 := by rw [ht] at hl; simp only [List.length_append, List.length_cons, List.length_nil] at hl; omega
  obtain ⟨W1, hW1⟩ : ∃ W1, w.alloc (.cells #[.string (str nm), .int .i64 ad, .int .i64 sz, .bool sc] 81) = W1 := ⟨_, rfl⟩
  have hB1 : Below w.heap.size w W1 := by rw [← hW1]; exact (Below.refl _ _).alloc (Nat.le_refl _) _
  have hz1 : W1.heap.size = w.heap.size + 1 := by rw [← hW1]; simp
  have hk : W1.heap[w.heap.size]? = some (.cells #[.string (str nm), .int .i64 ad, .int .i64 sz, .bool sc] 81 (0, 0)) := by rw [← hW1]; exact heap_alloc_new w _
  have ht1 : w.heap.size < W1.heap.size := by omega
  have hG1 := hG.later hB1
  have HB1 := Lib.hid hB1
  have HAd := Lib.hid (fun (w1 : World) (hB : Below W1.heap.size W1 w1) => itoa_any ad had hau w1 (hG1.later hB))
  have HSz := Lib.hid (fun (w1 : World) (hB : Below W1.heap.size W1 w1) => itoa_any sz hsz hsu w1 (hG1.later hB))
  obtain ⟨NM, hNM⟩ : ∃ A, A = str (nm) := ⟨_, rfl⟩
  obtain ⟨A0, hA0⟩ : ∃ A, A = str (Lib.decDigits ad.toNat) := ⟨_, rfl⟩
  obtain ⟨A1, hA1⟩ : ∃ A, A = str (Lib.decDigits sz.toNat) := ⟨_, rfl⟩
  obtain ⟨A2, hA2⟩ : ∃ A, A = str (secT sc) := ⟨_, rfl⟩
  have HSc : ∀ w : World, Calls Tryd.prog 63 #[.bool sc] w fun e w' => e = .returned (.string A2) ∧ w = w' := fun w => by rw [hA2]; exact secret_any sc w
  have HSec := Lib.hid HSc
  rw [← hNM] at hk
  rw [← hA0] at HAd
  rw [← hA1] at HSz
  have x0 : W1.cell? ⟨w.heap.size, 0, none⟩ = some (.string NM) := cell_block hk rfl
  have x1 : W1.cell? ⟨w.heap.size, 1, none⟩ = some (.int .i64 ad) := cell_block hk rfl
  have x2 : W1.cell? ⟨w.heap.size, 2, none⟩ = some (.int .i64 sz) := cell_block hk rfl
  have x3 : W1.cell? ⟨w.heap.size, 3, none⟩ = some (.bool sc) := cell_block hk rfl
  obtain ⟨B2, hB2⟩ : ∃ B, B = str ([114, 101, 103, 105, 111, 110, 32] ++ nm) := ⟨_, rfl⟩
  obtain ⟨B3, hB3⟩ : ∃ B, B = str (([114, 101, 103, 105, 111, 110, 32] ++ nm) ++ [32]) := ⟨_, rfl⟩
  obtain ⟨B7, hB7⟩ : ∃ B, B = str ((([114, 101, 103, 105, 111, 110, 32] ++ nm) ++ [32]) ++ Lib.decDigits ad.toNat) := ⟨_, rfl⟩
  obtain ⟨B8, hB8⟩ : ∃ B, B = str (((([114, 101, 103, 105, 111, 110, 32] ++ nm) ++ [32]) ++ Lib.decDigits ad.toNat) ++ [32]) := ⟨_, rfl⟩
  obtain ⟨B12, hB12⟩ : ∃ B, B = str ((((([114, 101, 103, 105, 111, 110, 32] ++ nm) ++ [32]) ++ Lib.decDigits ad.toNat) ++ [32]) ++ Lib.decDigits sz.toNat) := ⟨_, rfl⟩
  obtain ⟨B16, hB16⟩ : ∃ B, B = str (((((([114, 101, 103, 105, 111, 110, 32] ++ nm) ++ [32]) ++ Lib.decDigits ad.toNat) ++ [32]) ++ Lib.decDigits sz.toNat) ++ secT sc) := ⟨_, rfl⟩
  obtain ⟨B17, hB17⟩ : ∃ B, B = str ((((((([114, 101, 103, 105, 111, 110, 32] ++ nm) ++ [32]) ++ Lib.decDigits ad.toNat) ++ [32]) ++ Lib.decDigits sz.toNat) ++ secT sc) ++ [59]) := ⟨_, rfl⟩
  have qB2 : ∀ w : World, (Op.stringOp .add ⟨#[114, 101, 103, 105, 111, 110, 32]⟩ NM).run Tryd.prog w = .ok (.string B2) w := fun w => by
    (try rw [hB2]); (try rw [hNM]); exact add_str ([114, 101, 103, 105, 111, 110, 32]) (nm) (by simp only [List.length_cons, List.length_nil] at hlen ⊢; omega) w
  have qB3 : ∀ w : World, (Op.stringOp .add B2 ⟨#[32]⟩).run Tryd.prog w = .ok (.string B3) w := fun w => by
    (try rw [hB3]); (try rw [hB2]); exact add_str (([114, 101, 103, 105, 111, 110, 32] ++ nm)) ([32]) (by simp only [List.length_append, List.length_cons, List.length_nil] at hlen ⊢; omega) w
  have qB7 : ∀ w : World, (Op.stringOp .add B3 A0).run Tryd.prog w = .ok (.string B7) w := fun w => by
    (try rw [hB7]); (try rw [hB3]); (try rw [hA0]); exact add_str ((([114, 101, 103, 105, 111, 110, 32] ++ nm) ++ [32])) (Lib.decDigits ad.toNat) (by simp only [List.length_append, List.length_cons, List.length_nil] at hlen ⊢; omega) w
  have qB8 : ∀ w : World, (Op.stringOp .add B7 ⟨#[32]⟩).run Tryd.prog w = .ok (.string B8) w := fun w => by
    (try rw [hB8]); (try rw [hB7]); exact add_str (((([114, 101, 103, 105, 111, 110, 32] ++ nm) ++ [32]) ++ Lib.decDigits ad.toNat)) ([32]) (by simp only [List.length_append, List.length_cons, List.length_nil] at hlen ⊢; omega) w
  have qB12 : ∀ w : World, (Op.stringOp .add B8 A1).run Tryd.prog w = .ok (.string B12) w := fun w => by
    (try rw [hB12]); (try rw [hB8]); (try rw [hA1]); exact add_str ((((([114, 101, 103, 105, 111, 110, 32] ++ nm) ++ [32]) ++ Lib.decDigits ad.toNat) ++ [32])) (Lib.decDigits sz.toNat) (by simp only [List.length_append, List.length_cons, List.length_nil] at hlen ⊢; omega) w
  have qB16 : ∀ w : World, (Op.stringOp .add B12 A2).run Tryd.prog w = .ok (.string B16) w := fun w => by
    (try rw [hB16]); (try rw [hB12]); (try rw [hA2]); exact add_str (((((([114, 101, 103, 105, 111, 110, 32] ++ nm) ++ [32]) ++ Lib.decDigits ad.toNat) ++ [32]) ++ Lib.decDigits sz.toNat)) (secT sc) (by simp only [List.length_append, List.length_cons, List.length_nil] at hlen ⊢; omega) w
  have qB17 : ∀ w : World, (Op.stringOp .add B16 ⟨#[59]⟩).run Tryd.prog w = .ok (.string B17) w := fun w => by
    (try rw [hB17]); (try rw [hB16]); exact add_str ((((((([114, 101, 103, 105, 111, 110, 32] ++ nm) ++ [32]) ++ Lib.decDigits ad.toNat) ++ [32]) ++ Lib.decDigits sz.toNat) ++ secT sc)) ([59]) (by simp only [List.length_append, List.length_cons, List.length_nil] at hlen ⊢; omega) w
  have HF := Lib.hid (show str (Rgn.mk nm ad sz sc).line = B17 by rw [ht, hB17])
  show Calls _ _ #[.agg #[.string (str nm), .int .i64 ad, .int .i64 sz, .bool sc]] w _
  rw [← hNM]
  clear hA0 hA1 hA2 HSc hB2 hB3 hB7 hB8 hB12 hB16 hB17 hl ht hk hG hG1 hB1 had hau hsz hsu
  rw [← hNM] at hW1
  clear hNM
  go_enter Tryd.func40, Tryd.ntmps40
  go_wp2_with fail
  try rw [hW1]
  clear hW1
  have HS : Below W1.heap.size W1 W1.drew := (Below.refl _ _).drew
  refine wp_region_held_drew (S := fun W => Below W1.heap.size W1 W ∧ W.cell? ⟨w.heap.size, 0, none⟩ = some (.string NM) ∧ W.cell? ⟨w.heap.size, 1, none⟩ = some (.int .i64 ad) ∧ W.cell? ⟨w.heap.size, 2, none⟩ = some (.int .i64 sz) ∧ W.cell? ⟨w.heap.size, 3, none⟩ = some (.bool sc)) (by kernel_rfl) ?_ (fun hHeld => ?_)
  · exact ⟨HS, (HS.cell ht1).trans x0, (HS.cell ht1).trans x1, (HS.cell ht1).trans x2, (HS.cell ht1).trans x3⟩
  refine wpAnyH_take (i := 0) (oi := { dst := Option.some 3, op := Go.Op.fieldAddr 81 (Go.Operand.tmp 1) 0, type := 0, pos := "lines.go:102", after := #[], guard := Option.none }) (v := ?_) rfl (by kernel_rfl) (by kernel_rfl) (by kernel_rfl) (fun _ _ _ h => h) (Or.inl ⟨by rfl, ?_⟩) (by assumption) ?_
  rotate_left
  · (intro w hSw; (try dsimp only at hSw); go_simp; try with_reducible rfl)
  try simp only [Act.put, List.setIfInBounds_toArray, List.set_cons_zero, List.set_cons_succ]
  refine wpAnyH_take (i := 1) (oi := { dst := Option.some 4, op := Go.Op.load 9 (Go.Operand.tmp 3), type := 9, pos := "lines.go:102", after := #[{ on := 0, ground := Go.Ground.data }], guard := Option.none }) (v := ?_) rfl (by kernel_rfl) (by kernel_rfl) (by kernel_rfl) (fun _ _ _ h => h) (Or.inl ⟨by rfl, ?_⟩) (by assumption) ?_
  rotate_left
  · (intro w hSw; (try dsimp only at hSw); go_simp; try with_reducible rfl)
  try simp only [Act.put, List.setIfInBounds_toArray, List.set_cons_zero, List.set_cons_succ]
  refine wpAnyH_take (i := 2) (oi := { dst := Option.some 5, op := Go.Op.binOp Go.BinOp.add 9 (Go.Operand.const (Go.Value.string { data := #[114, 101, 103, 105, 111, 110, 32] })) (Go.Operand.tmp 4) 9, type := 9, pos := "lines.go:102", after := #[{ on := 1, ground := Go.Ground.data }], guard := Option.none }) (v := .string B2) rfl (by kernel_rfl) (by kernel_rfl) (by kernel_rfl) (fun _ _ _ h => h) (Or.inl ⟨by rfl, ?_⟩) (by assumption) ?_
  · (intro w hSw; (try dsimp only at hSw); go_simp)
  try simp only [Act.put, List.setIfInBounds_toArray, List.set_cons_zero, List.set_cons_succ]
  refine wpAnyH_take (i := 3) (oi := { dst := Option.some 6, op := Go.Op.binOp Go.BinOp.add 9 (Go.Operand.tmp 5) (Go.Operand.const (Go.Value.string { data := #[32] })) 9, type := 9, pos := "lines.go:102", after := #[{ on := 2, ground := Go.Ground.data }], guard := Option.none }) (v := .string B3) rfl (by kernel_rfl) (by kernel_rfl) (by kernel_rfl) (fun _ _ _ h => h) (Or.inl ⟨by rfl, ?_⟩) (by assumption) ?_
  · (intro w hSw; (try dsimp only at hSw); go_simp)
  try simp only [Act.put, List.setIfInBounds_toArray, List.set_cons_zero, List.set_cons_succ]
  refine wpAnyH_take (i := 4) (oi := { dst := Option.some 7, op := Go.Op.fieldAddr 81 (Go.Operand.tmp 1) 1, type := 0, pos := "lines.go:102", after := #[], guard := Option.none }) (v := ?_) rfl (by kernel_rfl) (by kernel_rfl) (by kernel_rfl) (fun _ _ _ h => h) (Or.inl ⟨by rfl, ?_⟩) (by assumption) ?_
  rotate_left
  · (intro w hSw; (try dsimp only at hSw); go_simp; try with_reducible rfl)
  try simp only [Act.put, List.setIfInBounds_toArray, List.set_cons_zero, List.set_cons_succ]
  refine wpAnyH_take (i := 5) (oi := { dst := Option.some 8, op := Go.Op.load 3 (Go.Operand.tmp 7), type := 3, pos := "lines.go:102", after := #[{ on := 4, ground := Go.Ground.data }], guard := Option.none }) (v := ?_) rfl (by kernel_rfl) (by kernel_rfl) (by kernel_rfl) (fun _ _ _ h => h) (Or.inl ⟨by rfl, ?_⟩) (by assumption) ?_
  rotate_left
  · (intro w hSw; (try dsimp only at hSw); go_simp; try with_reducible rfl)
  try simp only [Act.put, List.setIfInBounds_toArray, List.set_cons_zero, List.set_cons_succ]
  refine wpAnyH_take (i := 9) (oi := { dst := Option.some 12, op := Go.Op.fieldAddr 81 (Go.Operand.tmp 1) 2, type := 0, pos := "lines.go:102", after := #[], guard := Option.none }) (v := ?_) rfl (by kernel_rfl) (by kernel_rfl) (by kernel_rfl) (fun _ _ _ h => h) (Or.inl ⟨by rfl, ?_⟩) (by assumption) ?_
  rotate_left
  · (intro w hSw; (try dsimp only at hSw); go_simp; try with_reducible rfl)
  try simp only [Act.put, List.setIfInBounds_toArray, List.set_cons_zero, List.set_cons_succ]
  refine wpAnyH_take (i := 10) (oi := { dst := Option.some 13, op := Go.Op.load 3 (Go.Operand.tmp 12), type := 3, pos := "lines.go:102", after := #[{ on := 9, ground := Go.Ground.data }], guard := Option.none }) (v := ?_) rfl (by kernel_rfl) (by kernel_rfl) (by kernel_rfl) (fun _ _ _ h => h) (Or.inl ⟨by rfl, ?_⟩) (by assumption) ?_
  rotate_left
  · (intro w hSw; (try dsimp only at hSw); go_simp; try with_reducible rfl)
  try simp only [Act.put, List.setIfInBounds_toArray, List.set_cons_zero, List.set_cons_succ]
  refine wpAnyH_take (i := 13) (oi := { dst := Option.some 16, op := Go.Op.fieldAddr 81 (Go.Operand.tmp 1) 3, type := 0, pos := "lines.go:102", after := #[], guard := Option.none }) (v := ?_) rfl (by kernel_rfl) (by kernel_rfl) (by kernel_rfl) (fun _ _ _ h => h) (Or.inl ⟨by rfl, ?_⟩) (by assumption) ?_
  rotate_left
  · (intro w hSw; (try dsimp only at hSw); go_simp; try with_reducible rfl)
  try simp only [Act.put, List.setIfInBounds_toArray, List.set_cons_zero, List.set_cons_succ]
  refine wpAnyH_take (i := 14) (oi := { dst := Option.some 17, op := Go.Op.load 4 (Go.Operand.tmp 16), type := 4, pos := "lines.go:102", after := #[{ on := 13, ground := Go.Ground.data }], guard := Option.none }) (v := ?_) rfl (by kernel_rfl) (by kernel_rfl) (by kernel_rfl) (fun _ _ _ h => h) (Or.inl ⟨by rfl, ?_⟩) (by assumption) ?_
  rotate_left
  · (intro w hSw; (try dsimp only at hSw); go_simp; try with_reducible rfl)
  try simp only [Act.put, List.setIfInBounds_toArray, List.set_cons_zero, List.set_cons_succ]
  refine wpAnyH_ready (rs := [6]) (by kernel_rfl) (by simp) ?_
  refine AllReadyH.cons (o := { dst := Option.some 9, op := Go.Op.call { callee := Go.Callee.value (Go.Operand.func 62), args := #[Go.Operand.tmp 8], argTypes := #[3] }, type := 9, pos := "lines.go:102", after := #[{ on := 5, ground := Go.Ground.data }], guard := Option.none }) rfl (fun K hK => ?_) AllReadyH.nil
  go_simp
  refine (HAd.out _ HS).mono ?_
  rintro z wa ⟨rfl, hB'⟩
  replace HS := HS.trans (hB'.mono HS.size)
  clear hB'
  refine hK.out _ _ ?_ (fun hHeld => ?_)
  · exact ⟨HS, (HS.cell ht1).trans x0, (HS.cell ht1).trans x1, (HS.cell ht1).trans x2, (HS.cell ht1).trans x3⟩
  clear hK K
  try simp only [Act.put, List.setIfInBounds_toArray, List.set_cons_zero, List.set_cons_succ]
  refine wpAnyH_take (i := 7) (oi := { dst := Option.some 10, op := Go.Op.binOp Go.BinOp.add 9 (Go.Operand.tmp 6) (Go.Operand.tmp 9) 9, type := 9, pos := "lines.go:102", after := #[{ on := 3, ground := Go.Ground.data }, { on := 6, ground := Go.Ground.data }], guard := Option.none }) (v := .string B7) rfl (by kernel_rfl) (by kernel_rfl) (by kernel_rfl) (fun _ _ _ h => h) (Or.inl ⟨by rfl, ?_⟩) (by assumption) ?_
  · (intro w hSw; (try dsimp only at hSw); go_simp)
  try simp only [Act.put, List.setIfInBounds_toArray, List.set_cons_zero, List.set_cons_succ]
  refine wpAnyH_take (i := 8) (oi := { dst := Option.some 11, op := Go.Op.binOp Go.BinOp.add 9 (Go.Operand.tmp 10) (Go.Operand.const (Go.Value.string { data := #[32] })) 9, type := 9, pos := "lines.go:102", after := #[{ on := 7, ground := Go.Ground.data }], guard := Option.none }) (v := .string B8) rfl (by kernel_rfl) (by kernel_rfl) (by kernel_rfl) (fun _ _ _ h => h) (Or.inl ⟨by rfl, ?_⟩) (by assumption) ?_
  · (intro w hSw; (try dsimp only at hSw); go_simp)
  try simp only [Act.put, List.setIfInBounds_toArray, List.set_cons_zero, List.set_cons_succ]
  refine wpAnyH_ready (rs := [11]) (by kernel_rfl) (by simp) ?_
  refine AllReadyH.cons (o := { dst := Option.some 14, op := Go.Op.call { callee := Go.Callee.value (Go.Operand.func 62), args := #[Go.Operand.tmp 13], argTypes := #[3] }, type := 9, pos := "lines.go:102", after := #[{ on := 10, ground := Go.Ground.data }, { on := 6, ground := Go.Ground.chain }], guard := Option.none }) rfl (fun K hK => ?_) AllReadyH.nil
  go_simp
  refine (HSz.out _ HS).mono ?_
  rintro z wa ⟨rfl, hB'⟩
  replace HS := HS.trans (hB'.mono HS.size)
  clear hB'
  refine hK.out _ _ ?_ (fun hHeld => ?_)
  · exact ⟨HS, (HS.cell ht1).trans x0, (HS.cell ht1).trans x1, (HS.cell ht1).trans x2, (HS.cell ht1).trans x3⟩
  clear hK K
  try simp only [Act.put, List.setIfInBounds_toArray, List.set_cons_zero, List.set_cons_succ]
  refine wpAnyH_take (i := 12) (oi := { dst := Option.some 15, op := Go.Op.binOp Go.BinOp.add 9 (Go.Operand.tmp 11) (Go.Operand.tmp 14) 9, type := 9, pos := "lines.go:102", after := #[{ on := 8, ground := Go.Ground.data }, { on := 11, ground := Go.Ground.data }], guard := Option.none }) (v := .string B12) rfl (by kernel_rfl) (by kernel_rfl) (by kernel_rfl) (fun _ _ _ h => h) (Or.inl ⟨by rfl, ?_⟩) (by assumption) ?_
  · (intro w hSw; (try dsimp only at hSw); go_simp)
  try simp only [Act.put, List.setIfInBounds_toArray, List.set_cons_zero, List.set_cons_succ]
  refine wpAnyH_ready (rs := [15]) (by kernel_rfl) (by simp) ?_
  refine AllReadyH.cons (o := { dst := Option.some 18, op := Go.Op.call { callee := Go.Callee.value (Go.Operand.func 63), args := #[Go.Operand.tmp 17], argTypes := #[4] }, type := 9, pos := "lines.go:102", after := #[{ on := 14, ground := Go.Ground.data }, { on := 11, ground := Go.Ground.chain }], guard := Option.none }) rfl (fun K hK => ?_) AllReadyH.nil
  go_simp
  refine (HSec.out _).mono ?_
  rintro z wa ⟨rfl, rfl⟩
  refine hK.out _ _ ?_ (fun hHeld => ?_)
  · exact ⟨HS, (HS.cell ht1).trans x0, (HS.cell ht1).trans x1, (HS.cell ht1).trans x2, (HS.cell ht1).trans x3⟩
  clear hK K
  try simp only [Act.put, List.setIfInBounds_toArray, List.set_cons_zero, List.set_cons_succ]
  refine wpAnyH_take (i := 16) (oi := { dst := Option.some 19, op := Go.Op.binOp Go.BinOp.add 9 (Go.Operand.tmp 15) (Go.Operand.tmp 18) 9, type := 9, pos := "lines.go:102", after := #[{ on := 12, ground := Go.Ground.data }, { on := 15, ground := Go.Ground.data }], guard := Option.none }) (v := .string B16) rfl (by kernel_rfl) (by kernel_rfl) (by kernel_rfl) (fun _ _ _ h => h) (Or.inl ⟨by rfl, ?_⟩) (by assumption) ?_
  · (intro w hSw; (try dsimp only at hSw); go_simp)
  try simp only [Act.put, List.setIfInBounds_toArray, List.set_cons_zero, List.set_cons_succ]
  refine wpAnyH_take (i := 17) (oi := { dst := Option.some 20, op := Go.Op.binOp Go.BinOp.add 9 (Go.Operand.tmp 19) (Go.Operand.const (Go.Value.string { data := #[59] })) 9, type := 9, pos := "lines.go:102", after := #[{ on := 16, ground := Go.Ground.data }], guard := Option.none }) (v := .string B17) rfl (by kernel_rfl) (by kernel_rfl) (by kernel_rfl) (fun _ _ _ h => h) (Or.inl ⟨by rfl, ?_⟩) (by assumption) ?_
  · (intro w hSw; (try dsimp only at hSw); go_simp)
  try simp only [Act.put, List.setIfInBounds_toArray, List.set_cons_zero, List.set_cons_succ]
  refine wpAnyH_take (i := 18) (oi := { dst := Option.some 2, op := Go.Op.assign (Go.Operand.tmp 20), type := 9, pos := "lines.go:102", after := #[{ on := 17, ground := Go.Ground.data }, { on := 15, ground := Go.Ground.chain }, { on := 0, ground := Go.Ground.phase }, { on := 1, ground := Go.Ground.phase }, { on := 2, ground := Go.Ground.phase }, { on := 3, ground := Go.Ground.phase }, { on := 4, ground := Go.Ground.phase }, { on := 5, ground := Go.Ground.phase }, { on := 6, ground := Go.Ground.phase }, { on := 7, ground := Go.Ground.phase }, { on := 8, ground := Go.Ground.phase }, { on := 9, ground := Go.Ground.phase }, { on := 10, ground := Go.Ground.phase }, { on := 11, ground := Go.Ground.phase }, { on := 12, ground := Go.Ground.phase }, { on := 13, ground := Go.Ground.phase }, { on := 14, ground := Go.Ground.phase }, { on := 15, ground := Go.Ground.phase }, { on := 16, ground := Go.Ground.phase }, { on := 17, ground := Go.Ground.phase }], guard := Option.none }) (v := ?_) rfl (by kernel_rfl) (by kernel_rfl) (by kernel_rfl) (fun _ _ _ h => h) (Or.inl ⟨by rfl, ?_⟩) (by assumption) ?_
  rotate_left
  · (intro w hSw; (try dsimp only at hSw); go_simp; try with_reducible rfl)
  try simp only [Act.put, List.setIfInBounds_toArray, List.set_cons_zero, List.set_cons_succ]
  refine wpAnyH_done (by kernel_rfl) ?_ _
  have HE := Lib.hid (HB1.out.trans (HS.mono HB1.out.size))
  go_wp2_with fail
  go_ret
  exact ⟨ret_strE HF.out.symm, HE.out⟩
set_option maxRecDepth 100000 in
set_option maxHeartbeats 6400000 in
theorem varLine_1 (nm : List UInt8) (sz : Int) (sc : Bool) (w : World) (hl : nm.length ≤ 1000000) :
    Calls Tryd.prog 65 #[.agg #[.string (str nm), .int .i64 1, .int .i64 sz, .bool sc]] w fun z w' => z = .returned (.string (str (([118, 97, 114, 32] ++ nm) ++ [59]))) ∧ Below w.heap.size w w' := by
  have hlen := hl
  obtain ⟨NM, hNM⟩ : ∃ A, A = str (nm) := ⟨_, rfl⟩
  obtain ⟨B3, hB3⟩ : ∃ B, B = str ([118, 97, 114, 32] ++ nm) := ⟨_, rfl⟩
  obtain ⟨B4, hB4⟩ : ∃ B, B = str (([118, 97, 114, 32] ++ nm) ++ [59]) := ⟨_, rfl⟩
  have qB3 : ∀ w : World, (Op.stringOp .add ⟨#[118, 97, 114, 32]⟩ NM).run Tryd.prog w = .ok (.string B3) w := fun w => by
    (try rw [hB3]); (try rw [hNM]); exact add_str ([118, 97, 114, 32]) (nm) (by simp only [List.length_cons, List.length_nil] at hlen ⊢; omega) w
  have qB4 : ∀ w : World, (Op.stringOp .add B3 ⟨#[59]⟩).run Tryd.prog w = .ok (.string B4) w := fun w => by
    (try rw [hB4]); (try rw [hB3]); exact add_str (([118, 97, 114, 32] ++ nm)) ([59]) (by simp only [List.length_append, List.length_cons, List.length_nil] at hlen ⊢; omega) w
  obtain ⟨W1, hW1⟩ : ∃ W1, w.alloc (.cells #[.string NM, .int .i64 1, .int .i64 sz, .bool sc] 48) = W1 := ⟨_, rfl⟩
  have hk : W1.heap[w.heap.size]? = some (.cells #[.string NM, .int .i64 1, .int .i64 sz, .bool sc] 48 (0, 0)) := by rw [← hW1]; exact heap_alloc_new w _
  have HB1 := Lib.hid (show Below w.heap.size w W1 by rw [← hW1]; exact (Below.refl _ _).alloc (Nat.le_refl _) _)
  have x0 : W1.cell? ⟨w.heap.size, 0, none⟩ = some (.string NM) := cell_block hk rfl
  have x1 : W1.cell? ⟨w.heap.size, 1, none⟩ = some (.int .i64 1) := cell_block hk rfl
  have HF := Lib.hid (show str (([118, 97, 114, 32] ++ nm) ++ [59]) = B4 by rw [hB4])
  rw [← hNM]
  clear hNM hB3 hB4 hk
  go_enter Tryd.func65, Tryd.ntmps65
  go_wp2_with fail
  go_ret
  exact ⟨ret_strE HF.out.symm, HB1.out⟩
set_option maxRecDepth 100000 in
set_option maxHeartbeats 6400000 in
theorem varLine_2 (nm : List UInt8) (sz : Int) (sc : Bool) (hsz : 0 ≤ sz) (hsu : sz ≤ 9223372036854775807) (w : World) (hG : Glob w) (hlen : nm.length + (Lib.decDigits sz.toNat).length + (secT sc).length ≤ 1000000) :
    Calls Tryd.prog 65 #[.agg #[.string (str nm), .int .i64 2, .int .i64 sz, .bool sc]] w fun z w' => z = .returned (.string (str ((((([97, 114, 114, 97, 121, 32] ++ nm) ++ [32]) ++ Lib.decDigits sz.toNat) ++ secT sc) ++ [59]))) ∧ Below w.heap.size w w' := by
  obtain ⟨NM, hNM⟩ : ∃ A, A = str (nm) := ⟨_, rfl⟩
  obtain ⟨A1, hA1⟩ : ∃ A, A = str (Lib.decDigits sz.toNat) := ⟨_, rfl⟩
  obtain ⟨A2, hA2⟩ : ∃ A, A = str (secT sc) := ⟨_, rfl⟩
  obtain ⟨W1, hW1⟩ : ∃ W1, w.alloc (.cells #[.string NM, .int .i64 2, .int .i64 sz, .bool sc] 48) = W1 := ⟨_, rfl⟩
  have hB1 : Below w.heap.size w W1 := by rw [← hW1]; exact (Below.refl _ _).alloc (Nat.le_refl _) _
  have hz1 : W1.heap.size = w.heap.size + 1 := by rw [← hW1]; simp
  have hk : W1.heap[w.heap.size]? = some (.cells #[.string NM, .int .i64 2, .int .i64 sz, .bool sc] 48 (0, 0)) := by rw [← hW1]; exact heap_alloc_new w _
  have ht1 : w.heap.size < W1.heap.size := by omega
  have hG1 := hG.later hB1
  have HB1 := Lib.hid hB1
  have HSz := Lib.hid (fun (w1 : World) (hB : Below W1.heap.size W1 w1) => itoa_any sz hsz hsu w1 (hG1.later hB))
  have HSc : ∀ w : World, Calls Tryd.prog 63 #[.bool sc] w fun e w' => e = .returned (.string A2) ∧ w = w' := fun w => by rw [hA2]; exact secret_any sc w
  have HSec := Lib.hid HSc
  rw [← hA1] at HSz
  have x0 : W1.cell? ⟨w.heap.size, 0, none⟩ = some (.string NM) := cell_block hk rfl
  have x1 : W1.cell? ⟨w.heap.size, 1, none⟩ = some (.int .i64 2) := cell_block hk rfl
  have x2 : W1.cell? ⟨w.heap.size, 2, none⟩ = some (.int .i64 sz) := cell_block hk rfl
  have x3 : W1.cell? ⟨w.heap.size, 3, none⟩ = some (.bool sc) := cell_block hk rfl
  obtain ⟨B3, hB3⟩ : ∃ B, B = str ([97, 114, 114, 97, 121, 32] ++ nm) := ⟨_, rfl⟩
  obtain ⟨B4, hB4⟩ : ∃ B, B = str (([97, 114, 114, 97, 121, 32] ++ nm) ++ [32]) := ⟨_, rfl⟩
  obtain ⟨B8, hB8⟩ : ∃ B, B = str ((([97, 114, 114, 97, 121, 32] ++ nm) ++ [32]) ++ Lib.decDigits sz.toNat) := ⟨_, rfl⟩
  obtain ⟨B12, hB12⟩ : ∃ B, B = str (((([97, 114, 114, 97, 121, 32] ++ nm) ++ [32]) ++ Lib.decDigits sz.toNat) ++ secT sc) := ⟨_, rfl⟩
  obtain ⟨B13, hB13⟩ : ∃ B, B = str ((((([97, 114, 114, 97, 121, 32] ++ nm) ++ [32]) ++ Lib.decDigits sz.toNat) ++ secT sc) ++ [59]) := ⟨_, rfl⟩
  have qB3 : ∀ w : World, (Op.stringOp .add ⟨#[97, 114, 114, 97, 121, 32]⟩ NM).run Tryd.prog w = .ok (.string B3) w := fun w => by
    (try rw [hB3]); (try rw [hNM]); exact add_str ([97, 114, 114, 97, 121, 32]) (nm) (by simp only [List.length_cons, List.length_nil] at hlen ⊢; omega) w
  have qB4 : ∀ w : World, (Op.stringOp .add B3 ⟨#[32]⟩).run Tryd.prog w = .ok (.string B4) w := fun w => by
    (try rw [hB4]); (try rw [hB3]); exact add_str (([97, 114, 114, 97, 121, 32] ++ nm)) ([32]) (by simp only [List.length_append, List.length_cons, List.length_nil] at hlen ⊢; omega) w
  have qB8 : ∀ w : World, (Op.stringOp .add B4 A1).run Tryd.prog w = .ok (.string B8) w := fun w => by
    (try rw [hB8]); (try rw [hB4]); (try rw [hA1]); exact add_str ((([97, 114, 114, 97, 121, 32] ++ nm) ++ [32])) (Lib.decDigits sz.toNat) (by simp only [List.length_append, List.length_cons, List.length_nil] at hlen ⊢; omega) w
  have qB12 : ∀ w : World, (Op.stringOp .add B8 A2).run Tryd.prog w = .ok (.string B12) w := fun w => by
    (try rw [hB12]); (try rw [hB8]); (try rw [hA2]); exact add_str (((([97, 114, 114, 97, 121, 32] ++ nm) ++ [32]) ++ Lib.decDigits sz.toNat)) (secT sc) (by simp only [List.length_append, List.length_cons, List.length_nil] at hlen ⊢; omega) w
  have qB13 : ∀ w : World, (Op.stringOp .add B12 ⟨#[59]⟩).run Tryd.prog w = .ok (.string B13) w := fun w => by
    (try rw [hB13]); (try rw [hB12]); exact add_str ((((([97, 114, 114, 97, 121, 32] ++ nm) ++ [32]) ++ Lib.decDigits sz.toNat) ++ secT sc)) ([59]) (by simp only [List.length_append, List.length_cons, List.length_nil] at hlen ⊢; omega) w
  have HF := Lib.hid (show str ((((([97, 114, 114, 97, 121, 32] ++ nm) ++ [32]) ++ Lib.decDigits sz.toNat) ++ secT sc) ++ [59]) = B13 by rw [hB13])
  rw [← hNM]
  clear hNM hA1 hA2 HSc hB3 hB4 hB8 hB12 hB13 hk hG hG1 hB1 hsz hsu
  go_enter Tryd.func65, Tryd.ntmps65
  go_wp2_with fail
  try rw [hW1]
  clear hW1
  have HS : Below W1.heap.size W1 W1.drew := (Below.refl _ _).drew
  refine wp_region_held_drew (S := fun W => Below W1.heap.size W1 W ∧ W.cell? ⟨w.heap.size, 0, none⟩ = some (.string NM) ∧ W.cell? ⟨w.heap.size, 2, none⟩ = some (.int .i64 sz) ∧ W.cell? ⟨w.heap.size, 3, none⟩ = some (.bool sc)) (by kernel_rfl) ?_ (fun hHeld => ?_)
  · exact ⟨HS, (HS.cell ht1).trans x0, (HS.cell ht1).trans x2, (HS.cell ht1).trans x3⟩
  refine wpAnyH_take (i := 0) (oi := { dst := Option.some 17, op := Go.Op.move (Go.Operand.tmp 3), type := 9, pos := "lines.go:127", after := #[], guard := Option.none }) (v := ?_) rfl (by kernel_rfl) (by kernel_rfl) (by kernel_rfl) (fun _ _ _ h => h) (Or.inl ⟨by rfl, ?_⟩) (by assumption) ?_
  rotate_left
  · (intro w hSw; (try dsimp only at hSw); go_simp; try with_reducible rfl)
  try simp only [Act.put, List.setIfInBounds_toArray, List.set_cons_zero, List.set_cons_succ]
  refine wpAnyH_take (i := 1) (oi := { dst := Option.some 18, op := Go.Op.fieldAddr 48 (Go.Operand.tmp 1) 0, type := 0, pos := "lines.go:127", after := #[], guard := Option.none }) (v := ?_) rfl (by kernel_rfl) (by kernel_rfl) (by kernel_rfl) (fun _ _ _ h => h) (Or.inl ⟨by rfl, ?_⟩) (by assumption) ?_
  rotate_left
  · (intro w hSw; (try dsimp only at hSw); go_simp; try with_reducible rfl)
  try simp only [Act.put, List.setIfInBounds_toArray, List.set_cons_zero, List.set_cons_succ]
  refine wpAnyH_take (i := 2) (oi := { dst := Option.some 19, op := Go.Op.load 9 (Go.Operand.tmp 18), type := 9, pos := "lines.go:127", after := #[{ on := 1, ground := Go.Ground.data }], guard := Option.none }) (v := ?_) rfl (by kernel_rfl) (by kernel_rfl) (by kernel_rfl) (fun _ _ _ h => h) (Or.inl ⟨by rfl, ?_⟩) (by assumption) ?_
  rotate_left
  · (intro w hSw; (try dsimp only at hSw); go_simp; try with_reducible rfl)
  try simp only [Act.put, List.setIfInBounds_toArray, List.set_cons_zero, List.set_cons_succ]
  refine wpAnyH_take (i := 3) (oi := { dst := Option.some 20, op := Go.Op.binOp Go.BinOp.add 9 (Go.Operand.tmp 17) (Go.Operand.tmp 19) 9, type := 9, pos := "lines.go:127", after := #[{ on := 0, ground := Go.Ground.data }, { on := 2, ground := Go.Ground.data }], guard := Option.none }) (v := .string B3) rfl (by kernel_rfl) (by kernel_rfl) (by kernel_rfl) (fun _ _ _ h => h) (Or.inl ⟨by rfl, ?_⟩) (by assumption) ?_
  · (intro w hSw; (try dsimp only at hSw); go_simp)
  try simp only [Act.put, List.setIfInBounds_toArray, List.set_cons_zero, List.set_cons_succ]
  refine wpAnyH_take (i := 4) (oi := { dst := Option.some 21, op := Go.Op.binOp Go.BinOp.add 9 (Go.Operand.tmp 20) (Go.Operand.const (Go.Value.string { data := #[32] })) 9, type := 9, pos := "lines.go:127", after := #[{ on := 3, ground := Go.Ground.data }], guard := Option.none }) (v := .string B4) rfl (by kernel_rfl) (by kernel_rfl) (by kernel_rfl) (fun _ _ _ h => h) (Or.inl ⟨by rfl, ?_⟩) (by assumption) ?_
  · (intro w hSw; (try dsimp only at hSw); go_simp)
  try simp only [Act.put, List.setIfInBounds_toArray, List.set_cons_zero, List.set_cons_succ]
  refine wpAnyH_take (i := 5) (oi := { dst := Option.some 22, op := Go.Op.fieldAddr 48 (Go.Operand.tmp 1) 2, type := 0, pos := "lines.go:127", after := #[], guard := Option.none }) (v := ?_) rfl (by kernel_rfl) (by kernel_rfl) (by kernel_rfl) (fun _ _ _ h => h) (Or.inl ⟨by rfl, ?_⟩) (by assumption) ?_
  rotate_left
  · (intro w hSw; (try dsimp only at hSw); go_simp; try with_reducible rfl)
  try simp only [Act.put, List.setIfInBounds_toArray, List.set_cons_zero, List.set_cons_succ]
  refine wpAnyH_take (i := 6) (oi := { dst := Option.some 23, op := Go.Op.load 3 (Go.Operand.tmp 22), type := 3, pos := "lines.go:127", after := #[{ on := 5, ground := Go.Ground.data }], guard := Option.none }) (v := ?_) rfl (by kernel_rfl) (by kernel_rfl) (by kernel_rfl) (fun _ _ _ h => h) (Or.inl ⟨by rfl, ?_⟩) (by assumption) ?_
  rotate_left
  · (intro w hSw; (try dsimp only at hSw); go_simp; try with_reducible rfl)
  try simp only [Act.put, List.setIfInBounds_toArray, List.set_cons_zero, List.set_cons_succ]
  refine wpAnyH_take (i := 9) (oi := { dst := Option.some 26, op := Go.Op.fieldAddr 48 (Go.Operand.tmp 1) 3, type := 0, pos := "lines.go:127", after := #[], guard := Option.none }) (v := ?_) rfl (by kernel_rfl) (by kernel_rfl) (by kernel_rfl) (fun _ _ _ h => h) (Or.inl ⟨by rfl, ?_⟩) (by assumption) ?_
  rotate_left
  · (intro w hSw; (try dsimp only at hSw); go_simp; try with_reducible rfl)
  try simp only [Act.put, List.setIfInBounds_toArray, List.set_cons_zero, List.set_cons_succ]
  refine wpAnyH_take (i := 10) (oi := { dst := Option.some 27, op := Go.Op.load 4 (Go.Operand.tmp 26), type := 4, pos := "lines.go:127", after := #[{ on := 9, ground := Go.Ground.data }], guard := Option.none }) (v := ?_) rfl (by kernel_rfl) (by kernel_rfl) (by kernel_rfl) (fun _ _ _ h => h) (Or.inl ⟨by rfl, ?_⟩) (by assumption) ?_
  rotate_left
  · (intro w hSw; (try dsimp only at hSw); go_simp; try with_reducible rfl)
  try simp only [Act.put, List.setIfInBounds_toArray, List.set_cons_zero, List.set_cons_succ]
  refine wpAnyH_ready (rs := [7]) (by kernel_rfl) (by simp) ?_
  refine AllReadyH.cons (o := { dst := Option.some 24, op := Go.Op.call { callee := Go.Callee.value (Go.Operand.func 62), args := #[Go.Operand.tmp 23], argTypes := #[3] }, type := 9, pos := "lines.go:127", after := #[{ on := 6, ground := Go.Ground.data }], guard := Option.none }) rfl (fun K hK => ?_) AllReadyH.nil
  go_simp
  refine (HSz.out _ HS).mono ?_
  rintro z wa ⟨rfl, hB'⟩
  replace HS := HS.trans (hB'.mono HS.size)
  clear hB'
  refine hK.out _ _ ?_ (fun hHeld => ?_)
  · exact ⟨HS, (HS.cell ht1).trans x0, (HS.cell ht1).trans x2, (HS.cell ht1).trans x3⟩
  clear hK K
  try simp only [Act.put, List.setIfInBounds_toArray, List.set_cons_zero, List.set_cons_succ]
  refine wpAnyH_take (i := 8) (oi := { dst := Option.some 25, op := Go.Op.binOp Go.BinOp.add 9 (Go.Operand.tmp 21) (Go.Operand.tmp 24) 9, type := 9, pos := "lines.go:127", after := #[{ on := 4, ground := Go.Ground.data }, { on := 7, ground := Go.Ground.data }], guard := Option.none }) (v := .string B8) rfl (by kernel_rfl) (by kernel_rfl) (by kernel_rfl) (fun _ _ _ h => h) (Or.inl ⟨by rfl, ?_⟩) (by assumption) ?_
  · (intro w hSw; (try dsimp only at hSw); go_simp)
  try simp only [Act.put, List.setIfInBounds_toArray, List.set_cons_zero, List.set_cons_succ]
  refine wpAnyH_ready (rs := [11]) (by kernel_rfl) (by simp) ?_
  refine AllReadyH.cons (o := { dst := Option.some 28, op := Go.Op.call { callee := Go.Callee.value (Go.Operand.func 63), args := #[Go.Operand.tmp 27], argTypes := #[4] }, type := 9, pos := "lines.go:127", after := #[{ on := 10, ground := Go.Ground.data }, { on := 7, ground := Go.Ground.chain }], guard := Option.none }) rfl (fun K hK => ?_) AllReadyH.nil
  go_simp
  refine (HSec.out _).mono ?_
  rintro z wa ⟨rfl, rfl⟩
  refine hK.out _ _ ?_ (fun hHeld => ?_)
  · exact ⟨HS, (HS.cell ht1).trans x0, (HS.cell ht1).trans x2, (HS.cell ht1).trans x3⟩
  clear hK K
  try simp only [Act.put, List.setIfInBounds_toArray, List.set_cons_zero, List.set_cons_succ]
  refine wpAnyH_take (i := 12) (oi := { dst := Option.some 29, op := Go.Op.binOp Go.BinOp.add 9 (Go.Operand.tmp 25) (Go.Operand.tmp 28) 9, type := 9, pos := "lines.go:127", after := #[{ on := 8, ground := Go.Ground.data }, { on := 11, ground := Go.Ground.data }], guard := Option.none }) (v := .string B12) rfl (by kernel_rfl) (by kernel_rfl) (by kernel_rfl) (fun _ _ _ h => h) (Or.inl ⟨by rfl, ?_⟩) (by assumption) ?_
  · (intro w hSw; (try dsimp only at hSw); go_simp)
  try simp only [Act.put, List.setIfInBounds_toArray, List.set_cons_zero, List.set_cons_succ]
  refine wpAnyH_take (i := 13) (oi := { dst := Option.some 30, op := Go.Op.binOp Go.BinOp.add 9 (Go.Operand.tmp 29) (Go.Operand.const (Go.Value.string { data := #[59] })) 9, type := 9, pos := "lines.go:127", after := #[{ on := 12, ground := Go.Ground.data }], guard := Option.none }) (v := .string B13) rfl (by kernel_rfl) (by kernel_rfl) (by kernel_rfl) (fun _ _ _ h => h) (Or.inl ⟨by rfl, ?_⟩) (by assumption) ?_
  · (intro w hSw; (try dsimp only at hSw); go_simp)
  try simp only [Act.put, List.setIfInBounds_toArray, List.set_cons_zero, List.set_cons_succ]
  refine wpAnyH_take (i := 14) (oi := { dst := Option.some 2, op := Go.Op.assign (Go.Operand.tmp 30), type := 9, pos := "lines.go:127", after := #[{ on := 13, ground := Go.Ground.data }, { on := 11, ground := Go.Ground.chain }, { on := 0, ground := Go.Ground.phase }, { on := 1, ground := Go.Ground.phase }, { on := 2, ground := Go.Ground.phase }, { on := 3, ground := Go.Ground.phase }, { on := 4, ground := Go.Ground.phase }, { on := 5, ground := Go.Ground.phase }, { on := 6, ground := Go.Ground.phase }, { on := 7, ground := Go.Ground.phase }, { on := 8, ground := Go.Ground.phase }, { on := 9, ground := Go.Ground.phase }, { on := 10, ground := Go.Ground.phase }, { on := 11, ground := Go.Ground.phase }, { on := 12, ground := Go.Ground.phase }, { on := 13, ground := Go.Ground.phase }], guard := Option.none }) (v := ?_) rfl (by kernel_rfl) (by kernel_rfl) (by kernel_rfl) (fun _ _ _ h => h) (Or.inl ⟨by rfl, ?_⟩) (by assumption) ?_
  rotate_left
  · (intro w hSw; (try dsimp only at hSw); go_simp; try with_reducible rfl)
  try simp only [Act.put, List.setIfInBounds_toArray, List.set_cons_zero, List.set_cons_succ]
  refine wpAnyH_done (by kernel_rfl) ?_ _
  have HE := Lib.hid (HB1.out.trans (HS.mono HB1.out.size))
  go_wp2_with fail
  go_ret
  exact ⟨ret_strE HF.out.symm, HE.out⟩
set_option maxRecDepth 100000 in
set_option maxHeartbeats 6400000 in
theorem varLine_3 (nm : List UInt8) (sz : Int) (sc : Bool) (hsz : 0 ≤ sz) (hsu : sz ≤ 9223372036854775807) (w : World) (hG : Glob w) (hlen : nm.length + (Lib.decDigits sz.toNat).length + (secT sc).length ≤ 1000000) :
    Calls Tryd.prog 65 #[.agg #[.string (str nm), .int .i64 3, .int .i64 sz, .bool sc]] w fun z w' => z = .returned (.string (str ((((([115, 116, 97, 99, 107, 32] ++ nm) ++ [32]) ++ Lib.decDigits sz.toNat) ++ secT sc) ++ [59]))) ∧ Below w.heap.size w w' := by
  obtain ⟨NM, hNM⟩ : ∃ A, A = str (nm) := ⟨_, rfl⟩
  obtain ⟨A1, hA1⟩ : ∃ A, A = str (Lib.decDigits sz.toNat) := ⟨_, rfl⟩
  obtain ⟨A2, hA2⟩ : ∃ A, A = str (secT sc) := ⟨_, rfl⟩
  obtain ⟨W1, hW1⟩ : ∃ W1, w.alloc (.cells #[.string NM, .int .i64 3, .int .i64 sz, .bool sc] 48) = W1 := ⟨_, rfl⟩
  have hB1 : Below w.heap.size w W1 := by rw [← hW1]; exact (Below.refl _ _).alloc (Nat.le_refl _) _
  have hz1 : W1.heap.size = w.heap.size + 1 := by rw [← hW1]; simp
  have hk : W1.heap[w.heap.size]? = some (.cells #[.string NM, .int .i64 3, .int .i64 sz, .bool sc] 48 (0, 0)) := by rw [← hW1]; exact heap_alloc_new w _
  have ht1 : w.heap.size < W1.heap.size := by omega
  have hG1 := hG.later hB1
  have HB1 := Lib.hid hB1
  have HSz := Lib.hid (fun (w1 : World) (hB : Below W1.heap.size W1 w1) => itoa_any sz hsz hsu w1 (hG1.later hB))
  have HSc : ∀ w : World, Calls Tryd.prog 63 #[.bool sc] w fun e w' => e = .returned (.string A2) ∧ w = w' := fun w => by rw [hA2]; exact secret_any sc w
  have HSec := Lib.hid HSc
  rw [← hA1] at HSz
  have x0 : W1.cell? ⟨w.heap.size, 0, none⟩ = some (.string NM) := cell_block hk rfl
  have x1 : W1.cell? ⟨w.heap.size, 1, none⟩ = some (.int .i64 3) := cell_block hk rfl
  have x2 : W1.cell? ⟨w.heap.size, 2, none⟩ = some (.int .i64 sz) := cell_block hk rfl
  have x3 : W1.cell? ⟨w.heap.size, 3, none⟩ = some (.bool sc) := cell_block hk rfl
  obtain ⟨B3, hB3⟩ : ∃ B, B = str ([115, 116, 97, 99, 107, 32] ++ nm) := ⟨_, rfl⟩
  obtain ⟨B4, hB4⟩ : ∃ B, B = str (([115, 116, 97, 99, 107, 32] ++ nm) ++ [32]) := ⟨_, rfl⟩
  obtain ⟨B8, hB8⟩ : ∃ B, B = str ((([115, 116, 97, 99, 107, 32] ++ nm) ++ [32]) ++ Lib.decDigits sz.toNat) := ⟨_, rfl⟩
  obtain ⟨B12, hB12⟩ : ∃ B, B = str (((([115, 116, 97, 99, 107, 32] ++ nm) ++ [32]) ++ Lib.decDigits sz.toNat) ++ secT sc) := ⟨_, rfl⟩
  obtain ⟨B13, hB13⟩ : ∃ B, B = str ((((([115, 116, 97, 99, 107, 32] ++ nm) ++ [32]) ++ Lib.decDigits sz.toNat) ++ secT sc) ++ [59]) := ⟨_, rfl⟩
  have qB3 : ∀ w : World, (Op.stringOp .add ⟨#[115, 116, 97, 99, 107, 32]⟩ NM).run Tryd.prog w = .ok (.string B3) w := fun w => by
    (try rw [hB3]); (try rw [hNM]); exact add_str ([115, 116, 97, 99, 107, 32]) (nm) (by simp only [List.length_cons, List.length_nil] at hlen ⊢; omega) w
  have qB4 : ∀ w : World, (Op.stringOp .add B3 ⟨#[32]⟩).run Tryd.prog w = .ok (.string B4) w := fun w => by
    (try rw [hB4]); (try rw [hB3]); exact add_str (([115, 116, 97, 99, 107, 32] ++ nm)) ([32]) (by simp only [List.length_append, List.length_cons, List.length_nil] at hlen ⊢; omega) w
  have qB8 : ∀ w : World, (Op.stringOp .add B4 A1).run Tryd.prog w = .ok (.string B8) w := fun w => by
    (try rw [hB8]); (try rw [hB4]); (try rw [hA1]); exact add_str ((([115, 116, 97, 99, 107, 32] ++ nm) ++ [32])) (Lib.decDigits sz.toNat) (by simp only [List.length_append, List.length_cons, List.length_nil] at hlen ⊢; omega) w
  have qB12 : ∀ w : World, (Op.stringOp .add B8 A2).run Tryd.prog w = .ok (.string B12) w := fun w => by
    (try rw [hB12]); (try rw [hB8]); (try rw [hA2]); exact add_str (((([115, 116, 97, 99, 107, 32] ++ nm) ++ [32]) ++ Lib.decDigits sz.toNat)) (secT sc) (by simp only [List.length_append, List.length_cons, List.length_nil] at hlen ⊢; omega) w
  have qB13 : ∀ w : World, (Op.stringOp .add B12 ⟨#[59]⟩).run Tryd.prog w = .ok (.string B13) w := fun w => by
    (try rw [hB13]); (try rw [hB12]); exact add_str ((((([115, 116, 97, 99, 107, 32] ++ nm) ++ [32]) ++ Lib.decDigits sz.toNat) ++ secT sc)) ([59]) (by simp only [List.length_append, List.length_cons, List.length_nil] at hlen ⊢; omega) w
  have HF := Lib.hid (show str ((((([115, 116, 97, 99, 107, 32] ++ nm) ++ [32]) ++ Lib.decDigits sz.toNat) ++ secT sc) ++ [59]) = B13 by rw [hB13])
  rw [← hNM]
  clear hNM hA1 hA2 HSc hB3 hB4 hB8 hB12 hB13 hk hG hG1 hB1 hsz hsu
  go_enter Tryd.func65, Tryd.ntmps65
  go_wp2_with fail
  try rw [hW1]
  clear hW1
  have HS : Below W1.heap.size W1 W1.drew := (Below.refl _ _).drew
  refine wp_region_held_drew (S := fun W => Below W1.heap.size W1 W ∧ W.cell? ⟨w.heap.size, 0, none⟩ = some (.string NM) ∧ W.cell? ⟨w.heap.size, 2, none⟩ = some (.int .i64 sz) ∧ W.cell? ⟨w.heap.size, 3, none⟩ = some (.bool sc)) (by kernel_rfl) ?_ (fun hHeld => ?_)
  · exact ⟨HS, (HS.cell ht1).trans x0, (HS.cell ht1).trans x2, (HS.cell ht1).trans x3⟩
  refine wpAnyH_take (i := 0) (oi := { dst := Option.some 17, op := Go.Op.move (Go.Operand.tmp 3), type := 9, pos := "lines.go:127", after := #[], guard := Option.none }) (v := ?_) rfl (by kernel_rfl) (by kernel_rfl) (by kernel_rfl) (fun _ _ _ h => h) (Or.inl ⟨by rfl, ?_⟩) (by assumption) ?_
  rotate_left
  · (intro w hSw; (try dsimp only at hSw); go_simp; try with_reducible rfl)
  try simp only [Act.put, List.setIfInBounds_toArray, List.set_cons_zero, List.set_cons_succ]
  refine wpAnyH_take (i := 1) (oi := { dst := Option.some 18, op := Go.Op.fieldAddr 48 (Go.Operand.tmp 1) 0, type := 0, pos := "lines.go:127", after := #[], guard := Option.none }) (v := ?_) rfl (by kernel_rfl) (by kernel_rfl) (by kernel_rfl) (fun _ _ _ h => h) (Or.inl ⟨by rfl, ?_⟩) (by assumption) ?_
  rotate_left
  · (intro w hSw; (try dsimp only at hSw); go_simp; try with_reducible rfl)
  try simp only [Act.put, List.setIfInBounds_toArray, List.set_cons_zero, List.set_cons_succ]
  refine wpAnyH_take (i := 2) (oi := { dst := Option.some 19, op := Go.Op.load 9 (Go.Operand.tmp 18), type := 9, pos := "lines.go:127", after := #[{ on := 1, ground := Go.Ground.data }], guard := Option.none }) (v := ?_) rfl (by kernel_rfl) (by kernel_rfl) (by kernel_rfl) (fun _ _ _ h => h) (Or.inl ⟨by rfl, ?_⟩) (by assumption) ?_
  rotate_left
  · (intro w hSw; (try dsimp only at hSw); go_simp; try with_reducible rfl)
  try simp only [Act.put, List.setIfInBounds_toArray, List.set_cons_zero, List.set_cons_succ]
  refine wpAnyH_take (i := 3) (oi := { dst := Option.some 20, op := Go.Op.binOp Go.BinOp.add 9 (Go.Operand.tmp 17) (Go.Operand.tmp 19) 9, type := 9, pos := "lines.go:127", after := #[{ on := 0, ground := Go.Ground.data }, { on := 2, ground := Go.Ground.data }], guard := Option.none }) (v := .string B3) rfl (by kernel_rfl) (by kernel_rfl) (by kernel_rfl) (fun _ _ _ h => h) (Or.inl ⟨by rfl, ?_⟩) (by assumption) ?_
  · (intro w hSw; (try dsimp only at hSw); go_simp)
  try simp only [Act.put, List.setIfInBounds_toArray, List.set_cons_zero, List.set_cons_succ]
  refine wpAnyH_take (i := 4) (oi := { dst := Option.some 21, op := Go.Op.binOp Go.BinOp.add 9 (Go.Operand.tmp 20) (Go.Operand.const (Go.Value.string { data := #[32] })) 9, type := 9, pos := "lines.go:127", after := #[{ on := 3, ground := Go.Ground.data }], guard := Option.none }) (v := .string B4) rfl (by kernel_rfl) (by kernel_rfl) (by kernel_rfl) (fun _ _ _ h => h) (Or.inl ⟨by rfl, ?_⟩) (by assumption) ?_
  · (intro w hSw; (try dsimp only at hSw); go_simp)
  try simp only [Act.put, List.setIfInBounds_toArray, List.set_cons_zero, List.set_cons_succ]
  refine wpAnyH_take (i := 5) (oi := { dst := Option.some 22, op := Go.Op.fieldAddr 48 (Go.Operand.tmp 1) 2, type := 0, pos := "lines.go:127", after := #[], guard := Option.none }) (v := ?_) rfl (by kernel_rfl) (by kernel_rfl) (by kernel_rfl) (fun _ _ _ h => h) (Or.inl ⟨by rfl, ?_⟩) (by assumption) ?_
  rotate_left
  · (intro w hSw; (try dsimp only at hSw); go_simp; try with_reducible rfl)
  try simp only [Act.put, List.setIfInBounds_toArray, List.set_cons_zero, List.set_cons_succ]
  refine wpAnyH_take (i := 6) (oi := { dst := Option.some 23, op := Go.Op.load 3 (Go.Operand.tmp 22), type := 3, pos := "lines.go:127", after := #[{ on := 5, ground := Go.Ground.data }], guard := Option.none }) (v := ?_) rfl (by kernel_rfl) (by kernel_rfl) (by kernel_rfl) (fun _ _ _ h => h) (Or.inl ⟨by rfl, ?_⟩) (by assumption) ?_
  rotate_left
  · (intro w hSw; (try dsimp only at hSw); go_simp; try with_reducible rfl)
  try simp only [Act.put, List.setIfInBounds_toArray, List.set_cons_zero, List.set_cons_succ]
  refine wpAnyH_take (i := 9) (oi := { dst := Option.some 26, op := Go.Op.fieldAddr 48 (Go.Operand.tmp 1) 3, type := 0, pos := "lines.go:127", after := #[], guard := Option.none }) (v := ?_) rfl (by kernel_rfl) (by kernel_rfl) (by kernel_rfl) (fun _ _ _ h => h) (Or.inl ⟨by rfl, ?_⟩) (by assumption) ?_
  rotate_left
  · (intro w hSw; (try dsimp only at hSw); go_simp; try with_reducible rfl)
  try simp only [Act.put, List.setIfInBounds_toArray, List.set_cons_zero, List.set_cons_succ]
  refine wpAnyH_take (i := 10) (oi := { dst := Option.some 27, op := Go.Op.load 4 (Go.Operand.tmp 26), type := 4, pos := "lines.go:127", after := #[{ on := 9, ground := Go.Ground.data }], guard := Option.none }) (v := ?_) rfl (by kernel_rfl) (by kernel_rfl) (by kernel_rfl) (fun _ _ _ h => h) (Or.inl ⟨by rfl, ?_⟩) (by assumption) ?_
  rotate_left
  · (intro w hSw; (try dsimp only at hSw); go_simp; try with_reducible rfl)
  try simp only [Act.put, List.setIfInBounds_toArray, List.set_cons_zero, List.set_cons_succ]
  refine wpAnyH_ready (rs := [7]) (by kernel_rfl) (by simp) ?_
  refine AllReadyH.cons (o := { dst := Option.some 24, op := Go.Op.call { callee := Go.Callee.value (Go.Operand.func 62), args := #[Go.Operand.tmp 23], argTypes := #[3] }, type := 9, pos := "lines.go:127", after := #[{ on := 6, ground := Go.Ground.data }], guard := Option.none }) rfl (fun K hK => ?_) AllReadyH.nil
  go_simp
  refine (HSz.out _ HS).mono ?_
  rintro z wa ⟨rfl, hB'⟩
  replace HS := HS.trans (hB'.mono HS.size)
  clear hB'
  refine hK.out _ _ ?_ (fun hHeld => ?_)
  · exact ⟨HS, (HS.cell ht1).trans x0, (HS.cell ht1).trans x2, (HS.cell ht1).trans x3⟩
  clear hK K
  try simp only [Act.put, List.setIfInBounds_toArray, List.set_cons_zero, List.set_cons_succ]
  refine wpAnyH_take (i := 8) (oi := { dst := Option.some 25, op := Go.Op.binOp Go.BinOp.add 9 (Go.Operand.tmp 21) (Go.Operand.tmp 24) 9, type := 9, pos := "lines.go:127", after := #[{ on := 4, ground := Go.Ground.data }, { on := 7, ground := Go.Ground.data }], guard := Option.none }) (v := .string B8) rfl (by kernel_rfl) (by kernel_rfl) (by kernel_rfl) (fun _ _ _ h => h) (Or.inl ⟨by rfl, ?_⟩) (by assumption) ?_
  · (intro w hSw; (try dsimp only at hSw); go_simp)
  try simp only [Act.put, List.setIfInBounds_toArray, List.set_cons_zero, List.set_cons_succ]
  refine wpAnyH_ready (rs := [11]) (by kernel_rfl) (by simp) ?_
  refine AllReadyH.cons (o := { dst := Option.some 28, op := Go.Op.call { callee := Go.Callee.value (Go.Operand.func 63), args := #[Go.Operand.tmp 27], argTypes := #[4] }, type := 9, pos := "lines.go:127", after := #[{ on := 10, ground := Go.Ground.data }, { on := 7, ground := Go.Ground.chain }], guard := Option.none }) rfl (fun K hK => ?_) AllReadyH.nil
  go_simp
  refine (HSec.out _).mono ?_
  rintro z wa ⟨rfl, rfl⟩
  refine hK.out _ _ ?_ (fun hHeld => ?_)
  · exact ⟨HS, (HS.cell ht1).trans x0, (HS.cell ht1).trans x2, (HS.cell ht1).trans x3⟩
  clear hK K
  try simp only [Act.put, List.setIfInBounds_toArray, List.set_cons_zero, List.set_cons_succ]
  refine wpAnyH_take (i := 12) (oi := { dst := Option.some 29, op := Go.Op.binOp Go.BinOp.add 9 (Go.Operand.tmp 25) (Go.Operand.tmp 28) 9, type := 9, pos := "lines.go:127", after := #[{ on := 8, ground := Go.Ground.data }, { on := 11, ground := Go.Ground.data }], guard := Option.none }) (v := .string B12) rfl (by kernel_rfl) (by kernel_rfl) (by kernel_rfl) (fun _ _ _ h => h) (Or.inl ⟨by rfl, ?_⟩) (by assumption) ?_
  · (intro w hSw; (try dsimp only at hSw); go_simp)
  try simp only [Act.put, List.setIfInBounds_toArray, List.set_cons_zero, List.set_cons_succ]
  refine wpAnyH_take (i := 13) (oi := { dst := Option.some 30, op := Go.Op.binOp Go.BinOp.add 9 (Go.Operand.tmp 29) (Go.Operand.const (Go.Value.string { data := #[59] })) 9, type := 9, pos := "lines.go:127", after := #[{ on := 12, ground := Go.Ground.data }], guard := Option.none }) (v := .string B13) rfl (by kernel_rfl) (by kernel_rfl) (by kernel_rfl) (fun _ _ _ h => h) (Or.inl ⟨by rfl, ?_⟩) (by assumption) ?_
  · (intro w hSw; (try dsimp only at hSw); go_simp)
  try simp only [Act.put, List.setIfInBounds_toArray, List.set_cons_zero, List.set_cons_succ]
  refine wpAnyH_take (i := 14) (oi := { dst := Option.some 2, op := Go.Op.assign (Go.Operand.tmp 30), type := 9, pos := "lines.go:127", after := #[{ on := 13, ground := Go.Ground.data }, { on := 11, ground := Go.Ground.chain }, { on := 0, ground := Go.Ground.phase }, { on := 1, ground := Go.Ground.phase }, { on := 2, ground := Go.Ground.phase }, { on := 3, ground := Go.Ground.phase }, { on := 4, ground := Go.Ground.phase }, { on := 5, ground := Go.Ground.phase }, { on := 6, ground := Go.Ground.phase }, { on := 7, ground := Go.Ground.phase }, { on := 8, ground := Go.Ground.phase }, { on := 9, ground := Go.Ground.phase }, { on := 10, ground := Go.Ground.phase }, { on := 11, ground := Go.Ground.phase }, { on := 12, ground := Go.Ground.phase }, { on := 13, ground := Go.Ground.phase }], guard := Option.none }) (v := ?_) rfl (by kernel_rfl) (by kernel_rfl) (by kernel_rfl) (fun _ _ _ h => h) (Or.inl ⟨by rfl, ?_⟩) (by assumption) ?_
  rotate_left
  · (intro w hSw; (try dsimp only at hSw); go_simp; try with_reducible rfl)
  try simp only [Act.put, List.setIfInBounds_toArray, List.set_cons_zero, List.set_cons_succ]
  refine wpAnyH_done (by kernel_rfl) ?_ _
  have HE := Lib.hid (HB1.out.trans (HS.mono HB1.out.size))
  go_wp2_with fail
  go_ret
  exact ⟨ret_strE HF.out.symm, HE.out⟩
theorem varLine_any (x : Vr) (hm : x.may = true) (hf : x.fit) (w : World) (hG : Glob w) (hl : x.line.length ≤ 1000000) :
    Calls Tryd.prog 65 #[.agg #[.string (str x.name), .int .i64 x.kind, .int .i64 x.size, .bool x.secret]] w fun z w' => z = .returned (.string (str x.line)) ∧ Below w.heap.size w w' := by
  obtain ⟨nm, kd, sz, sc⟩ := x
  unfold Vr.may Vr.mayP at hm
  unfold Vr.line Vr.word at hl ⊢
  obtain ⟨_, hsu⟩ := hf
  simp only [] at hm hl hsu ⊢
  by_cases h1 : kd = 1
  · subst h1
    rw [if_pos rfl] at hl ⊢
    simp only [List.length_append, List.length_cons, List.length_nil] at hl
    exact varLine_1 nm sz sc w (by omega)
  · rw [if_neg h1] at hm hl ⊢
    by_cases h2 : kd = 2
    · subst h2
      simp only [if_true, true_or, Bool.and_eq_true, decide_eq_true_eq] at hm hl ⊢
      simp only [List.length_append, List.length_cons, List.length_nil] at hl
      exact varLine_2 nm sz sc hm.2 hsu w hG (by omega)
    · by_cases h3 : kd = 3
      · subst h3
        rw [if_neg h2] at hl ⊢
        simp only [or_true, if_true, Bool.and_eq_true, decide_eq_true_eq] at hm
        simp only [List.length_append, List.length_cons, List.length_nil] at hl
        exact varLine_3 nm sz sc hm.2 hsu w hG (by omega)
      · rw [if_neg (by omega)] at hm; cases hm
end Go.Proofs.YtkjhofnkgcjcoaaDoor
