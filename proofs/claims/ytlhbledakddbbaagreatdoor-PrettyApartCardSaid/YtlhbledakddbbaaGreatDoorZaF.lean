/- V3, V4, J2, J3, J4 as one. -/
import Derived.WalkMore
import Derived.Deep.CutBlock
import Derived.Deep.CutRange
import Derived.Test.YtlhbledakddbbaaGreatDoorQ7
import Derived.Test.YtlhbledakddbbaaGreatDoorZaE
/- A region's line; a variable's line. -/
namespace Go.Proofs.YtlhbledakddbbaaGreatDoor
open Go.RowKit

theorem secret_any (s : Bool) (w : World) : Calls Tryz.prog 125 #[.bool s] w fun e w' => e = .returned (.string (str (secT s))) ∧ w = w' := by
  cases s
  · go_enter Tryz.func125, Tryz.ntmps125
    go_wp2_with fail
    go_ret
    exact ⟨rfl, rfl⟩
  · go_enter Tryz.func125, Tryz.ntmps125
    go_wp2_with fail
    go_ret
    exact ⟨rfl, rfl⟩
theorem itoa_any (n : Int) (h0 : 0 ≤ n) (h1 : n ≤ 9223372036854775807) (w : World) (hG : Glob w) : Calls Tryz.prog 56 #[.int .i64 n] w fun e w' => e = .returned (.string (str (Lib.decDigits n.toNat))) ∧ Below w.heap.size w w' := by
  refine (Tryz.strconv_Itoa n (by omega) h1 w hG.here).mono ?_
  rintro e w' ⟨rfl, k, os, rfl⟩
  refine ⟨?_, Lib.below_grow w.heap.size w (Nat.le_refl _) k os⟩
  have : Lib.itoa n = Lib.decDigits n.toNat := by unfold Lib.itoa; rw [if_neg (by omega)]
  rw [this]; rfl

set_option maxRecDepth 100000 in
set_option maxHeartbeats 6400000 in
theorem regionLine_any (x : Rgn) (hm : x.may = true) (hf : x.fit) (w : World) (hG : Glob w) (hl : x.line.length ≤ 1000000) :
    Calls Tryz.prog 85 #[.agg #[.string (str x.name), .int .i64 x.addr, .int .i64 x.size, .bool x.secret]] w fun z w' => z = .returned (.string (str x.line)) ∧ Below w.heap.size w w' := by
  obtain ⟨nm, ad, sz, sc⟩ := x
  unfold Rgn.may at hm
  simp only [Bool.and_eq_true, decide_eq_true_eq] at hm
  obtain ⟨_, had, hsz⟩ := hm
  obtain ⟨⟨_, hau⟩, _, hsu⟩ := hf
  have ht : (Rgn.mk nm ad sz sc).line = (((((([114, 101, 103, 105, 111, 110, 32] ++ nm) ++ [32]) ++ Lib.decDigits ad.toNat) ++ [32]) ++ Lib.decDigits sz.toNat) ++ secT sc) ++ [59] := rfl
  have hlen : nm.length + (Lib.decDigits ad.toNat).length + (Lib.decDigits sz.toNat).length + (secT sc).length ≤ 1000000 := by rw [ht] at hl; simp only [List.length_append, List.length_cons, List.length_nil] at hl; omega
  obtain ⟨W1, hW1⟩ : ∃ W1, w.alloc (.cells #[.string (str nm), .int .i64 ad, .int .i64 sz, .bool sc] 77) = W1 := ⟨_, rfl⟩
  have hB1 : Below w.heap.size w W1 := by rw [← hW1]; exact (Below.refl _ _).alloc (Nat.le_refl _) _
  have hz1 : W1.heap.size = w.heap.size + 1 := by rw [← hW1]; simp
  have hk : W1.heap[w.heap.size]? = some (.cells #[.string (str nm), .int .i64 ad, .int .i64 sz, .bool sc] 77 (0, 0)) := by rw [← hW1]; exact heap_alloc_new w _
  have ht1 : w.heap.size < W1.heap.size := by omega
  have hG1 := hG.later hB1
  have HB1 := Lib.hid hB1
  have HAd := Lib.hid (fun (w1 : World) (hB : Below W1.heap.size W1 w1) => itoa_any ad had hau w1 (hG1.later hB))
  have HSz := Lib.hid (fun (w1 : World) (hB : Below W1.heap.size W1 w1) => itoa_any sz hsz hsu w1 (hG1.later hB))
  obtain ⟨NM, hNM⟩ : ∃ A, A = str (nm) := ⟨_, rfl⟩
  obtain ⟨A0, hA0⟩ : ∃ A, A = str (Lib.decDigits ad.toNat) := ⟨_, rfl⟩
  obtain ⟨A1, hA1⟩ : ∃ A, A = str (Lib.decDigits sz.toNat) := ⟨_, rfl⟩
  obtain ⟨A2, hA2⟩ : ∃ A, A = str (secT sc) := ⟨_, rfl⟩
  have HSc : ∀ w : World, Calls Tryz.prog 125 #[.bool sc] w fun e w' => e = .returned (.string A2) ∧ w = w' := fun w => by rw [hA2]; exact secret_any sc w
  have HSec := Lib.hid HSc
  rw [← hNM] at hk
  rw [← hA0] at HAd
  rw [← hA1] at HSz
  have x0 : W1.cell? ⟨w.heap.size, 0, none⟩ = some (.string NM) := cell_block hk rfl
  have x1 : W1.cell? ⟨w.heap.size, 1, none⟩ = some (.int .i64 ad) := cell_block hk rfl
  have x2 : W1.cell? ⟨w.heap.size, 2, none⟩ = some (.int .i64 sz) := cell_block hk rfl
  have x3 : W1.cell? ⟨w.heap.size, 3, none⟩ = some (.bool sc) := cell_block hk rfl
  obtain ⟨B2, hB2⟩ : ∃ B, B = str ([114, 101, 103, 105, 111, 110, 32] ++ nm) := ⟨_, rfl⟩
  obtain ⟨B3, hB3⟩ : ∃ B, B = str (([114, 101, 103, 105, 111, 110, 32] ++ nm) ++ [32]) := ⟨_, rfl⟩
  obtain ⟨B7, hB7⟩ : ∃ B, B = str ((([114, 101, 103, 105, 111, 110, 32] ++ nm) ++ [32]) ++ Lib.decDigits ad.toNat) := ⟨_, rfl⟩
  obtain ⟨B8, hB8⟩ : ∃ B, B = str (((([114, 101, 103, 105, 111, 110, 32] ++ nm) ++ [32]) ++ Lib.decDigits ad.toNat) ++ [32]) := ⟨_, rfl⟩
  obtain ⟨B12, hB12⟩ : ∃ B, B = str ((((([114, 101, 103, 105, 111, 110, 32] ++ nm) ++ [32]) ++ Lib.decDigits ad.toNat) ++ [32]) ++ Lib.decDigits sz.toNat) := ⟨_, rfl⟩
  obtain ⟨B16, hB16⟩ : ∃ B, B = str (((((([114, 101, 103, 105, 111, 110, 32] ++ nm) ++ [32]) ++ Lib.decDigits ad.toNat) ++ [32]) ++ Lib.decDigits sz.toNat) ++ secT sc) := ⟨_, rfl⟩
  obtain ⟨B17, hB17⟩ : ∃ B, B = str ((((((([114, 101, 103, 105, 111, 110, 32] ++ nm) ++ [32]) ++ Lib.decDigits ad.toNat) ++ [32]) ++ Lib.decDigits sz.toNat) ++ secT sc) ++ [59]) := ⟨_, rfl⟩
  have qB2 : ∀ w : World, (Op.stringOp .add ⟨#[114, 101, 103, 105, 111, 110, 32]⟩ NM).run Tryz.prog w = .ok (.string B2) w := fun w => by
    (try rw [hB2]); (try rw [hNM]); exact add_str ([114, 101, 103, 105, 111, 110, 32]) (nm) (by simp only [List.length_cons, List.length_nil] at hlen ⊢; omega) w
  have qB3 : ∀ w : World, (Op.stringOp .add B2 ⟨#[32]⟩).run Tryz.prog w = .ok (.string B3) w := fun w => by
    (try rw [hB3]); (try rw [hB2]); exact add_str (([114, 101, 103, 105, 111, 110, 32] ++ nm)) ([32]) (by simp only [List.length_append, List.length_cons, List.length_nil] at hlen ⊢; omega) w
  have qB7 : ∀ w : World, (Op.stringOp .add B3 A0).run Tryz.prog w = .ok (.string B7) w := fun w => by
    (try rw [hB7]); (try rw [hB3]); (try rw [hA0]); exact add_str ((([114, 101, 103, 105, 111, 110, 32] ++ nm) ++ [32])) (Lib.decDigits ad.toNat) (by simp only [List.length_append, List.length_cons, List.length_nil] at hlen ⊢; omega) w
  have qB8 : ∀ w : World, (Op.stringOp .add B7 ⟨#[32]⟩).run Tryz.prog w = .ok (.string B8) w := fun w => by
    (try rw [hB8]); (try rw [hB7]); exact add_str (((([114, 101, 103, 105, 111, 110, 32] ++ nm) ++ [32]) ++ Lib.decDigits ad.toNat)) ([32]) (by simp only [List.length_append, List.length_cons, List.length_nil] at hlen ⊢; omega) w
  have qB12 : ∀ w : World, (Op.stringOp .add B8 A1).run Tryz.prog w = .ok (.string B12) w := fun w => by
    (try rw [hB12]); (try rw [hB8]); (try rw [hA1]); exact add_str ((((([114, 101, 103, 105, 111, 110, 32] ++ nm) ++ [32]) ++ Lib.decDigits ad.toNat) ++ [32])) (Lib.decDigits sz.toNat) (by simp only [List.length_append, List.length_cons, List.length_nil] at hlen ⊢; omega) w
  have qB16 : ∀ w : World, (Op.stringOp .add B12 A2).run Tryz.prog w = .ok (.string B16) w := fun w => by
    (try rw [hB16]); (try rw [hB12]); (try rw [hA2]); exact add_str (((((([114, 101, 103, 105, 111, 110, 32] ++ nm) ++ [32]) ++ Lib.decDigits ad.toNat) ++ [32]) ++ Lib.decDigits sz.toNat)) (secT sc) (by simp only [List.length_append, List.length_cons, List.length_nil] at hlen ⊢; omega) w
  have qB17 : ∀ w : World, (Op.stringOp .add B16 ⟨#[59]⟩).run Tryz.prog w = .ok (.string B17) w := fun w => by
    (try rw [hB17]); (try rw [hB16]); exact add_str ((((((([114, 101, 103, 105, 111, 110, 32] ++ nm) ++ [32]) ++ Lib.decDigits ad.toNat) ++ [32]) ++ Lib.decDigits sz.toNat) ++ secT sc)) ([59]) (by simp only [List.length_append, List.length_cons, List.length_nil] at hlen ⊢; omega) w
  have HF := Lib.hid (show str (Rgn.mk nm ad sz sc).line = B17 by rw [ht, hB17])
  show Calls _ _ #[.agg #[.string (str nm), .int .i64 ad, .int .i64 sz, .bool sc]] w _
  rw [← hNM]
  clear hA0 hA1 hA2 HSc hB2 hB3 hB7 hB8 hB12 hB16 hB17 hl ht hk hG hG1 hB1 had hau hsz hsu
  rw [← hNM] at hW1
  clear hNM
  go_enter Tryz.func85, Tryz.ntmps85
  go_wp2_with fail
  try rw [hW1]
  clear hW1
  have HS : Below W1.heap.size W1 W1.drew := (Below.refl _ _).drew
  refine wp_region_held_drew (S := fun W => Below W1.heap.size W1 W ∧ W.cell? ⟨w.heap.size, 0, none⟩ = some (.string NM) ∧ W.cell? ⟨w.heap.size, 1, none⟩ = some (.int .i64 ad) ∧ W.cell? ⟨w.heap.size, 2, none⟩ = some (.int .i64 sz) ∧ W.cell? ⟨w.heap.size, 3, none⟩ = some (.bool sc)) (by kernel_rfl) ?_ (fun hHeld => ?_)
  · exact ⟨HS, (HS.cell ht1).trans x0, (HS.cell ht1).trans x1, (HS.cell ht1).trans x2, (HS.cell ht1).trans x3⟩
  refine wpAnyH_take (i := 0) (oi := { dst := Option.some 3, op := Go.Op.fieldAddr 77 (Go.Operand.tmp 1) 0, type := 0, pos := "lines.go:102", after := #[], guard := Option.none }) (v := ?_) rfl (by kernel_rfl) (by kernel_rfl) (by kernel_rfl) (fun _ _ _ h => h) (Or.inl ⟨by rfl, ?_⟩) (by assumption) ?_
  rotate_left
  · (intro w hSw; (try dsimp only at hSw); go_simp; try with_reducible rfl)
  try simp only [Act.put, List.setIfInBounds_toArray, List.set_cons_zero, List.set_cons_succ]
  refine wpAnyH_take (i := 1) (oi := { dst := Option.some 4, op := Go.Op.load 9 (Go.Operand.tmp 3), type := 9, pos := "lines.go:102", after := #[{ on := 0, ground := Go.Ground.data }], guard := Option.none }) (v := ?_) rfl (by kernel_rfl) (by kernel_rfl) (by kernel_rfl) (fun _ _ _ h => h) (Or.inl ⟨by rfl, ?_⟩) (by assumption) ?_
  rotate_left
  · (intro w hSw; (try dsimp only at hSw); go_simp; try with_reducible rfl)
  try simp only [Act.put, List.setIfInBounds_toArray, List.set_cons_zero, List.set_cons_succ]
  refine wpAnyH_take (i := 2) (oi := { dst := Option.some 5, op := Go.Op.binOp Go.BinOp.add 9 (Go.Operand.const (Go.Value.string { data := #[114, 101, 103, 105, 111, 110, 32] })) (Go.Operand.tmp 4) 9, type := 9, pos := "lines.go:102", after := #[{ on := 1, ground := Go.Ground.data }], guard := Option.none }) (v := .string B2) rfl (by kernel_rfl) (by kernel_rfl) (by kernel_rfl) (fun _ _ _ h => h) (Or.inl ⟨by rfl, ?_⟩) (by assumption) ?_
  · (intro w hSw; (try dsimp only at hSw); go_simp)
  try simp only [Act.put, List.setIfInBounds_toArray, List.set_cons_zero, List.set_cons_succ]
  refine wpAnyH_take (i := 3) (oi := { dst := Option.some 6, op := Go.Op.binOp Go.BinOp.add 9 (Go.Operand.tmp 5) (Go.Operand.const (Go.Value.string { data := #[32] })) 9, type := 9, pos := "lines.go:102", after := #[{ on := 2, ground := Go.Ground.data }], guard := Option.none }) (v := .string B3) rfl (by kernel_rfl) (by kernel_rfl) (by kernel_rfl) (fun _ _ _ h => h) (Or.inl ⟨by rfl, ?_⟩) (by assumption) ?_
  · (intro w hSw; (try dsimp only at hSw); go_simp)
  try simp only [Act.put, List.setIfInBounds_toArray, List.set_cons_zero, List.set_cons_succ]
  refine wpAnyH_take (i := 4) (oi := { dst := Option.some 7, op := Go.Op.fieldAddr 77 (Go.Operand.tmp 1) 1, type := 0, pos := "lines.go:102", after := #[], guard := Option.none }) (v := ?_) rfl (by kernel_rfl) (by kernel_rfl) (by kernel_rfl) (fun _ _ _ h => h) (Or.inl ⟨by rfl, ?_⟩) (by assumption) ?_
  rotate_left
  · (intro w hSw; (try dsimp only at hSw); go_simp; try with_reducible rfl)
  try simp only [Act.put, List.setIfInBounds_toArray, List.set_cons_zero, List.set_cons_succ]
  refine wpAnyH_take (i := 5) (oi := { dst := Option.some 8, op := Go.Op.load 3 (Go.Operand.tmp 7), type := 3, pos := "lines.go:102", after := #[{ on := 4, ground := Go.Ground.data }], guard := Option.none }) (v := ?_) rfl (by kernel_rfl) (by kernel_rfl) (by kernel_rfl) (fun _ _ _ h => h) (Or.inl ⟨by rfl, ?_⟩) (by assumption) ?_
  rotate_left
  · (intro w hSw; (try dsimp only at hSw); go_simp; try with_reducible rfl)
  try simp only [Act.put, List.setIfInBounds_toArray, List.set_cons_zero, List.set_cons_succ]
  refine wpAnyH_take (i := 9) (oi := { dst := Option.some 12, op := Go.Op.fieldAddr 77 (Go.Operand.tmp 1) 2, type := 0, pos := "lines.go:102", after := #[], guard := Option.none }) (v := ?_) rfl (by kernel_rfl) (by kernel_rfl) (by kernel_rfl) (fun _ _ _ h => h) (Or.inl ⟨by rfl, ?_⟩) (by assumption) ?_
  rotate_left
  · (intro w hSw; (try dsimp only at hSw); go_simp; try with_reducible rfl)
  try simp only [Act.put, List.setIfInBounds_toArray, List.set_cons_zero, List.set_cons_succ]
  refine wpAnyH_take (i := 10) (oi := { dst := Option.some 13, op := Go.Op.load 3 (Go.Operand.tmp 12), type := 3, pos := "lines.go:102", after := #[{ on := 9, ground := Go.Ground.data }], guard := Option.none }) (v := ?_) rfl (by kernel_rfl) (by kernel_rfl) (by kernel_rfl) (fun _ _ _ h => h) (Or.inl ⟨by rfl, ?_⟩) (by assumption) ?_
  rotate_left
  · (intro w hSw; (try dsimp only at hSw); go_simp; try with_reducible rfl)
  try simp only [Act.put, List.setIfInBounds_toArray, List.set_cons_zero, List.set_cons_succ]
  refine wpAnyH_take (i := 13) (oi := { dst := Option.some 16, op := Go.Op.fieldAddr 77 (Go.Operand.tmp 1) 3, type := 0, pos := "lines.go:102", after := #[], guard := Option.none }) (v := ?_) rfl (by kernel_rfl) (by kernel_rfl) (by kernel_rfl) (fun _ _ _ h => h) (Or.inl ⟨by rfl, ?_⟩) (by assumption) ?_
  rotate_left
  · (intro w hSw; (try dsimp only at hSw); go_simp; try with_reducible rfl)
  try simp only [Act.put, List.setIfInBounds_toArray, List.set_cons_zero, List.set_cons_succ]
  refine wpAnyH_take (i := 14) (oi := { dst := Option.some 17, op := Go.Op.load 4 (Go.Operand.tmp 16), type := 4, pos := "lines.go:102", after := #[{ on := 13, ground := Go.Ground.data }], guard := Option.none }) (v := ?_) rfl (by kernel_rfl) (by kernel_rfl) (by kernel_rfl) (fun _ _ _ h => h) (Or.inl ⟨by rfl, ?_⟩) (by assumption) ?_
  rotate_left
  · (intro w hSw; (try dsimp only at hSw); go_simp; try with_reducible rfl)
  try simp only [Act.put, List.setIfInBounds_toArray, List.set_cons_zero, List.set_cons_succ]
  refine wpAnyH_ready (rs := [6]) (by kernel_rfl) (by simp) ?_
  refine AllReadyH.cons (o := { dst := Option.some 9, op := Go.Op.call { callee := Go.Callee.value (Go.Operand.func 56), args := #[Go.Operand.tmp 8], argTypes := #[3] }, type := 9, pos := "lines.go:102", after := #[{ on := 5, ground := Go.Ground.data }], guard := Option.none }) rfl (fun K hK => ?_) AllReadyH.nil
  go_simp
  refine (HAd.out _ HS).mono ?_
  rintro z wa ⟨rfl, hB'⟩
  replace HS := HS.trans (hB'.mono HS.size)
  clear hB'
  refine hK.out _ _ ?_ (fun hHeld => ?_)
  · exact ⟨HS, (HS.cell ht1).trans x0, (HS.cell ht1).trans x1, (HS.cell ht1).trans x2, (HS.cell ht1).trans x3⟩
  clear hK K
  try simp only [Act.put, List.setIfInBounds_toArray, List.set_cons_zero, List.set_cons_succ]
  refine wpAnyH_take (i := 7) (oi := { dst := Option.some 10, op := Go.Op.binOp Go.BinOp.add 9 (Go.Operand.tmp 6) (Go.Operand.tmp 9) 9, type := 9, pos := "lines.go:102", after := #[{ on := 3, ground := Go.Ground.data }, { on := 6, ground := Go.Ground.data }], guard := Option.none }) (v := .string B7) rfl (by kernel_rfl) (by kernel_rfl) (by kernel_rfl) (fun _ _ _ h => h) (Or.inl ⟨by rfl, ?_⟩) (by assumption) ?_
  · (intro w hSw; (try dsimp only at hSw); go_simp)
  try simp only [Act.put, List.setIfInBounds_toArray, List.set_cons_zero, List.set_cons_succ]
  refine wpAnyH_take (i := 8) (oi := { dst := Option.some 11, op := Go.Op.binOp Go.BinOp.add 9 (Go.Operand.tmp 10) (Go.Operand.const (Go.Value.string { data := #[32] })) 9, type := 9, pos := "lines.go:102", after := #[{ on := 7, ground := Go.Ground.data }], guard := Option.none }) (v := .string B8) rfl (by kernel_rfl) (by kernel_rfl) (by kernel_rfl) (fun _ _ _ h => h) (Or.inl ⟨by rfl, ?_⟩) (by assumption) ?_
  · (intro w hSw; (try dsimp only at hSw); go_simp)
  try simp only [Act.put, List.setIfInBounds_toArray, List.set_cons_zero, List.set_cons_succ]
  refine wpAnyH_ready (rs := [11]) (by kernel_rfl) (by simp) ?_
  refine AllReadyH.cons (o := { dst := Option.some 14, op := Go.Op.call { callee := Go.Callee.value (Go.Operand.func 56), args := #[Go.Operand.tmp 13], argTypes := #[3] }, type := 9, pos := "lines.go:102", after := #[{ on := 10, ground := Go.Ground.data }, { on := 6, ground := Go.Ground.chain }], guard := Option.none }) rfl (fun K hK => ?_) AllReadyH.nil
  go_simp
  refine (HSz.out _ HS).mono ?_
  rintro z wa ⟨rfl, hB'⟩
  replace HS := HS.trans (hB'.mono HS.size)
  clear hB'
  refine hK.out _ _ ?_ (fun hHeld => ?_)
  · exact ⟨HS, (HS.cell ht1).trans x0, (HS.cell ht1).trans x1, (HS.cell ht1).trans x2, (HS.cell ht1).trans x3⟩
  clear hK K
  try simp only [Act.put, List.setIfInBounds_toArray, List.set_cons_zero, List.set_cons_succ]
  refine wpAnyH_take (i := 12) (oi := { dst := Option.some 15, op := Go.Op.binOp Go.BinOp.add 9 (Go.Operand.tmp 11) (Go.Operand.tmp 14) 9, type := 9, pos := "lines.go:102", after := #[{ on := 8, ground := Go.Ground.data }, { on := 11, ground := Go.Ground.data }], guard := Option.none }) (v := .string B12) rfl (by kernel_rfl) (by kernel_rfl) (by kernel_rfl) (fun _ _ _ h => h) (Or.inl ⟨by rfl, ?_⟩) (by assumption) ?_
  · (intro w hSw; (try dsimp only at hSw); go_simp)
  try simp only [Act.put, List.setIfInBounds_toArray, List.set_cons_zero, List.set_cons_succ]
  refine wpAnyH_ready (rs := [15]) (by kernel_rfl) (by simp) ?_
  refine AllReadyH.cons (o := { dst := Option.some 18, op := Go.Op.call { callee := Go.Callee.value (Go.Operand.func 125), args := #[Go.Operand.tmp 17], argTypes := #[4] }, type := 9, pos := "lines.go:102", after := #[{ on := 14, ground := Go.Ground.data }, { on := 11, ground := Go.Ground.chain }], guard := Option.none }) rfl (fun K hK => ?_) AllReadyH.nil
  go_simp
  refine (HSec.out _).mono ?_
  rintro z wa ⟨rfl, rfl⟩
  refine hK.out _ _ ?_ (fun hHeld => ?_)
  · exact ⟨HS, (HS.cell ht1).trans x0, (HS.cell ht1).trans x1, (HS.cell ht1).trans x2, (HS.cell ht1).trans x3⟩
  clear hK K
  try simp only [Act.put, List.setIfInBounds_toArray, List.set_cons_zero, List.set_cons_succ]
  refine wpAnyH_take (i := 16) (oi := { dst := Option.some 19, op := Go.Op.binOp Go.BinOp.add 9 (Go.Operand.tmp 15) (Go.Operand.tmp 18) 9, type := 9, pos := "lines.go:102", after := #[{ on := 12, ground := Go.Ground.data }, { on := 15, ground := Go.Ground.data }], guard := Option.none }) (v := .string B16) rfl (by kernel_rfl) (by kernel_rfl) (by kernel_rfl) (fun _ _ _ h => h) (Or.inl ⟨by rfl, ?_⟩) (by assumption) ?_
  · (intro w hSw; (try dsimp only at hSw); go_simp)
  try simp only [Act.put, List.setIfInBounds_toArray, List.set_cons_zero, List.set_cons_succ]
  refine wpAnyH_take (i := 17) (oi := { dst := Option.some 20, op := Go.Op.binOp Go.BinOp.add 9 (Go.Operand.tmp 19) (Go.Operand.const (Go.Value.string { data := #[59] })) 9, type := 9, pos := "lines.go:102", after := #[{ on := 16, ground := Go.Ground.data }], guard := Option.none }) (v := .string B17) rfl (by kernel_rfl) (by kernel_rfl) (by kernel_rfl) (fun _ _ _ h => h) (Or.inl ⟨by rfl, ?_⟩) (by assumption) ?_
  · (intro w hSw; (try dsimp only at hSw); go_simp)
  try simp only [Act.put, List.setIfInBounds_toArray, List.set_cons_zero, List.set_cons_succ]
  refine wpAnyH_take (i := 18) (oi := { dst := Option.some 2, op := Go.Op.assign (Go.Operand.tmp 20), type := 9, pos := "lines.go:102", after := #[{ on := 17, ground := Go.Ground.data }, { on := 15, ground := Go.Ground.chain }, { on := 0, ground := Go.Ground.phase }, { on := 1, ground := Go.Ground.phase }, { on := 2, ground := Go.Ground.phase }, { on := 3, ground := Go.Ground.phase }, { on := 4, ground := Go.Ground.phase }, { on := 5, ground := Go.Ground.phase }, { on := 6, ground := Go.Ground.phase }, { on := 7, ground := Go.Ground.phase }, { on := 8, ground := Go.Ground.phase }, { on := 9, ground := Go.Ground.phase }, { on := 10, ground := Go.Ground.phase }, { on := 11, ground := Go.Ground.phase }, { on := 12, ground := Go.Ground.phase }, { on := 13, ground := Go.Ground.phase }, { on := 14, ground := Go.Ground.phase }, { on := 15, ground := Go.Ground.phase }, { on := 16, ground := Go.Ground.phase }, { on := 17, ground := Go.Ground.phase }], guard := Option.none }) (v := ?_) rfl (by kernel_rfl) (by kernel_rfl) (by kernel_rfl) (fun _ _ _ h => h) (Or.inl ⟨by rfl, ?_⟩) (by assumption) ?_
  rotate_left
  · (intro w hSw; (try dsimp only at hSw); go_simp; try with_reducible rfl)
  try simp only [Act.put, List.setIfInBounds_toArray, List.set_cons_zero, List.set_cons_succ]
  refine wpAnyH_done (by kernel_rfl) ?_ _
  have HE := Lib.hid (HB1.out.trans (HS.mono HB1.out.size))
  go_wp2_with fail
  go_ret
  exact ⟨ret_strE HF.out.symm, HE.out⟩
set_option maxRecDepth 100000 in
set_option maxHeartbeats 6400000 in
theorem varLine_1 (nm : List UInt8) (sz : Int) (sc : Bool) (w : World) (hl : nm.length ≤ 1000000) :
    Calls Tryz.prog 127 #[.agg #[.string (str nm), .int .i64 1, .int .i64 sz, .bool sc]] w fun z w' => z = .returned (.string (str (([118, 97, 114, 32] ++ nm) ++ [59]))) ∧ Below w.heap.size w w' := by
  have hlen := hl
  obtain ⟨NM, hNM⟩ : ∃ A, A = str (nm) := ⟨_, rfl⟩
  obtain ⟨B3, hB3⟩ : ∃ B, B = str ([118, 97, 114, 32] ++ nm) := ⟨_, rfl⟩
  obtain ⟨B4, hB4⟩ : ∃ B, B = str (([118, 97, 114, 32] ++ nm) ++ [59]) := ⟨_, rfl⟩
  have qB3 : ∀ w : World, (Op.stringOp .add ⟨#[118, 97, 114, 32]⟩ NM).run Tryz.prog w = .ok (.string B3) w := fun w => by
    (try rw [hB3]); (try rw [hNM]); exact add_str ([118, 97, 114, 32]) (nm) (by simp only [List.length_cons, List.length_nil] at hlen ⊢; omega) w
  have qB4 : ∀ w : World, (Op.stringOp .add B3 ⟨#[59]⟩).run Tryz.prog w = .ok (.string B4) w := fun w => by
    (try rw [hB4]); (try rw [hB3]); exact add_str (([118, 97, 114, 32] ++ nm)) ([59]) (by simp only [List.length_append, List.length_cons, List.length_nil] at hlen ⊢; omega) w
  obtain ⟨W1, hW1⟩ : ∃ W1, w.alloc (.cells #[.string NM, .int .i64 1, .int .i64 sz, .bool sc] 80) = W1 := ⟨_, rfl⟩
  have hk : W1.heap[w.heap.size]? = some (.cells #[.string NM, .int .i64 1, .int .i64 sz, .bool sc] 80 (0, 0)) := by rw [← hW1]; exact heap_alloc_new w _
  have HB1 := Lib.hid (show Below w.heap.size w W1 by rw [← hW1]; exact (Below.refl _ _).alloc (Nat.le_refl _) _)
  have x0 : W1.cell? ⟨w.heap.size, 0, none⟩ = some (.string NM) := cell_block hk rfl
  have x1 : W1.cell? ⟨w.heap.size, 1, none⟩ = some (.int .i64 1) := cell_block hk rfl
  have HF := Lib.hid (show str (([118, 97, 114, 32] ++ nm) ++ [59]) = B4 by rw [hB4])
  rw [← hNM]
  clear hNM hB3 hB4 hk
  go_enter Tryz.func127, Tryz.ntmps127
  go_wp2_with fail
  go_ret
  exact ⟨ret_strE HF.out.symm, HB1.out⟩
set_option maxRecDepth 100000 in
set_option maxHeartbeats 6400000 in
theorem varLine_2 (nm : List UInt8) (sz : Int) (sc : Bool) (hsz : 0 ≤ sz) (hsu : sz ≤ 9223372036854775807) (w : World) (hG : Glob w) (hlen : nm.length + (Lib.decDigits sz.toNat).length + (secT sc).length ≤ 1000000) :
    Calls Tryz.prog 127 #[.agg #[.string (str nm), .int .i64 2, .int .i64 sz, .bool sc]] w fun z w' => z = .returned (.string (str ((((([97, 114, 114, 97, 121, 32] ++ nm) ++ [32]) ++ Lib.decDigits sz.toNat) ++ secT sc) ++ [59]))) ∧ Below w.heap.size w w' := by
  obtain ⟨NM, hNM⟩ : ∃ A, A = str (nm) := ⟨_, rfl⟩
  obtain ⟨A1, hA1⟩ : ∃ A, A = str (Lib.decDigits sz.toNat) := ⟨_, rfl⟩
  obtain ⟨A2, hA2⟩ : ∃ A, A = str (secT sc) := ⟨_, rfl⟩
  obtain ⟨W1, hW1⟩ : ∃ W1, w.alloc (.cells #[.string NM, .int .i64 2, .int .i64 sz, .bool sc] 80) = W1 := ⟨_, rfl⟩
  have hB1 : Below w.heap.size w W1 := by rw [← hW1]; exact (Below.refl _ _).alloc (Nat.le_refl _) _
  have hz1 : W1.heap.size = w.heap.size + 1 := by rw [← hW1]; simp
  have hk : W1.heap[w.heap.size]? = some (.cells #[.string NM, .int .i64 2, .int .i64 sz, .bool sc] 80 (0, 0)) := by rw [← hW1]; exact heap_alloc_new w _
  have ht1 : w.heap.size < W1.heap.size := by omega
  have hG1 := hG.later hB1
  have HB1 := Lib.hid hB1
  have HSz := Lib.hid (fun (w1 : World) (hB : Below W1.heap.size W1 w1) => itoa_any sz hsz hsu w1 (hG1.later hB))
  have HSc : ∀ w : World, Calls Tryz.prog 125 #[.bool sc] w fun e w' => e = .returned (.string A2) ∧ w = w' := fun w => by rw [hA2]; exact secret_any sc w
  have HSec := Lib.hid HSc
  rw [← hA1] at HSz
  have x0 : W1.cell? ⟨w.heap.size, 0, none⟩ = some (.string NM) := cell_block hk rfl
  have x1 : W1.cell? ⟨w.heap.size, 1, none⟩ = some (.int .i64 2) := cell_block hk rfl
  have x2 : W1.cell? ⟨w.heap.size, 2, none⟩ = some (.int .i64 sz) := cell_block hk rfl
  have x3 : W1.cell? ⟨w.heap.size, 3, none⟩ = some (.bool sc) := cell_block hk rfl
  obtain ⟨B3, hB3⟩ : ∃ B, B = str ([97, 114, 114, 97, 121, 32] ++ nm) := ⟨_, rfl⟩
  obtain ⟨B4, hB4⟩ : ∃ B, B = str (([97, 114, 114, 97, 121, 32] ++ nm) ++ [32]) := ⟨_, rfl⟩
  obtain ⟨B8, hB8⟩ : ∃ B, B = str ((([97, 114, 114, 97, 121, 32] ++ nm) ++ [32]) ++ Lib.decDigits sz.toNat) := ⟨_, rfl⟩
  obtain ⟨B12, hB12⟩ : ∃ B, B = str (((([97, 114, 114, 97, 121, 32] ++ nm) ++ [32]) ++ Lib.decDigits sz.toNat) ++ secT sc) := ⟨_, rfl⟩
  obtain ⟨B13, hB13⟩ : ∃ B, B = str ((((([97, 114, 114, 97, 121, 32] ++ nm) ++ [32]) ++ Lib.decDigits sz.toNat) ++ secT sc) ++ [59]) := ⟨_, rfl⟩
  have qB3 : ∀ w : World, (Op.stringOp .add ⟨#[97, 114, 114, 97, 121, 32]⟩ NM).run Tryz.prog w = .ok (.string B3) w := fun w => by
    (try rw [hB3]); (try rw [hNM]); exact add_str ([97, 114, 114, 97, 121, 32]) (nm) (by simp only [List.length_cons, List.length_nil] at hlen ⊢; omega) w
  have qB4 : ∀ w : World, (Op.stringOp .add B3 ⟨#[32]⟩).run Tryz.prog w = .ok (.string B4) w := fun w => by
    (try rw [hB4]); (try rw [hB3]); exact add_str (([97, 114, 114, 97, 121, 32] ++ nm)) ([32]) (by simp only [List.length_append, List.length_cons, List.length_nil] at hlen ⊢; omega) w
  have qB8 : ∀ w : World, (Op.stringOp .add B4 A1).run Tryz.prog w = .ok (.string B8) w := fun w => by
    (try rw [hB8]); (try rw [hB4]); (try rw [hA1]); exact add_str ((([97, 114, 114, 97, 121, 32] ++ nm) ++ [32])) (Lib.decDigits sz.toNat) (by simp only [List.length_append, List.length_cons, List.length_nil] at hlen ⊢; omega) w
  have qB12 : ∀ w : World, (Op.stringOp .add B8 A2).run Tryz.prog w = .ok (.string B12) w := fun w => by
    (try rw [hB12]); (try rw [hB8]); (try rw [hA2]); exact add_str (((([97, 114, 114, 97, 121, 32] ++ nm) ++ [32]) ++ Lib.decDigits sz.toNat)) (secT sc) (by simp only [List.length_append, List.length_cons, List.length_nil] at hlen ⊢; omega) w
  have qB13 : ∀ w : World, (Op.stringOp .add B12 ⟨#[59]⟩).run Tryz.prog w = .ok (.string B13) w := fun w => by
    (try rw [hB13]); (try rw [hB12]); exact add_str ((((([97, 114, 114, 97, 121, 32] ++ nm) ++ [32]) ++ Lib.decDigits sz.toNat) ++ secT sc)) ([59]) (by simp only [List.length_append, List.length_cons, List.length_nil] at hlen ⊢; omega) w
  have HF := Lib.hid (show str ((((([97, 114, 114, 97, 121, 32] ++ nm) ++ [32]) ++ Lib.decDigits sz.toNat) ++ secT sc) ++ [59]) = B13 by rw [hB13])
  rw [← hNM]
  clear hNM hA1 hA2 HSc hB3 hB4 hB8 hB12 hB13 hk hG hG1 hB1 hsz hsu
  go_enter Tryz.func127, Tryz.ntmps127
  go_wp2_with fail
  try rw [hW1]
  clear hW1
  have HS : Below W1.heap.size W1 W1.drew := (Below.refl _ _).drew
  refine wp_region_held_drew (S := fun W => Below W1.heap.size W1 W ∧ W.cell? ⟨w.heap.size, 0, none⟩ = some (.string NM) ∧ W.cell? ⟨w.heap.size, 2, none⟩ = some (.int .i64 sz) ∧ W.cell? ⟨w.heap.size, 3, none⟩ = some (.bool sc)) (by kernel_rfl) ?_ (fun hHeld => ?_)
  · exact ⟨HS, (HS.cell ht1).trans x0, (HS.cell ht1).trans x2, (HS.cell ht1).trans x3⟩
  refine wpAnyH_take (i := 0) (oi := { dst := Option.some 17, op := Go.Op.move (Go.Operand.tmp 3), type := 9, pos := "lines.go:127", after := #[], guard := Option.none }) (v := ?_) rfl (by kernel_rfl) (by kernel_rfl) (by kernel_rfl) (fun _ _ _ h => h) (Or.inl ⟨by rfl, ?_⟩) (by assumption) ?_
  rotate_left
  · (intro w hSw; (try dsimp only at hSw); go_simp; try with_reducible rfl)
  try simp only [Act.put, List.setIfInBounds_toArray, List.set_cons_zero, List.set_cons_succ]
  refine wpAnyH_take (i := 1) (oi := { dst := Option.some 18, op := Go.Op.fieldAddr 80 (Go.Operand.tmp 1) 0, type := 0, pos := "lines.go:127", after := #[], guard := Option.none }) (v := ?_) rfl (by kernel_rfl) (by kernel_rfl) (by kernel_rfl) (fun _ _ _ h => h) (Or.inl ⟨by rfl, ?_⟩) (by assumption) ?_
  rotate_left
  · (intro w hSw; (try dsimp only at hSw); go_simp; try with_reducible rfl)
  try simp only [Act.put, List.setIfInBounds_toArray, List.set_cons_zero, List.set_cons_succ]
  refine wpAnyH_take (i := 2) (oi := { dst := Option.some 19, op := Go.Op.load 9 (Go.Operand.tmp 18), type := 9, pos := "lines.go:127", after := #[{ on := 1, ground := Go.Ground.data }], guard := Option.none }) (v := ?_) rfl (by kernel_rfl) (by kernel_rfl) (by kernel_rfl) (fun _ _ _ h => h) (Or.inl ⟨by rfl, ?_⟩) (by assumption) ?_
  rotate_left
  · (intro w hSw; (try dsimp only at hSw); go_simp; try with_reducible rfl)
  try simp only [Act.put, List.setIfInBounds_toArray, List.set_cons_zero, List.set_cons_succ]
  refine wpAnyH_take (i := 3) (oi := { dst := Option.some 20, op := Go.Op.binOp Go.BinOp.add 9 (Go.Operand.tmp 17) (Go.Operand.tmp 19) 9, type := 9, pos := "lines.go:127", after := #[{ on := 0, ground := Go.Ground.data }, { on := 2, ground := Go.Ground.data }], guard := Option.none }) (v := .string B3) rfl (by kernel_rfl) (by kernel_rfl) (by kernel_rfl) (fun _ _ _ h => h) (Or.inl ⟨by rfl, ?_⟩) (by assumption) ?_
  · (intro w hSw; (try dsimp only at hSw); go_simp)
  try simp only [Act.put, List.setIfInBounds_toArray, List.set_cons_zero, List.set_cons_succ]
  refine wpAnyH_take (i := 4) (oi := { dst := Option.some 21, op := Go.Op.binOp Go.BinOp.add 9 (Go.Operand.tmp 20) (Go.Operand.const (Go.Value.string { data := #[32] })) 9, type := 9, pos := "lines.go:127", after := #[{ on := 3, ground := Go.Ground.data }], guard := Option.none }) (v := .string B4) rfl (by kernel_rfl) (by kernel_rfl) (by kernel_rfl) (fun _ _ _ h => h) (Or.inl ⟨by rfl, ?_⟩) (by assumption) ?_
  · (intro w hSw; (try dsimp only at hSw); go_simp)
  try simp only [Act.put, List.setIfInBounds_toArray, List.set_cons_zero, List.set_cons_succ]
  refine wpAnyH_take (i := 5) (oi := { dst := Option.some 22, op := Go.Op.fieldAddr 80 (Go.Operand.tmp 1) 2, type := 0, pos := "lines.go:127", after := #[], guard := Option.none }) (v := ?_) rfl (by kernel_rfl) (by kernel_rfl) (by kernel_rfl) (fun _ _ _ h => h) (Or.inl ⟨by rfl, ?_⟩) (by assumption) ?_
  rotate_left
  · (intro w hSw; (try dsimp only at hSw); go_simp; try with_reducible rfl)
  try simp only [Act.put, List.setIfInBounds_toArray, List.set_cons_zero, List.set_cons_succ]
  refine wpAnyH_take (i := 6) (oi := { dst := Option.some 23, op := Go.Op.load 3 (Go.Operand.tmp 22), type := 3, pos := "lines.go:127", after := #[{ on := 5, ground := Go.Ground.data }], guard := Option.none }) (v := ?_) rfl (by kernel_rfl) (by kernel_rfl) (by kernel_rfl) (fun _ _ _ h => h) (Or.inl ⟨by rfl, ?_⟩) (by assumption) ?_
  rotate_left
  · (intro w hSw; (try dsimp only at hSw); go_simp; try with_reducible rfl)
  try simp only [Act.put, List.setIfInBounds_toArray, List.set_cons_zero, List.set_cons_succ]
  refine wpAnyH_take (i := 9) (oi := { dst := Option.some 26, op := Go.Op.fieldAddr 80 (Go.Operand.tmp 1) 3, type := 0, pos := "lines.go:127", after := #[], guard := Option.none }) (v := ?_) rfl (by kernel_rfl) (by kernel_rfl) (by kernel_rfl) (fun _ _ _ h => h) (Or.inl ⟨by rfl, ?_⟩) (by assumption) ?_
  rotate_left
  · (intro w hSw; (try dsimp only at hSw); go_simp; try with_reducible rfl)
  try simp only [Act.put, List.setIfInBounds_toArray, List.set_cons_zero, List.set_cons_succ]
  refine wpAnyH_take (i := 10) (oi := { dst := Option.some 27, op := Go.Op.load 4 (Go.Operand.tmp 26), type := 4, pos := "lines.go:127", after := #[{ on := 9, ground := Go.Ground.data }], guard := Option.none }) (v := ?_) rfl (by kernel_rfl) (by kernel_rfl) (by kernel_rfl) (fun _ _ _ h => h) (Or.inl ⟨by rfl, ?_⟩) (by assumption) ?_
  rotate_left
  · (intro w hSw; (try dsimp only at hSw); go_simp; try with_reducible rfl)
  try simp only [Act.put, List.setIfInBounds_toArray, List.set_cons_zero, List.set_cons_succ]
  refine wpAnyH_ready (rs := [7]) (by kernel_rfl) (by simp) ?_
  refine AllReadyH.cons (o := { dst := Option.some 24, op := Go.Op.call { callee := Go.Callee.value (Go.Operand.func 56), args := #[Go.Operand.tmp 23], argTypes := #[3] }, type := 9, pos := "lines.go:127", after := #[{ on := 6, ground := Go.Ground.data }], guard := Option.none }) rfl (fun K hK => ?_) AllReadyH.nil
  go_simp
  refine (HSz.out _ HS).mono ?_
  rintro z wa ⟨rfl, hB'⟩
  replace HS := HS.trans (hB'.mono HS.size)
  clear hB'
  refine hK.out _ _ ?_ (fun hHeld => ?_)
  · exact ⟨HS, (HS.cell ht1).trans x0, (HS.cell ht1).trans x2, (HS.cell ht1).trans x3⟩
  clear hK K
  try simp only [Act.put, List.setIfInBounds_toArray, List.set_cons_zero, List.set_cons_succ]
  refine wpAnyH_take (i := 8) (oi := { dst := Option.some 25, op := Go.Op.binOp Go.BinOp.add 9 (Go.Operand.tmp 21) (Go.Operand.tmp 24) 9, type := 9, pos := "lines.go:127", after := #[{ on := 4, ground := Go.Ground.data }, { on := 7, ground := Go.Ground.data }], guard := Option.none }) (v := .string B8) rfl (by kernel_rfl) (by kernel_rfl) (by kernel_rfl) (fun _ _ _ h => h) (Or.inl ⟨by rfl, ?_⟩) (by assumption) ?_
  · (intro w hSw; (try dsimp only at hSw); go_simp)
  try simp only [Act.put, List.setIfInBounds_toArray, List.set_cons_zero, List.set_cons_succ]
  refine wpAnyH_ready (rs := [11]) (by kernel_rfl) (by simp) ?_
  refine AllReadyH.cons (o := { dst := Option.some 28, op := Go.Op.call { callee := Go.Callee.value (Go.Operand.func 125), args := #[Go.Operand.tmp 27], argTypes := #[4] }, type := 9, pos := "lines.go:127", after := #[{ on := 10, ground := Go.Ground.data }, { on := 7, ground := Go.Ground.chain }], guard := Option.none }) rfl (fun K hK => ?_) AllReadyH.nil
  go_simp
  refine (HSec.out _).mono ?_
  rintro z wa ⟨rfl, rfl⟩
  refine hK.out _ _ ?_ (fun hHeld => ?_)
  · exact ⟨HS, (HS.cell ht1).trans x0, (HS.cell ht1).trans x2, (HS.cell ht1).trans x3⟩
  clear hK K
  try simp only [Act.put, List.setIfInBounds_toArray, List.set_cons_zero, List.set_cons_succ]
  refine wpAnyH_take (i := 12) (oi := { dst := Option.some 29, op := Go.Op.binOp Go.BinOp.add 9 (Go.Operand.tmp 25) (Go.Operand.tmp 28) 9, type := 9, pos := "lines.go:127", after := #[{ on := 8, ground := Go.Ground.data }, { on := 11, ground := Go.Ground.data }], guard := Option.none }) (v := .string B12) rfl (by kernel_rfl) (by kernel_rfl) (by kernel_rfl) (fun _ _ _ h => h) (Or.inl ⟨by rfl, ?_⟩) (by assumption) ?_
  · (intro w hSw; (try dsimp only at hSw); go_simp)
  try simp only [Act.put, List.setIfInBounds_toArray, List.set_cons_zero, List.set_cons_succ]
  refine wpAnyH_take (i := 13) (oi := { dst := Option.some 30, op := Go.Op.binOp Go.BinOp.add 9 (Go.Operand.tmp 29) (Go.Operand.const (Go.Value.string { data := #[59] })) 9, type := 9, pos := "lines.go:127", after := #[{ on := 12, ground := Go.Ground.data }], guard := Option.none }) (v := .string B13) rfl (by kernel_rfl) (by kernel_rfl) (by kernel_rfl) (fun _ _ _ h => h) (Or.inl ⟨by rfl, ?_⟩) (by assumption) ?_
  · (intro w hSw; (try dsimp only at hSw); go_simp)
  try simp only [Act.put, List.setIfInBounds_toArray, List.set_cons_zero, List.set_cons_succ]
  refine wpAnyH_take (i := 14) (oi := { dst := Option.some 2, op := Go.Op.assign (Go.Operand.tmp 30), type := 9, pos := "lines.go:127", after := #[{ on := 13, ground := Go.Ground.data }, { on := 11, ground := Go.Ground.chain }, { on := 0, ground := Go.Ground.phase }, { on := 1, ground := Go.Ground.phase }, { on := 2, ground := Go.Ground.phase }, { on := 3, ground := Go.Ground.phase }, { on := 4, ground := Go.Ground.phase }, { on := 5, ground := Go.Ground.phase }, { on := 6, ground := Go.Ground.phase }, { on := 7, ground := Go.Ground.phase }, { on := 8, ground := Go.Ground.phase }, { on := 9, ground := Go.Ground.phase }, { on := 10, ground := Go.Ground.phase }, { on := 11, ground := Go.Ground.phase }, { on := 12, ground := Go.Ground.phase }, { on := 13, ground := Go.Ground.phase }], guard := Option.none }) (v := ?_) rfl (by kernel_rfl) (by kernel_rfl) (by kernel_rfl) (fun _ _ _ h => h) (Or.inl ⟨by rfl, ?_⟩) (by assumption) ?_
  rotate_left
  · (intro w hSw; (try dsimp only at hSw); go_simp; try with_reducible rfl)
  try simp only [Act.put, List.setIfInBounds_toArray, List.set_cons_zero, List.set_cons_succ]
  refine wpAnyH_done (by kernel_rfl) ?_ _
  have HE := Lib.hid (HB1.out.trans (HS.mono HB1.out.size))
  go_wp2_with fail
  go_ret
  exact ⟨ret_strE HF.out.symm, HE.out⟩
set_option maxRecDepth 100000 in
set_option maxHeartbeats 6400000 in
theorem varLine_3 (nm : List UInt8) (sz : Int) (sc : Bool) (hsz : 0 ≤ sz) (hsu : sz ≤ 9223372036854775807) (w : World) (hG : Glob w) (hlen : nm.length + (Lib.decDigits sz.toNat).length + (secT sc).length ≤ 1000000) :
    Calls Tryz.prog 127 #[.agg #[.string (str nm), .int .i64 3, .int .i64 sz, .bool sc]] w fun z w' => z = .returned (.string (str ((((([115, 116, 97, 99, 107, 32] ++ nm) ++ [32]) ++ Lib.decDigits sz.toNat) ++ secT sc) ++ [59]))) ∧ Below w.heap.size w w' := by
  obtain ⟨NM, hNM⟩ : ∃ A, A = str (nm) := ⟨_, rfl⟩
  obtain ⟨A1, hA1⟩ : ∃ A, A = str (Lib.decDigits sz.toNat) := ⟨_, rfl⟩
  obtain ⟨A2, hA2⟩ : ∃ A, A = str (secT sc) := ⟨_, rfl⟩
  obtain ⟨W1, hW1⟩ : ∃ W1, w.alloc (.cells #[.string NM, .int .i64 3, .int .i64 sz, .bool sc] 80) = W1 := ⟨_, rfl⟩
  have hB1 : Below w.heap.size w W1 := by rw [← hW1]; exact (Below.refl _ _).alloc (Nat.le_refl _) _
  have hz1 : W1.heap.size = w.heap.size + 1 := by rw [← hW1]; simp
  have hk : W1.heap[w.heap.size]? = some (.cells #[.string NM, .int .i64 3, .int .i64 sz, .bool sc] 80 (0, 0)) := by rw [← hW1]; exact heap_alloc_new w _
  have ht1 : w.heap.size < W1.heap.size := by omega
  have hG1 := hG.later hB1
  have HB1 := Lib.hid hB1
  have HSz := Lib.hid (fun (w1 : World) (hB : Below W1.heap.size W1 w1) => itoa_any sz hsz hsu w1 (hG1.later hB))
  have HSc : ∀ w : World, Calls Tryz.prog 125 #[.bool sc] w fun e w' => e = .returned (.string A2) ∧ w = w' := fun w => by rw [hA2]; exact secret_any sc w
  have HSec := Lib.hid HSc
  rw [← hA1] at HSz
  have x0 : W1.cell? ⟨w.heap.size, 0, none⟩ = some (.string NM) := cell_block hk rfl
  have x1 : W1.cell? ⟨w.heap.size, 1, none⟩ = some (.int .i64 3) := cell_block hk rfl
  have x2 : W1.cell? ⟨w.heap.size, 2, none⟩ = some (.int .i64 sz) := cell_block hk rfl
  have x3 : W1.cell? ⟨w.heap.size, 3, none⟩ = some (.bool sc) := cell_block hk rfl
  obtain ⟨B3, hB3⟩ : ∃ B, B = str ([115, 116, 97, 99, 107, 32] ++ nm) := ⟨_, rfl⟩
  obtain ⟨B4, hB4⟩ : ∃ B, B = str (([115, 116, 97, 99, 107, 32] ++ nm) ++ [32]) := ⟨_, rfl⟩
  obtain ⟨B8, hB8⟩ : ∃ B, B = str ((([115, 116, 97, 99, 107, 32] ++ nm) ++ [32]) ++ Lib.decDigits sz.toNat) := ⟨_, rfl⟩
  obtain ⟨B12, hB12⟩ : ∃ B, B = str (((([115, 116, 97, 99, 107, 32] ++ nm) ++ [32]) ++ Lib.decDigits sz.toNat) ++ secT sc) := ⟨_, rfl⟩
  obtain ⟨B13, hB13⟩ : ∃ B, B = str ((((([115, 116, 97, 99, 107, 32] ++ nm) ++ [32]) ++ Lib.decDigits sz.toNat) ++ secT sc) ++ [59]) := ⟨_, rfl⟩
  have qB3 : ∀ w : World, (Op.stringOp .add ⟨#[115, 116, 97, 99, 107, 32]⟩ NM).run Tryz.prog w = .ok (.string B3) w := fun w => by
    (try rw [hB3]); (try rw [hNM]); exact add_str ([115, 116, 97, 99, 107, 32]) (nm) (by simp only [List.length_cons, List.length_nil] at hlen ⊢; omega) w
  have qB4 : ∀ w : World, (Op.stringOp .add B3 ⟨#[32]⟩).run Tryz.prog w = .ok (.string B4) w := fun w => by
    (try rw [hB4]); (try rw [hB3]); exact add_str (([115, 116, 97, 99, 107, 32] ++ nm)) ([32]) (by simp only [List.length_append, List.length_cons, List.length_nil] at hlen ⊢; omega) w
  have qB8 : ∀ w : World, (Op.stringOp .add B4 A1).run Tryz.prog w = .ok (.string B8) w := fun w => by
    (try rw [hB8]); (try rw [hB4]); (try rw [hA1]); exact add_str ((([115, 116, 97, 99, 107, 32] ++ nm) ++ [32])) (Lib.decDigits sz.toNat) (by simp only [List.length_append, List.length_cons, List.length_nil] at hlen ⊢; omega) w
  have qB12 : ∀ w : World, (Op.stringOp .add B8 A2).run Tryz.prog w = .ok (.string B12) w := fun w => by
    (try rw [hB12]); (try rw [hB8]); (try rw [hA2]); exact add_str (((([115, 116, 97, 99, 107, 32] ++ nm) ++ [32]) ++ Lib.decDigits sz.toNat)) (secT sc) (by simp only [List.length_append, List.length_cons, List.length_nil] at hlen ⊢; omega) w
  have qB13 : ∀ w : World, (Op.stringOp .add B12 ⟨#[59]⟩).run Tryz.prog w = .ok (.string B13) w := fun w => by
    (try rw [hB13]); (try rw [hB12]); exact add_str ((((([115, 116, 97, 99, 107, 32] ++ nm) ++ [32]) ++ Lib.decDigits sz.toNat) ++ secT sc)) ([59]) (by simp only [List.length_append, List.length_cons, List.length_nil] at hlen ⊢; omega) w
  have HF := Lib.hid (show str ((((([115, 116, 97, 99, 107, 32] ++ nm) ++ [32]) ++ Lib.decDigits sz.toNat) ++ secT sc) ++ [59]) = B13 by rw [hB13])
  rw [← hNM]
  clear hNM hA1 hA2 HSc hB3 hB4 hB8 hB12 hB13 hk hG hG1 hB1 hsz hsu
  go_enter Tryz.func127, Tryz.ntmps127
  go_wp2_with fail
  try rw [hW1]
  clear hW1
  have HS : Below W1.heap.size W1 W1.drew := (Below.refl _ _).drew
  refine wp_region_held_drew (S := fun W => Below W1.heap.size W1 W ∧ W.cell? ⟨w.heap.size, 0, none⟩ = some (.string NM) ∧ W.cell? ⟨w.heap.size, 2, none⟩ = some (.int .i64 sz) ∧ W.cell? ⟨w.heap.size, 3, none⟩ = some (.bool sc)) (by kernel_rfl) ?_ (fun hHeld => ?_)
  · exact ⟨HS, (HS.cell ht1).trans x0, (HS.cell ht1).trans x2, (HS.cell ht1).trans x3⟩
  refine wpAnyH_take (i := 0) (oi := { dst := Option.some 17, op := Go.Op.move (Go.Operand.tmp 3), type := 9, pos := "lines.go:127", after := #[], guard := Option.none }) (v := ?_) rfl (by kernel_rfl) (by kernel_rfl) (by kernel_rfl) (fun _ _ _ h => h) (Or.inl ⟨by rfl, ?_⟩) (by assumption) ?_
  rotate_left
  · (intro w hSw; (try dsimp only at hSw); go_simp; try with_reducible rfl)
  try simp only [Act.put, List.setIfInBounds_toArray, List.set_cons_zero, List.set_cons_succ]
  refine wpAnyH_take (i := 1) (oi := { dst := Option.some 18, op := Go.Op.fieldAddr 80 (Go.Operand.tmp 1) 0, type := 0, pos := "lines.go:127", after := #[], guard := Option.none }) (v := ?_) rfl (by kernel_rfl) (by kernel_rfl) (by kernel_rfl) (fun _ _ _ h => h) (Or.inl ⟨by rfl, ?_⟩) (by assumption) ?_
  rotate_left
  · (intro w hSw; (try dsimp only at hSw); go_simp; try with_reducible rfl)
  try simp only [Act.put, List.setIfInBounds_toArray, List.set_cons_zero, List.set_cons_succ]
  refine wpAnyH_take (i := 2) (oi := { dst := Option.some 19, op := Go.Op.load 9 (Go.Operand.tmp 18), type := 9, pos := "lines.go:127", after := #[{ on := 1, ground := Go.Ground.data }], guard := Option.none }) (v := ?_) rfl (by kernel_rfl) (by kernel_rfl) (by kernel_rfl) (fun _ _ _ h => h) (Or.inl ⟨by rfl, ?_⟩) (by assumption) ?_
  rotate_left
  · (intro w hSw; (try dsimp only at hSw); go_simp; try with_reducible rfl)
  try simp only [Act.put, List.setIfInBounds_toArray, List.set_cons_zero, List.set_cons_succ]
  refine wpAnyH_take (i := 3) (oi := { dst := Option.some 20, op := Go.Op.binOp Go.BinOp.add 9 (Go.Operand.tmp 17) (Go.Operand.tmp 19) 9, type := 9, pos := "lines.go:127", after := #[{ on := 0, ground := Go.Ground.data }, { on := 2, ground := Go.Ground.data }], guard := Option.none }) (v := .string B3) rfl (by kernel_rfl) (by kernel_rfl) (by kernel_rfl) (fun _ _ _ h => h) (Or.inl ⟨by rfl, ?_⟩) (by assumption) ?_
  · (intro w hSw; (try dsimp only at hSw); go_simp)
  try simp only [Act.put, List.setIfInBounds_toArray, List.set_cons_zero, List.set_cons_succ]
  refine wpAnyH_take (i := 4) (oi := { dst := Option.some 21, op := Go.Op.binOp Go.BinOp.add 9 (Go.Operand.tmp 20) (Go.Operand.const (Go.Value.string { data := #[32] })) 9, type := 9, pos := "lines.go:127", after := #[{ on := 3, ground := Go.Ground.data }], guard := Option.none }) (v := .string B4) rfl (by kernel_rfl) (by kernel_rfl) (by kernel_rfl) (fun _ _ _ h => h) (Or.inl ⟨by rfl, ?_⟩) (by assumption) ?_
  · (intro w hSw; (try dsimp only at hSw); go_simp)
  try simp only [Act.put, List.setIfInBounds_toArray, List.set_cons_zero, List.set_cons_succ]
  refine wpAnyH_take (i := 5) (oi := { dst := Option.some 22, op := Go.Op.fieldAddr 80 (Go.Operand.tmp 1) 2, type := 0, pos := "lines.go:127", after := #[], guard := Option.none }) (v := ?_) rfl (by kernel_rfl) (by kernel_rfl) (by kernel_rfl) (fun _ _ _ h => h) (Or.inl ⟨by rfl, ?_⟩) (by assumption) ?_
  rotate_left
  · (intro w hSw; (try dsimp only at hSw); go_simp; try with_reducible rfl)
  try simp only [Act.put, List.setIfInBounds_toArray, List.set_cons_zero, List.set_cons_succ]
  refine wpAnyH_take (i := 6) (oi := { dst := Option.some 23, op := Go.Op.load 3 (Go.Operand.tmp 22), type := 3, pos := "lines.go:127", after := #[{ on := 5, ground := Go.Ground.data }], guard := Option.none }) (v := ?_) rfl (by kernel_rfl) (by kernel_rfl) (by kernel_rfl) (fun _ _ _ h => h) (Or.inl ⟨by rfl, ?_⟩) (by assumption) ?_
  rotate_left
  · (intro w hSw; (try dsimp only at hSw); go_simp; try with_reducible rfl)
  try simp only [Act.put, List.setIfInBounds_toArray, List.set_cons_zero, List.set_cons_succ]
  refine wpAnyH_take (i := 9) (oi := { dst := Option.some 26, op := Go.Op.fieldAddr 80 (Go.Operand.tmp 1) 3, type := 0, pos := "lines.go:127", after := #[], guard := Option.none }) (v := ?_) rfl (by kernel_rfl) (by kernel_rfl) (by kernel_rfl) (fun _ _ _ h => h) (Or.inl ⟨by rfl, ?_⟩) (by assumption) ?_
  rotate_left
  · (intro w hSw; (try dsimp only at hSw); go_simp; try with_reducible rfl)
  try simp only [Act.put, List.setIfInBounds_toArray, List.set_cons_zero, List.set_cons_succ]
  refine wpAnyH_take (i := 10) (oi := { dst := Option.some 27, op := Go.Op.load 4 (Go.Operand.tmp 26), type := 4, pos := "lines.go:127", after := #[{ on := 9, ground := Go.Ground.data }], guard := Option.none }) (v := ?_) rfl (by kernel_rfl) (by kernel_rfl) (by kernel_rfl) (fun _ _ _ h => h) (Or.inl ⟨by rfl, ?_⟩) (by assumption) ?_
  rotate_left
  · (intro w hSw; (try dsimp only at hSw); go_simp; try with_reducible rfl)
  try simp only [Act.put, List.setIfInBounds_toArray, List.set_cons_zero, List.set_cons_succ]
  refine wpAnyH_ready (rs := [7]) (by kernel_rfl) (by simp) ?_
  refine AllReadyH.cons (o := { dst := Option.some 24, op := Go.Op.call { callee := Go.Callee.value (Go.Operand.func 56), args := #[Go.Operand.tmp 23], argTypes := #[3] }, type := 9, pos := "lines.go:127", after := #[{ on := 6, ground := Go.Ground.data }], guard := Option.none }) rfl (fun K hK => ?_) AllReadyH.nil
  go_simp
  refine (HSz.out _ HS).mono ?_
  rintro z wa ⟨rfl, hB'⟩
  replace HS := HS.trans (hB'.mono HS.size)
  clear hB'
  refine hK.out _ _ ?_ (fun hHeld => ?_)
  · exact ⟨HS, (HS.cell ht1).trans x0, (HS.cell ht1).trans x2, (HS.cell ht1).trans x3⟩
  clear hK K
  try simp only [Act.put, List.setIfInBounds_toArray, List.set_cons_zero, List.set_cons_succ]
  refine wpAnyH_take (i := 8) (oi := { dst := Option.some 25, op := Go.Op.binOp Go.BinOp.add 9 (Go.Operand.tmp 21) (Go.Operand.tmp 24) 9, type := 9, pos := "lines.go:127", after := #[{ on := 4, ground := Go.Ground.data }, { on := 7, ground := Go.Ground.data }], guard := Option.none }) (v := .string B8) rfl (by kernel_rfl) (by kernel_rfl) (by kernel_rfl) (fun _ _ _ h => h) (Or.inl ⟨by rfl, ?_⟩) (by assumption) ?_
  · (intro w hSw; (try dsimp only at hSw); go_simp)
  try simp only [Act.put, List.setIfInBounds_toArray, List.set_cons_zero, List.set_cons_succ]
  refine wpAnyH_ready (rs := [11]) (by kernel_rfl) (by simp) ?_
  refine AllReadyH.cons (o := { dst := Option.some 28, op := Go.Op.call { callee := Go.Callee.value (Go.Operand.func 125), args := #[Go.Operand.tmp 27], argTypes := #[4] }, type := 9, pos := "lines.go:127", after := #[{ on := 10, ground := Go.Ground.data }, { on := 7, ground := Go.Ground.chain }], guard := Option.none }) rfl (fun K hK => ?_) AllReadyH.nil
  go_simp
  refine (HSec.out _).mono ?_
  rintro z wa ⟨rfl, rfl⟩
  refine hK.out _ _ ?_ (fun hHeld => ?_)
  · exact ⟨HS, (HS.cell ht1).trans x0, (HS.cell ht1).trans x2, (HS.cell ht1).trans x3⟩
  clear hK K
  try simp only [Act.put, List.setIfInBounds_toArray, List.set_cons_zero, List.set_cons_succ]
  refine wpAnyH_take (i := 12) (oi := { dst := Option.some 29, op := Go.Op.binOp Go.BinOp.add 9 (Go.Operand.tmp 25) (Go.Operand.tmp 28) 9, type := 9, pos := "lines.go:127", after := #[{ on := 8, ground := Go.Ground.data }, { on := 11, ground := Go.Ground.data }], guard := Option.none }) (v := .string B12) rfl (by kernel_rfl) (by kernel_rfl) (by kernel_rfl) (fun _ _ _ h => h) (Or.inl ⟨by rfl, ?_⟩) (by assumption) ?_
  · (intro w hSw; (try dsimp only at hSw); go_simp)
  try simp only [Act.put, List.setIfInBounds_toArray, List.set_cons_zero, List.set_cons_succ]
  refine wpAnyH_take (i := 13) (oi := { dst := Option.some 30, op := Go.Op.binOp Go.BinOp.add 9 (Go.Operand.tmp 29) (Go.Operand.const (Go.Value.string { data := #[59] })) 9, type := 9, pos := "lines.go:127", after := #[{ on := 12, ground := Go.Ground.data }], guard := Option.none }) (v := .string B13) rfl (by kernel_rfl) (by kernel_rfl) (by kernel_rfl) (fun _ _ _ h => h) (Or.inl ⟨by rfl, ?_⟩) (by assumption) ?_
  · (intro w hSw; (try dsimp only at hSw); go_simp)
  try simp only [Act.put, List.setIfInBounds_toArray, List.set_cons_zero, List.set_cons_succ]
  refine wpAnyH_take (i := 14) (oi := { dst := Option.some 2, op := Go.Op.assign (Go.Operand.tmp 30), type := 9, pos := "lines.go:127", after := #[{ on := 13, ground := Go.Ground.data }, { on := 11, ground := Go.Ground.chain }, { on := 0, ground := Go.Ground.phase }, { on := 1, ground := Go.Ground.phase }, { on := 2, ground := Go.Ground.phase }, { on := 3, ground := Go.Ground.phase }, { on := 4, ground := Go.Ground.phase }, { on := 5, ground := Go.Ground.phase }, { on := 6, ground := Go.Ground.phase }, { on := 7, ground := Go.Ground.phase }, { on := 8, ground := Go.Ground.phase }, { on := 9, ground := Go.Ground.phase }, { on := 10, ground := Go.Ground.phase }, { on := 11, ground := Go.Ground.phase }, { on := 12, ground := Go.Ground.phase }, { on := 13, ground := Go.Ground.phase }], guard := Option.none }) (v := ?_) rfl (by kernel_rfl) (by kernel_rfl) (by kernel_rfl) (fun _ _ _ h => h) (Or.inl ⟨by rfl, ?_⟩) (by assumption) ?_
  rotate_left
  · (intro w hSw; (try dsimp only at hSw); go_simp; try with_reducible rfl)
  try simp only [Act.put, List.setIfInBounds_toArray, List.set_cons_zero, List.set_cons_succ]
  refine wpAnyH_done (by kernel_rfl) ?_ _
  have HE := Lib.hid (HB1.out.trans (HS.mono HB1.out.size))
  go_wp2_with fail
  go_ret
  exact ⟨ret_strE HF.out.symm, HE.out⟩
theorem varLine_any (x : Vr) (hm : x.may = true) (hf : x.fit) (w : World) (hG : Glob w) (hl : x.line.length ≤ 1000000) :
    Calls Tryz.prog 127 #[.agg #[.string (str x.name), .int .i64 x.kind, .int .i64 x.size, .bool x.secret]] w fun z w' => z = .returned (.string (str x.line)) ∧ Below w.heap.size w w' := by
  obtain ⟨nm, kd, sz, sc⟩ := x
  unfold Vr.may Vr.mayP at hm
  unfold Vr.line Vr.word at hl ⊢
  obtain ⟨_, hsu⟩ := hf
  simp only [] at hm hl hsu ⊢
  by_cases h1 : kd = 1
  · subst h1
    rw [if_pos rfl] at hl ⊢
    simp only [List.length_append, List.length_cons, List.length_nil] at hl
    exact varLine_1 nm sz sc w (by omega)
  · rw [if_neg h1] at hm hl ⊢
    by_cases h2 : kd = 2
    · subst h2
      simp only [if_true, true_or, Bool.and_eq_true, decide_eq_true_eq] at hm hl ⊢
      simp only [List.length_append, List.length_cons, List.length_nil] at hl
      exact varLine_2 nm sz sc hm.2 hsu w hG (by omega)
    · by_cases h3 : kd = 3
      · subst h3
        rw [if_neg h2] at hl ⊢
        simp only [or_true, if_true, Bool.and_eq_true, decide_eq_true_eq] at hm
        simp only [List.length_append, List.length_cons, List.length_nil] at hl
        exact varLine_3 nm sz sc hm.2 hsu w hG (by omega)
      · rw [if_neg (by omega)] at hm; cases hm
end Go.Proofs.YtlhbledakddbbaaGreatDoor
/- A function's first line. -/
namespace Go.Proofs.YtlhbledakddbbaaGreatDoor
open Go.RowKit

theorem make_strs (n : Nat) (hn : n ≤ 1000000) : ∃ Z : Array Value, (∀ w : World, (Instr.makeSlice 46 (.int .i64 n) (.int .i64 n)).run Tryz.prog w = .ok (.slice (some ⟨w.heap.size, 0, none⟩) n n) (w.alloc (.cells Z 9 (0, 0)))) ∧ ∀ j, j < n → Z[j]? = some (.string ⟨#[]⟩) := by
  obtain ⟨i0, hi, hz0, hz1, hz2⟩ := info_parts info_str
  refine ⟨madeCells #[.string ⟨#[]⟩] n, fun w => ?_, fun j hj => ?_⟩
  · have h := run_make (P := Tryz.prog) w 46 9 i0 (.string ⟨#[]⟩) Tryz.underlying46 hi hz0 .i64 .i64 n n (by omega) (by omega) (by rw [hz2]; omega) (by omega)
    rw [hz1, Nat.mul_one] at h
    exact h
  · have h := toList_madeCells_one (.string ⟨#[]⟩) n
    rw [← Array.getElem?_toList, h, List.getElem?_replicate, if_pos hj]
/-- the texts so far -/
def OutP (w : World) (g k : Nat) (ts : List (List UInt8)) : Prop :=
  g < w.heap.size ∧ ∀ i t, ts[i]? = some t → ∃ u, w.cell? ⟨g, i, none⟩ = some u ∧ w.frozen? ⟨g, i, none⟩ = false ∧ (i < k → u = .string (str t))
theorem OutP.later {w w' : World} {g k : Nat} {ts : List (List UInt8)} (h : OutP w g k ts) (hB : Below w.heap.size w w') : OutP w' g k ts :=
  ⟨Nat.lt_of_lt_of_le h.1 hB.size, fun i t ht => by
    obtain ⟨u, h1, h2, h3⟩ := h.2 i t ht
    exact ⟨u, (hB.cell (p := ⟨g, i, none⟩) h.1).trans h1, (hB.frozen (p := ⟨g, i, none⟩) h.1).trans h2, h3⟩⟩
theorem OutP.put {w : World} {g k : Nat} {ts : List (List UInt8)} {t : List UInt8} (h : OutP w g k ts) (hk : ts[k]? = some t) : OutP (w.setCell ⟨g, k, none⟩ (.string (str t))) g (k + 1) ts := by
  refine ⟨by simp [World.setCell]; exact h.1, fun i t' ht => ?_⟩
  obtain ⟨u, h1, h2, h3⟩ := h.2 i t' ht
  by_cases e : i = k
  · subst e
    rw [hk] at ht; cases ht
    exact ⟨_, World.cell?_setCell_same _ _ _ h1, by rw [World.frozen?_setCell]; exact h2, fun _ => rfl⟩
  · refine ⟨u, ?_, by rw [World.frozen?_setCell]; exact h2, fun hik => h3 (by omega)⟩
    rw [World.cell?_setCell_other _ _ _ _ (fun h => e (by cases h; rfl))]; exact h1
theorem OutP.join {w : World} {g : Nat} {ts : List (List UInt8)} (h : OutP w g ts.length ts) (hn : ts.length ≤ 1000000) (hl : (Lib.join ts [44, 32]).length ≤ 1000000) :
    Calls Tryz.prog 138 #[.slice (some ⟨g, 0, none⟩) ts.length ts.length, .string ⟨#[44, 32]⟩] w fun e w' => e = .returned (.string (str (Lib.join ts [44, 32]))) ∧ Below w.heap.size w w' := by
  by_cases h0 : ts.length = 0
  · have : ts = [] := List.length_eq_zero_iff.1 h0
    subst this
    refine (Tryz.strings_Join_none _ 0 ⟨#[44, 32]⟩ w).mono ?_
    rintro e w' ⟨rfl, rfl⟩
    exact ⟨rfl, Below.refl _ _⟩
  · have hd := map_data ts
    have hs : (⟨#[44, 32]⟩ : ByteArray).data.toList = [44, 32] := rfl
    have := Tryz.strings_Join g 0 ts.length (ts.map str) ⟨#[44, 32]⟩ w (fun j x hx => by
      rw [List.getElem?_map] at hx
      obtain ⟨t, ht, rfl⟩ := Option.map_eq_some_iff.1 hx
      obtain ⟨u, hu, _, hr⟩ := h.2 j t ht
      rw [Nat.zero_add, hu, hr (List.getElem?_eq_some_iff.1 ht).1]) h.1 (by rw [List.length_map]; omega) (by rw [List.length_map]; exact Nat.le_refl _) (by rw [hd, hs]; omega)
    rw [List.length_map, hd, hs] at this
    exact this
theorem join_mem : ∀ (ts : List (List UInt8)) (i : Nat) (t : List UInt8), ts[i]? = some t → t.length ≤ (Lib.join ts [44, 32]).length
  | x :: r, 0, t, h => by simp at h; subst h; rw [Lib.join_cons]; simp
  | x :: r, i + 1, t, h => by
    have := join_mem_tail r i t (by simpa using h)
    rw [Lib.join_cons, List.length_append]; omega
  | [], i, t, h => by simp at h
where join_mem_tail : ∀ (ts : List (List UInt8)) (i : Nat) (t : List UInt8), ts[i]? = some t → t.length ≤ (Lib.joinTail [44, 32] ts).length
  | x :: r, 0, t, h => by simp at h; subst h; simp [Lib.joinTail]; omega
  | x :: r, i + 1, t, h => by
    have := join_mem_tail r i t (by simpa using h)
    have e : Lib.joinTail [44, 32] (x :: r) = 44 :: 32 :: (x ++ Lib.joinTail [44, 32] r) := by simp [Lib.joinTail]
    rw [e]; simp only [List.length_cons, List.length_append]; omega
  | [], i, t, h => by simp at h

set_option maxRecDepth 100000 in
set_option maxHeartbeats 6400000 in
theorem funcLine_any (f : Fnc) (b o : Nat) (w : World) (hb : b < w.heap.size) (h : f.At w w.heap.size b o) (hp : f.params.length ≤ 1000000) (hl : f.head.length ≤ 1000000) :
    Calls Tryz.prog 126 #[.pointer (some ⟨b, o, none⟩)] w fun e w' => e = .returned (.string (str f.head)) ∧ Below w.heap.size w w' := by
  obtain ⟨nm, ps, vs, rs, bd⟩ := f
  obtain ⟨s, c, ok⟩ := h.open
  have x0 : w.cell? ⟨b, o, none⟩ = some (.string (str nm)) := c 0 _ rfl
  have x1 : w.cell? ⟨b, o + 1, none⟩ = some (.slice s.pp ps.length s.cp) := c 1 _ rfl
  have x3 : w.cell? ⟨b, o + 3, none⟩ = some (.slice s.pr rs.length s.cr) := c 3 _ rfl
  simp only [] at hp
  obtain ⟨ok1, _, ⟨hcr, ok3⟩, _⟩ := ok
  simp only [] at ok1 ok3 hcr
  obtain ⟨JP, hJP⟩ : ∃ k, k = Lib.join (ps.map Vr.param) [44, 32] := ⟨_, rfl⟩
  obtain ⟨JR, hJR⟩ : ∃ k, k = Lib.join rs [44, 32] := ⟨_, rfl⟩
  have hT : (Fnc.mk nm ps vs rs bd).head = ((([102, 110, 32] ++ nm ++ [40] ++ JP ++ [41]) ++ (if rs.length = 0 then [] else [32, 45, 62, 32] ++ JR)) ++ [32, 123]) := by rw [hJP, hJR]; rfl
  rw [hT] at hl
  have hlen : nm.length + JP.length ≤ 1000000 ∧ (rs.length ≠ 0 → nm.length + JP.length + JR.length ≤ 1000000) := by
    by_cases h0 : rs.length = 0
    · rw [if_pos h0] at hl; simp only [List.length_append, List.length_cons, List.length_nil] at hl; exact ⟨by omega, fun h => absurd h0 h⟩
    · rw [if_neg h0] at hl; simp only [List.length_append, List.length_cons, List.length_nil] at hl; exact ⟨by omega, fun _ => by omega⟩
  have HJm := Lib.hid (fun i t h => by have := join_mem (ps.map Vr.param) i t h; rw [← hJP] at this; exact this)
  obtain ⟨Z, hmk, hZ⟩ := make_strs ps.length hp
  have HZ := Lib.hid hZ
  have S1 := Lib.hid ok1
  have HJn := Lib.hid (fun (w1 : World) (h : OutP w1 w.heap.size (ps.map Vr.param).length (ps.map Vr.param)) => h.join (by rw [List.length_map]; exact hp) (by rw [← hJP]; omega))
  rw [← hJP, List.length_map] at HJn
  have HRt := Lib.hid (fun (h0 : rs.length ≠ 0) (w1 : World) (hB : Below w.heap.size w w1) => join_any rs s.pr s.cr w.heap.size w1 hB.size ⟨hcr, ok3.imp (Nat.le_refl _) (StrAt.later hB)⟩ (by rw [← hJR]; have := hlen.2 h0; omega))
  rw [← hJR] at HRt
  obtain ⟨TT, hTT⟩ : ∃ k, k = str (Fnc.mk nm ps vs rs bd).head := ⟨_, rfl⟩
  have HT := Lib.hid (hTT.trans (congrArg str hT))
  have hpl : ps.length ≤ 140737488355328 := ok1.1
  clear hJP hJR hT hl h c ok1 ok3 hcr hZ
  rw [← hTT]
  clear hTT
  go_enter Tryz.func126, Tryz.ntmps126
  go_wp2_with fail
  obtain ⟨w1, hw1⟩ : ∃ w1, w.alloc (.cells Z 9 (0, 0)) = w1 := ⟨_, rfl⟩
  have HB1 := Lib.hid (show Below w.heap.size w w1 by rw [← hw1]; exact (Below.refl _ _).alloc (Nat.le_refl _) _)
  have HO1 : Hid (OutP w1 w.heap.size 0 (ps.map Vr.param)) := Lib.hid ⟨by rw [← hw1]; simp, fun i t ht =>
    ⟨.string ⟨#[]⟩, by rw [← hw1, cell_of_row _ _ _ _ _ _ (heap_alloc_new w _)]; exact HZ.out i (by have := (List.getElem?_eq_some_iff.1 ht).1; simpa using this), by rw [← hw1]; unfold World.frozen?; simp only [heap_alloc_new w (.cells Z 9 (0, 0))]; simp, fun h => absurd h (Nat.not_lt_zero _)⟩⟩
  have x11 := (HB1.out.cell (p := ⟨b, o + 1, none⟩) hb).trans x1
  rw [hw1]
  clear hw1 hmk
  go_wp2_with fail
  go_loopw [18] (fun i wr => ∃ k : Nat, i = .int .i64 k ∧ k ≤ ps.length ∧ Hid (OutP wr w.heap.size k (ps.map Vr.param)) ∧ Hid (Below w.heap.size w wr)) (fun i _ => ps.length - (intOf i).toNat)
  case atStart => exact ⟨0, rfl, by omega, HO1, HB1⟩
  case round =>
    obtain ⟨k, rfl, hk, hOut, hB⟩ := hrel
    by_cases hlt : k < ps.length
    · obtain ⟨v, hv⟩ : ∃ v, ps[k]? = some v := ⟨_, List.getElem?_eq_getElem hlt⟩
      have hm : (ps.map Vr.param)[k]? = some v.param := by rw [List.getElem?_map, hv]; rfl
      obtain ⟨b1, o1, hpp, hb1, hA⟩ : ∃ b o, s.pp = some ⟨b, o, none⟩ ∧ b < w.heap.size ∧ Row (Vr.At w) 4 ps b o := by
        rcases S1.out.2 with h0 | h0
        · omega
        · exact h0
      have hAt := Vr.At.later hB.out v b1 _ hb1 (hA.get hv)
      obtain ⟨vn, vk, vz, vsec⟩ := v
      obtain ⟨c0, c1, c2, c3⟩ := hAt
      have hpl2 := HJm.out k _ hm
      have hlen2 : vn.length + (secT vsec).length ≤ 1000000 := by have := hpl2; simp only [Vr.param, List.length_append] at this; omega
      obtain ⟨u, hu, hf, _⟩ := hOut.out.2 k _ hm
      have hgz := hOut.out.1
      have hb1w : b1 < wr.heap.size := Nat.lt_of_lt_of_le hb1 hB.out.size
      simp only [] at c0 c1 c2 c3
      rw [hpp]
      clear hA

      obtain ⟨NM, hNM⟩ : ∃ A, A = str (vn) := ⟨_, rfl⟩
      obtain ⟨A2, hA2⟩ : ∃ A, A = str (secT vsec) := ⟨_, rfl⟩
      have HSc : ∀ w : World, Calls Tryz.prog 125 #[.bool vsec] w fun e w' => e = .returned (.string A2) ∧ w = w' := fun w => by rw [hA2]; exact secret_any vsec w
      have HSec := Lib.hid HSc
      rw [← hNM] at c0
      obtain ⟨B7, hB7⟩ : ∃ B, B = str (vn ++ secT vsec) := ⟨_, rfl⟩
      have qB7 : ∀ w : World, (Op.stringOp .add NM A2).run Tryz.prog w = .ok (.string B7) w := fun w => by
        (try rw [hB7]); (try rw [hNM]); (try rw [hA2]); exact add_str (vn) (secT vsec) (by (try simp only [List.length_append, List.length_cons, List.length_nil] at hlen2 ⊢); omega) w
      have hBv : B7 = str (Vr.param ⟨vn, vk, vz, vsec⟩) := hB7
      clear hNM hA2 hB7 HSc
      go_wp2_with fail
      obtain ⟨W1, hW1⟩ : ∃ W1, wr.alloc (.cells #[.string NM, .int .i64 vk, .int .i64 vz, .bool vsec] 80) = W1 := ⟨_, rfl⟩
      have hBW : Below wr.heap.size wr W1 := by rw [← hW1]; exact (Below.refl _ _).alloc (Nat.le_refl _) _
      have hk1 : W1.heap[wr.heap.size]? = some (.cells #[.string NM, .int .i64 vk, .int .i64 vz, .bool vsec] 80 (0, 0)) := by rw [← hW1]; exact heap_alloc_new wr _
      have v0 : W1.cell? ⟨wr.heap.size, 0, none⟩ = some (.string NM) := cell_block hk1 rfl
      have v3 : W1.cell? ⟨wr.heap.size, 3, none⟩ = some (.bool vsec) := cell_block hk1 rfl
      have hu1 := (hBW.cell (p := ⟨w.heap.size, k, none⟩) hgz).trans hu
      have hf1 := (hBW.frozen (p := ⟨w.heap.size, k, none⟩) hgz).trans hf
      have hne : w.heap.size ≠ wr.heap.size := Nat.ne_of_lt hgz
      have HPt : Hid (OutP (W1.drew.setCell ⟨w.heap.size, k, none⟩ (.string B7)) w.heap.size (k + 1) (ps.map Vr.param)) := Lib.hid (by rw [hBv]; exact (hOut.out.later (hBW.drew)).put hm)
      have HBn : Hid (Below w.heap.size w (W1.drew.setCell ⟨w.heap.size, k, none⟩ (.string B7))) := Lib.hid ((hB.out.trans ((hBW.drew).mono hB.out.size)).setCell (p := ⟨w.heap.size, k, none⟩) (Nat.le_refl _) _)
      rw [hW1]
      clear hW1 hk1 hBv hm hv hu hf hOut hB c0 c1 c2 c3 hBW
      refine wp_region_held_drew (S := fun W => W.cell? ⟨wr.heap.size, 0, none⟩ = some (.string NM) ∧ W.cell? ⟨wr.heap.size, 3, none⟩ = some (.bool vsec)) (by kernel_rfl) ?_ (fun hHeld => ?_)
      · exact ⟨v0, v3⟩
      refine wpAnyH_take (i := 0) (oi := { dst := Option.some 23, op := Go.Op.move (Go.Operand.tmp 3), type := 46, pos := "lines.go:108", after := #[], guard := Option.none }) (v := ?_) rfl (by kernel_rfl) (by kernel_rfl) (by kernel_rfl) (fun _ _ _ h => h) (Or.inl ⟨by rfl, ?_⟩) (by assumption) ?_
      rotate_left
      · (intro w hSw; (try dsimp only at hSw); go_simp; try with_reducible rfl)
      try simp only [Act.put, List.setIfInBounds_toArray, List.set_cons_zero, List.set_cons_succ]
      refine wpAnyH_take (i := 1) (oi := { dst := Option.some 24, op := Go.Op.move (Go.Operand.tmp 4), type := 3, pos := "lines.go:108", after := #[], guard := Option.none }) (v := ?_) rfl (by kernel_rfl) (by kernel_rfl) (by kernel_rfl) (fun _ _ _ h => h) (Or.inl ⟨by rfl, ?_⟩) (by assumption) ?_
      rotate_left
      · (intro w hSw; (try dsimp only at hSw); go_simp; try with_reducible rfl)
      try simp only [Act.put, List.setIfInBounds_toArray, List.set_cons_zero, List.set_cons_succ]
      refine wpAnyH_take (i := 2) (oi := { dst := Option.some 25, op := Go.Op.fieldAddr 80 (Go.Operand.tmp 5) 0, type := 0, pos := "lines.go:108", after := #[], guard := Option.none }) (v := ?_) rfl (by kernel_rfl) (by kernel_rfl) (by kernel_rfl) (fun _ _ _ h => h) (Or.inl ⟨by rfl, ?_⟩) (by assumption) ?_
      rotate_left
      · (intro w hSw; (try dsimp only at hSw); go_simp; try with_reducible rfl)
      try simp only [Act.put, List.setIfInBounds_toArray, List.set_cons_zero, List.set_cons_succ]
      refine wpAnyH_take (i := 3) (oi := { dst := Option.some 26, op := Go.Op.load 9 (Go.Operand.tmp 25), type := 9, pos := "lines.go:108", after := #[{ on := 2, ground := Go.Ground.data }], guard := Option.none }) (v := ?_) rfl (by kernel_rfl) (by kernel_rfl) (by kernel_rfl) (fun _ _ _ h => h) (Or.inl ⟨by rfl, ?_⟩) (by assumption) ?_
      rotate_left
      · (intro w hSw; (try dsimp only at hSw); go_simp; try with_reducible rfl)
      try simp only [Act.put, List.setIfInBounds_toArray, List.set_cons_zero, List.set_cons_succ]
      refine wpAnyH_take (i := 4) (oi := { dst := Option.some 27, op := Go.Op.fieldAddr 80 (Go.Operand.tmp 5) 3, type := 0, pos := "lines.go:108", after := #[], guard := Option.none }) (v := ?_) rfl (by kernel_rfl) (by kernel_rfl) (by kernel_rfl) (fun _ _ _ h => h) (Or.inl ⟨by rfl, ?_⟩) (by assumption) ?_
      rotate_left
      · (intro w hSw; (try dsimp only at hSw); go_simp; try with_reducible rfl)
      try simp only [Act.put, List.setIfInBounds_toArray, List.set_cons_zero, List.set_cons_succ]
      refine wpAnyH_take (i := 5) (oi := { dst := Option.some 28, op := Go.Op.load 4 (Go.Operand.tmp 27), type := 4, pos := "lines.go:108", after := #[{ on := 4, ground := Go.Ground.data }], guard := Option.none }) (v := ?_) rfl (by kernel_rfl) (by kernel_rfl) (by kernel_rfl) (fun _ _ _ h => h) (Or.inl ⟨by rfl, ?_⟩) (by assumption) ?_
      rotate_left
      · (intro w hSw; (try dsimp only at hSw); go_simp; try with_reducible rfl)
      try simp only [Act.put, List.setIfInBounds_toArray, List.set_cons_zero, List.set_cons_succ]
      refine wpAnyH_ready (rs := [6]) (by kernel_rfl) (by simp) ?_
      refine AllReadyH.cons (o := { dst := Option.some 29, op := Go.Op.call { callee := Go.Callee.value (Go.Operand.func 125), args := #[Go.Operand.tmp 28], argTypes := #[4] }, type := 9, pos := "lines.go:108", after := #[{ on := 5, ground := Go.Ground.data }], guard := Option.none }) rfl (fun K hK => ?_) AllReadyH.nil
      go_simp
      refine (HSec.out _).mono ?_
      rintro z wa ⟨rfl, rfl⟩
      refine hK.out _ _ ?_ (fun hHeld => ?_)
      · exact ⟨v0, v3⟩
      clear hK K
      try simp only [Act.put, List.setIfInBounds_toArray, List.set_cons_zero, List.set_cons_succ]
      refine wpAnyH_take (i := 7) (oi := { dst := Option.some 30, op := Go.Op.binOp Go.BinOp.add 9 (Go.Operand.tmp 26) (Go.Operand.tmp 29) 9, type := 9, pos := "lines.go:108", after := #[{ on := 3, ground := Go.Ground.data }, { on := 6, ground := Go.Ground.data }], guard := Option.none }) (v := .string B7) rfl (by kernel_rfl) (by kernel_rfl) (by kernel_rfl) (fun _ _ _ h => h) (Or.inl ⟨by rfl, ?_⟩) (by assumption) ?_
      · (intro w hSw; (try dsimp only at hSw); go_simp)
      try simp only [Act.put, List.setIfInBounds_toArray, List.set_cons_zero, List.set_cons_succ]
      refine wpAnyH_take (i := 8) (oi := { dst := Option.some 31, op := Go.Op.indexAddr 46 (Go.Operand.tmp 23) (Go.Operand.tmp 24), type := 0, pos := "lines.go:108", after := #[{ on := 0, ground := Go.Ground.data }, { on := 1, ground := Go.Ground.data }, { on := 0, ground := Go.Ground.phase }, { on := 1, ground := Go.Ground.phase }, { on := 2, ground := Go.Ground.phase }, { on := 3, ground := Go.Ground.phase }, { on := 4, ground := Go.Ground.phase }, { on := 5, ground := Go.Ground.phase }, { on := 6, ground := Go.Ground.phase }, { on := 7, ground := Go.Ground.phase }], guard := Option.none }) (v := ?_) rfl (by kernel_rfl) (by kernel_rfl) (by kernel_rfl) (fun _ _ _ h => h) (Or.inl ⟨by rfl, ?_⟩) (by assumption) ?_
      rotate_left
      · (intro w hSw; (try dsimp only at hSw); go_simp; try with_reducible rfl)
      try simp only [Act.put, List.setIfInBounds_toArray, List.set_cons_zero, List.set_cons_succ]
      refine wpAnyH_ready (rs := [9]) (by kernel_rfl) (by simp) ?_
      refine AllReadyH.cons (o := { dst := Option.none, op := Go.Op.store 9 (Go.Operand.tmp 31) (Go.Operand.tmp 30), type := 0, pos := "lines.go:108", after := #[{ on := 8, ground := Go.Ground.data }, { on := 7, ground := Go.Ground.data }, { on := 6, ground := Go.Ground.chain }, { on := 0, ground := Go.Ground.phase }, { on := 1, ground := Go.Ground.phase }, { on := 2, ground := Go.Ground.phase }, { on := 3, ground := Go.Ground.phase }, { on := 4, ground := Go.Ground.phase }, { on := 5, ground := Go.Ground.phase }, { on := 6, ground := Go.Ground.phase }, { on := 7, ground := Go.Ground.phase }], guard := Option.none }) rfl (fun K hK => ?_) AllReadyH.nil
      go_simp
      refine hK.out _ _ ?_ (fun hHeld => ?_)
      · exact ⟨(World.cell?_setCell_far _ _ _ _ hne).trans v0, (World.cell?_setCell_far _ _ _ _ hne).trans v3⟩
      clear hK K
      try simp only [Act.put, List.setIfInBounds_toArray, List.set_cons_zero, List.set_cons_succ]
      refine wpAnyH_done (by kernel_rfl) ?_ _
      go_wp2_with fail
      go_roundw
      case rel => exact ⟨k + 1, by go_num, by omega, HPt, HBn⟩
      case measure => simp [intOf]; omega
    · obtain rfl : k = ps.length := by omega
      have hB2 := hB.out
      have y0 := (hB2.cell (p := ⟨b, o, none⟩) hb).trans x0
      have HJ1 := Lib.hid (HJn.out wr.drew (hOut.out.later ((Below.refl _ _).drew)))
      clear HJn hOut
      obtain ⟨NM, hNM⟩ : ∃ A, A = str (nm) := ⟨_, rfl⟩
      obtain ⟨A2, hA2⟩ : ∃ A, A = str (JP) := ⟨_, rfl⟩
      obtain ⟨A3, hA3⟩ : ∃ A, A = str (JR) := ⟨_, rfl⟩
      rw [← hNM] at y0
      rw [← hA2] at HJ1
      rw [← hA3] at HRt
      have hlen3 : nm.length + JP.length ≤ 1000000 := hlen.1
      obtain ⟨B4, hB4⟩ : ∃ B, B = str ([102, 110, 32] ++ nm) := ⟨_, rfl⟩
      obtain ⟨B5, hB5⟩ : ∃ B, B = str (([102, 110, 32] ++ nm) ++ [40]) := ⟨_, rfl⟩
      obtain ⟨B8, hB8⟩ : ∃ B, B = str (([102, 110, 32] ++ nm ++ [40]) ++ JP) := ⟨_, rfl⟩
      obtain ⟨B9, hB9⟩ : ∃ B, B = str (([102, 110, 32] ++ nm ++ [40] ++ JP) ++ [41]) := ⟨_, rfl⟩
      have qB4 : ∀ w : World, (Op.stringOp .add ⟨#[102, 110, 32]⟩ NM).run Tryz.prog w = .ok (.string B4) w := fun w => by
        (try rw [hB4]); (try rw [hNM]); exact add_str ([102, 110, 32]) (nm) (by (try simp only [List.length_cons, List.length_nil] at hlen3 ⊢); omega) w
      have qB5 : ∀ w : World, (Op.stringOp .add B4 ⟨#[40]⟩).run Tryz.prog w = .ok (.string B5) w := fun w => by
        (try rw [hB5]); (try rw [hB4]); exact add_str (([102, 110, 32] ++ nm)) ([40]) (by (try simp only [List.length_append, List.length_cons, List.length_nil] at hlen3 ⊢); omega) w
      have qB8 : ∀ w : World, (Op.stringOp .add B5 A2).run Tryz.prog w = .ok (.string B8) w := fun w => by
        (try rw [hB8]); (try rw [hB5]); (try rw [hA2]); exact add_str (([102, 110, 32] ++ nm ++ [40])) (JP) (by (try simp only [List.length_append, List.length_cons, List.length_nil] at hlen3 ⊢); omega) w
      have qB9 : ∀ w : World, (Op.stringOp .add B8 ⟨#[41]⟩).run Tryz.prog w = .ok (.string B9) w := fun w => by
        (try rw [hB9]); (try rw [hB8]); exact add_str (([102, 110, 32] ++ nm ++ [40] ++ JP)) ([41]) (by (try simp only [List.length_append, List.length_cons, List.length_nil] at hlen3 ⊢); omega) w
      have HB9 := Lib.hid hB9
      have HA3 := Lib.hid hA3
      clear hNM hA2 hA3 hB4 hB5 hB8 hB9
      go_upto_region 7 with fail
      go_cut [6] from 33 to 42 (fun s6 wx => s6 = .string B9 ∧ Hid (Below w.heap.size w wx))
      case first =>
        have HS : Below wr.heap.size wr wr.drew := (Below.refl _ _).drew
        have hbw : b < wr.heap.size := Nat.lt_of_lt_of_le hb hB2.size
        refine wp_region_held_drew (S := fun W => Below wr.heap.size wr W ∧ W.cell? ⟨b, o, none⟩ = some (.string NM)) (by kernel_rfl) ?_ (fun hHeld => ?_)
        · exact ⟨HS, (HS.cell (p := ⟨b, o, none⟩) hbw).trans y0⟩
        refine wpAnyH_take (i := 0) (oi := { dst := Option.some 33, op := Go.Op.move (Go.Operand.tmp 0), type := 129, pos := "lines.go:110", after := #[], guard := Option.none }) (v := ?_) rfl (by kernel_rfl) (by kernel_rfl) (by kernel_rfl) (fun _ _ _ h => h) (Or.inl ⟨by rfl, ?_⟩) (by assumption) ?_
        rotate_left
        · (intro w hSw; (try dsimp only at hSw); go_simp; try with_reducible rfl)
        try simp only [Act.put, List.setIfInBounds_toArray, List.set_cons_zero, List.set_cons_succ]
        refine wpAnyH_take (i := 1) (oi := { dst := Option.some 34, op := Go.Op.nilCheck (Go.Operand.tmp 33), type := 0, pos := "lines.go:110", after := #[{ on := 0, ground := Go.Ground.data }], guard := Option.none }) (v := ?_) rfl (by kernel_rfl) (by kernel_rfl) (by kernel_rfl) (fun _ _ _ h => h) (Or.inl ⟨by rfl, ?_⟩) (by assumption) ?_
        rotate_left
        · (intro w hSw; (try dsimp only at hSw); go_simp; try with_reducible rfl)
        try simp only [Act.put, List.setIfInBounds_toArray, List.set_cons_zero, List.set_cons_succ]
        refine wpAnyH_take (i := 2) (oi := { dst := Option.some 35, op := Go.Op.fieldAddr 49 (Go.Operand.tmp 34) 0, type := 0, pos := "lines.go:110", after := #[{ on := 1, ground := Go.Ground.data }], guard := Option.none }) (v := ?_) rfl (by kernel_rfl) (by kernel_rfl) (by kernel_rfl) (fun _ _ _ h => h) (Or.inl ⟨by rfl, ?_⟩) (by assumption) ?_
        rotate_left
        · (intro w hSw; (try dsimp only at hSw); go_simp; try with_reducible rfl)
        try simp only [Act.put, List.setIfInBounds_toArray, List.set_cons_zero, List.set_cons_succ]
        refine wpAnyH_take (i := 3) (oi := { dst := Option.some 36, op := Go.Op.load 9 (Go.Operand.tmp 35), type := 9, pos := "lines.go:110", after := #[{ on := 2, ground := Go.Ground.data }], guard := Option.none }) (v := ?_) rfl (by kernel_rfl) (by kernel_rfl) (by kernel_rfl) (fun _ _ _ h => h) (Or.inl ⟨by rfl, ?_⟩) (by assumption) ?_
        rotate_left
        · (intro w hSw; (try dsimp only at hSw); go_simp; try with_reducible rfl)
        try simp only [Act.put, List.setIfInBounds_toArray, List.set_cons_zero, List.set_cons_succ]
        refine wpAnyH_take (i := 4) (oi := { dst := Option.some 37, op := Go.Op.binOp Go.BinOp.add 9 (Go.Operand.const (Go.Value.string { data := #[102, 110, 32] })) (Go.Operand.tmp 36) 9, type := 9, pos := "lines.go:110", after := #[{ on := 3, ground := Go.Ground.data }], guard := Option.none }) (v := .string B4) rfl (by kernel_rfl) (by kernel_rfl) (by kernel_rfl) (fun _ _ _ h => h) (Or.inl ⟨by rfl, ?_⟩) (by assumption) ?_
        · (intro w hSw; (try dsimp only at hSw); go_simp)
        try simp only [Act.put, List.setIfInBounds_toArray, List.set_cons_zero, List.set_cons_succ]
        refine wpAnyH_take (i := 5) (oi := { dst := Option.some 38, op := Go.Op.binOp Go.BinOp.add 9 (Go.Operand.tmp 37) (Go.Operand.const (Go.Value.string { data := #[40] })) 9, type := 9, pos := "lines.go:110", after := #[{ on := 4, ground := Go.Ground.data }], guard := Option.none }) (v := .string B5) rfl (by kernel_rfl) (by kernel_rfl) (by kernel_rfl) (fun _ _ _ h => h) (Or.inl ⟨by rfl, ?_⟩) (by assumption) ?_
        · (intro w hSw; (try dsimp only at hSw); go_simp)
        try simp only [Act.put, List.setIfInBounds_toArray, List.set_cons_zero, List.set_cons_succ]
        refine wpAnyH_take (i := 6) (oi := { dst := Option.some 39, op := Go.Op.move (Go.Operand.tmp 3), type := 46, pos := "lines.go:110", after := #[], guard := Option.none }) (v := ?_) rfl (by kernel_rfl) (by kernel_rfl) (by kernel_rfl) (fun _ _ _ h => h) (Or.inl ⟨by rfl, ?_⟩) (by assumption) ?_
        rotate_left
        · (intro w hSw; (try dsimp only at hSw); go_simp; try with_reducible rfl)
        try simp only [Act.put, List.setIfInBounds_toArray, List.set_cons_zero, List.set_cons_succ]
        refine wpAnyH_ready (rs := [7]) (by kernel_rfl) (by simp) ?_
        refine AllReadyH.cons (o := { dst := Option.some 40, op := Go.Op.call { callee := Go.Callee.value (Go.Operand.func 138), args := #[Go.Operand.tmp 39, Go.Operand.const (Go.Value.string { data := #[44, 32] })], argTypes := #[46, 9] }, type := 9, pos := "lines.go:110", after := #[{ on := 6, ground := Go.Ground.data }], guard := Option.none }) rfl (fun K hK => ?_) AllReadyH.nil
        go_simp
        refine HJ1.out.mono ?_
        rintro z wa ⟨rfl, hB'⟩
        replace HS := HS.trans (hB'.mono HS.size)
        clear hB'
        refine hK.out _ _ ?_ (fun hHeld => ?_)
        · exact ⟨HS, (HS.cell (p := ⟨b, o, none⟩) hbw).trans y0⟩
        clear hK K
        try simp only [Act.put, List.setIfInBounds_toArray, List.set_cons_zero, List.set_cons_succ]
        refine wpAnyH_take (i := 8) (oi := { dst := Option.some 41, op := Go.Op.binOp Go.BinOp.add 9 (Go.Operand.tmp 38) (Go.Operand.tmp 40) 9, type := 9, pos := "lines.go:110", after := #[{ on := 5, ground := Go.Ground.data }, { on := 7, ground := Go.Ground.data }], guard := Option.none }) (v := .string B8) rfl (by kernel_rfl) (by kernel_rfl) (by kernel_rfl) (fun _ _ _ h => h) (Or.inl ⟨by rfl, ?_⟩) (by assumption) ?_
        · (intro w hSw; (try dsimp only at hSw); go_simp)
        try simp only [Act.put, List.setIfInBounds_toArray, List.set_cons_zero, List.set_cons_succ]
        refine wpAnyH_take (i := 9) (oi := { dst := Option.some 42, op := Go.Op.binOp Go.BinOp.add 9 (Go.Operand.tmp 41) (Go.Operand.const (Go.Value.string { data := #[41] })) 9, type := 9, pos := "lines.go:110", after := #[{ on := 8, ground := Go.Ground.data }], guard := Option.none }) (v := .string B9) rfl (by kernel_rfl) (by kernel_rfl) (by kernel_rfl) (fun _ _ _ h => h) (Or.inl ⟨by rfl, ?_⟩) (by assumption) ?_
        · (intro w hSw; (try dsimp only at hSw); go_simp)
        try simp only [Act.put, List.setIfInBounds_toArray, List.set_cons_zero, List.set_cons_succ]
        refine wpAnyH_take (i := 10) (oi := { dst := Option.some 6, op := Go.Op.assign (Go.Operand.tmp 42), type := 9, pos := "lines.go:110", after := #[{ on := 9, ground := Go.Ground.data }, { on := 7, ground := Go.Ground.chain }, { on := 0, ground := Go.Ground.phase }, { on := 1, ground := Go.Ground.phase }, { on := 2, ground := Go.Ground.phase }, { on := 3, ground := Go.Ground.phase }, { on := 4, ground := Go.Ground.phase }, { on := 5, ground := Go.Ground.phase }, { on := 6, ground := Go.Ground.phase }, { on := 7, ground := Go.Ground.phase }, { on := 8, ground := Go.Ground.phase }, { on := 9, ground := Go.Ground.phase }], guard := Option.none }) (v := ?_) rfl (by kernel_rfl) (by kernel_rfl) (by kernel_rfl) (fun _ _ _ h => h) (Or.inl ⟨by rfl, ?_⟩) (by assumption) ?_
        rotate_left
        · (intro w hSw; (try dsimp only at hSw); go_simp; try with_reducible rfl)
        try simp only [Act.put, List.setIfInBounds_toArray, List.set_cons_zero, List.set_cons_succ]
        refine wpAnyH_done (by kernel_rfl) ?_ _
        go_wp2_with fail
        go_meet
        exact ⟨rfl, Lib.hid (hB2.trans (HS.mono hB2.size))⟩
      case rest =>
        obtain ⟨rfl, HB3⟩ := hcut
        have y3 := (HB3.out.cell (p := ⟨b, o + 3, none⟩) hb).trans x3
        by_cases h0 : rs.length = 0
        · rw [h0] at y3
          have hB9 := HB9.out
          obtain ⟨B58, hB58⟩ : ∃ B, B = str (([102, 110, 32] ++ nm ++ [40] ++ JP ++ [41]) ++ [32, 123]) := ⟨_, rfl⟩
          have qB58 : ∀ w : World, (Op.stringOp .add B9 ⟨#[32, 123]⟩).run Tryz.prog w = .ok (.string B58) w := fun w => by
            (try rw [hB58]); (try rw [hB9]); exact add_str (([102, 110, 32] ++ nm ++ [40] ++ JP ++ [41])) ([32, 123]) (by (try simp only [List.length_append, List.length_cons, List.length_nil] at hlen3 ⊢); omega) w
          have HF := Lib.hid (show TT = B58 by rw [HT.out, if_pos h0, List.append_nil, hB58])
          clear hB58 hB9
          go_wp2_with fail
          go_ret
          exact ⟨ret_strE HF.out.symm, HB3.out⟩
        · have hpos : (0 : Int) < (rs.length : Int) := by omega
          have hlen4 := hlen.2 h0
          have hB9 := HB9.out
          have hA3 := HA3.out
          have HR1 := Lib.hid (HRt.out h0 wc HB3.out)
          obtain ⟨B55, hB55⟩ : ∃ B, B = str ([32, 45, 62, 32] ++ JR) := ⟨_, rfl⟩
          obtain ⟨B56, hB56⟩ : ∃ B, B = str (([102, 110, 32] ++ nm ++ [40] ++ JP ++ [41]) ++ ([32, 45, 62, 32] ++ JR)) := ⟨_, rfl⟩
          obtain ⟨B58, hB58⟩ : ∃ B, B = str ((([102, 110, 32] ++ nm ++ [40] ++ JP ++ [41]) ++ ([32, 45, 62, 32] ++ JR)) ++ [32, 123]) := ⟨_, rfl⟩
          have qB55 : ∀ w : World, (Op.stringOp .add ⟨#[32, 45, 62, 32]⟩ A3).run Tryz.prog w = .ok (.string B55) w := fun w => by
            (try rw [hB55]); (try rw [hA3]); exact add_str ([32, 45, 62, 32]) (JR) (by (try simp only [List.length_cons, List.length_nil] at hlen4 ⊢); omega) w
          have qB56 : ∀ w : World, (Op.stringOp .add B9 B55).run Tryz.prog w = .ok (.string B56) w := fun w => by
            (try rw [hB56]); (try rw [hB9]); (try rw [hB55]); exact add_str (([102, 110, 32] ++ nm ++ [40] ++ JP ++ [41])) (([32, 45, 62, 32] ++ JR)) (by (try simp only [List.length_append, List.length_cons, List.length_nil] at hlen4 ⊢); omega) w
          have qB58 : ∀ w : World, (Op.stringOp .add B56 ⟨#[32, 123]⟩).run Tryz.prog w = .ok (.string B58) w := fun w => by
            (try rw [hB58]); (try rw [hB56]); exact add_str ((([102, 110, 32] ++ nm ++ [40] ++ JP ++ [41]) ++ ([32, 45, 62, 32] ++ JR))) ([32, 123]) (by (try simp only [List.length_append, List.length_cons, List.length_nil] at hlen4 ⊢); omega) w
          have HF := Lib.hid (show TT = B58 by rw [HT.out, if_neg h0, hB58])
          clear hB58 hB56 hB55 hB9 hA3
          go_wp2_with fail
          refine HR1.out.mono ?_
          rintro z w2 ⟨rfl, hB'⟩
          have HE := Lib.hid (HB3.out.trans (hB'.mono HB3.out.size))
          clear hB'
          go_wp2_with fail
          go_ret
          exact ⟨ret_strE HF.out.symm, HE.out⟩
end Go.Proofs.YtlhbledakddbbaaGreatDoor
/- What a statement has besides is nothing: the program's isZeroStmt. -/
namespace Go.Proofs.YtlhbledakddbbaaGreatDoor
open Go.RowKit

set_option maxRecDepth 100000 in
set_option maxHeartbeats 6400000 in
theorem isZeroSt_any (x : St) (hk : x.kind = 0) (s : StP) (N : Nat) (w : World) (hN : N ≤ w.heap.size) (hx : x.Ok w N s) :
    Calls Tryz.prog 137 #[x.val s] w fun e w' => e = .returned (.bool x.isZero) ∧ Below w.heap.size w w' := by
  obtain ⟨A1, hA1⟩ : ∃ A1, x.cells s = A1 := ⟨_, rfl⟩
  obtain ⟨W1, hW1⟩ : ∃ W1, w.alloc (Obj.cells A1 54) = W1 := ⟨_, rfl⟩
  have hB1 : Below w.heap.size w W1 := by rw [← hW1]; exact (Below.refl _ w).alloc (Nat.le_refl _) _
  have hX : ∀ j z, (x.cells s)[j]? = some z → W1.cell? ⟨w.heap.size, j, none⟩ = some z := fun j z hz => by rw [← hW1]; exact cell_block (heap_alloc_new w _) (by rw [← hA1]; exact hz)
  have HB := Lib.hid hB1
  have ok := hx.later (hB1.mono hN) (Nat.le_refl N)
  unfold St.val
  rw [hA1]
  obtain ⟨kd, nm, ns, e, a, g, lo, hi, bd, el⟩ := x
  obtain rfl : kd = 0 := hk
  have HZe := Lib.hid (isZero_any e w.heap.size 3 N W1 (exAt_ofOk ok.2.1 (hX 3 _ rfl) (hX 4 _ rfl) (hX 5 _ rfl) (hX 6 _ rfl)))
  have HZa := Lib.hid (isZero_any a w.heap.size 7 N W1 (exAt_ofOk ok.2.2.1 (hX 7 _ rfl) (hX 8 _ rfl) (hX 9 _ rfl) (hX 10 _ rfl)))
  have c0 : W1.cell? ⟨w.heap.size, 0, none⟩ = some (.int .i64 0) := hX 0 _ rfl
  have c1 : W1.cell? ⟨w.heap.size, 1, none⟩ = some (.string (str nm)) := hX 1 _ rfl
  have c2 : W1.cell? ⟨w.heap.size, 2, none⟩ = some (.slice s.pn ns.length s.cn) := hX 2 _ rfl
  have c11 : W1.cell? ⟨w.heap.size, 11, none⟩ = some (.slice s.pg g.len s.cg) := hX 11 _ rfl
  have c12 : W1.cell? ⟨w.heap.size, 12, none⟩ = some (.int .u64 (lo : Int)) := hX 12 _ rfl
  have c13 : W1.cell? ⟨w.heap.size, 13, none⟩ = some (.int .u64 (hi : Int)) := hX 13 _ rfl
  have c14 : W1.cell? ⟨w.heap.size, 14, none⟩ = some (.slice s.pb bd.len s.cb) := hX 14 _ rfl
  have c15 : W1.cell? ⟨w.heap.size, 15, none⟩ = some (.slice s.pl el.len s.cl) := hX 15 _ rfl
  have hm2 := ok.1.2.1
  have hm11 := ok.2.2.2.1.1
  have hm14 := ok.2.2.2.2.1.1
  have hm15 := ok.2.2.2.2.2.1.1
  unfold St.isZero
  simp only []
  have es : (str nm).toList.isEmpty = nm.isEmpty := by rw [Lib.toList_data, str_data]
  clear ok hX hx hB1 hN hA1
  generalize ns.length = n2 at *
  generalize g.len = n11 at *
  generalize bd.len = n14 at *
  generalize el.len = n15 at *
  generalize e.none = ze at *
  generalize a.none = za at *
  go_enter Tryz.func137, Tryz.ntmps137
  cases hn : nm.isEmpty with
  | false =>
    rw [hn] at es
    have e0 : ¬ (str nm).toList = [] := by intro h; rw [h] at es; cases es
    go_wp2_with fail
    go_ret
    exact ⟨by simp, HB.out⟩
  | true =>
    rw [hn] at es
    have e0 : (str nm).toList = [] := by simpa using es
    by_cases hn2 : n2 = 0
    · subst hn2
      cases ze with
      | false =>
        go_wp2_with fail
        refine (HZe.out).mono ?_
        rintro z w2 ⟨rfl, rfl⟩
        go_wp2_with fail
        go_ret
        exact ⟨by simp, HB.out⟩
      | true =>
        cases za with
        | false =>
          go_wp2_with fail
          refine (HZe.out).mono ?_
          rintro z w2 ⟨rfl, rfl⟩
          go_wp2_with fail
          refine (HZa.out).mono ?_
          rintro z w2 ⟨rfl, rfl⟩
          go_wp2_with fail
          go_ret
          exact ⟨by simp, HB.out⟩
        | true =>
          by_cases hn11 : n11 = 0
          · subst hn11
            by_cases hlo : lo = 0
            · subst hlo
              by_cases hhi : hi = 0
              · subst hhi
                by_cases hn14 : n14 = 0
                · subst hn14
                  by_cases hn15 : n15 = 0
                  · subst hn15
                    go_wp2_with fail
                    refine (HZe.out).mono ?_
                    rintro z w2 ⟨rfl, rfl⟩
                    go_wp2_with fail
                    refine (HZa.out).mono ?_
                    rintro z w2 ⟨rfl, rfl⟩
                    go_wp2_with fail
                    go_ret
                    exact ⟨by simp, HB.out⟩
                  · have fn15 : ((n15 : Int) == 0) = false := by simp; omega
                    go_wp2_with fail
                    refine (HZe.out).mono ?_
                    rintro z w2 ⟨rfl, rfl⟩
                    go_wp2_with fail
                    refine (HZa.out).mono ?_
                    rintro z w2 ⟨rfl, rfl⟩
                    go_wp2_with fail
                    go_ret
                    exact ⟨by simp, HB.out⟩
                · have fn14 : ((n14 : Int) == 0) = false := by simp; omega
                  go_wp2_with fail
                  refine (HZe.out).mono ?_
                  rintro z w2 ⟨rfl, rfl⟩
                  go_wp2_with fail
                  refine (HZa.out).mono ?_
                  rintro z w2 ⟨rfl, rfl⟩
                  go_wp2_with fail
                  go_ret
                  exact ⟨by simp, HB.out⟩
              · have fhi : ((hi : Int) == 0) = false := by simp; omega
                go_wp2_with fail
                refine (HZe.out).mono ?_
                rintro z w2 ⟨rfl, rfl⟩
                go_wp2_with fail
                refine (HZa.out).mono ?_
                rintro z w2 ⟨rfl, rfl⟩
                go_wp2_with fail
                go_ret
                exact ⟨by simp, HB.out⟩
            · have flo : ((lo : Int) == 0) = false := by simp; omega
              go_wp2_with fail
              refine (HZe.out).mono ?_
              rintro z w2 ⟨rfl, rfl⟩
              go_wp2_with fail
              refine (HZa.out).mono ?_
              rintro z w2 ⟨rfl, rfl⟩
              go_wp2_with fail
              go_ret
              exact ⟨by simp, HB.out⟩
          · have fn11 : ((n11 : Int) == 0) = false := by simp; omega
            go_wp2_with fail
            refine (HZe.out).mono ?_
            rintro z w2 ⟨rfl, rfl⟩
            go_wp2_with fail
            refine (HZa.out).mono ?_
            rintro z w2 ⟨rfl, rfl⟩
            go_wp2_with fail
            go_ret
            exact ⟨by simp, HB.out⟩
    · have fn2 : ((n2 : Int) == 0) = false := by simp; omega
      go_wp2_with fail
      go_ret
      exact ⟨by simp [hn2], HB.out⟩
end Go.Proofs.YtlhbledakddbbaaGreatDoor
/- Which statements can be told: the program's mayStmt. -/
namespace Go.Proofs.YtlhbledakddbbaaGreatDoor
open Go.RowKit

theorem set_eq (A : Array Value) (o : Nat) (vs B : Array Value) (h : putA A o vs = B) : putA A o vs = B := h
theorem E0_ok {w : World} {N : Nat} : E0.Ok w N none := ⟨Exs.In.nil _ _ _, by decide⟩
theorem nilIn {w : World} {N : Nat} {p : Option Addr} : Sts.nil.In w N p := ⟨Nat.zero_le _, .inl rfl⟩
theorem nilExs {w : World} {N : Nat} {p : Option Addr} : Exs.nil.In w N p := Exs.In.nil _ _ _
theorem nilRow {w : World} {N : Nat} {p : Option Addr} : RowIn N (StrAt w) 1 [] p := ⟨Nat.zero_le _, .inl rfl⟩
/-- an every over statements, of a bound -/
def EvS (n : Nat) : Prop := ∀ (l : Sts), l.size ≤ n → ∀ (p : Option Addr) (c N : Nat) (w : World), N ≤ w.heap.size → l.In w N p →
    Calls Tryz.prog 105 #[.slice p l.len c, .func (.func 106) #[] #[]] w fun e w' => e = .returned (.bool l.may) ∧ Below w.heap.size w w'

set_option maxRecDepth 100000 in
set_option maxHeartbeats 6400000 in
theorem mayStmt_1 (n : Nat) (_hEv : EvS n) (nm : List UInt8) (ns : List (List UInt8)) (e a : Ex) (g : Exs) (lo hi : Nat) (bd el : Sts) (_hb : bd.size ≤ n) (_hl : el.size ≤ n) (s : StP) (N : Nat) (w : World) (hN : N ≤ w.heap.size) (hx : (St.mk 1 nm ns e a g lo hi bd el).Ok w N s) :
    Calls Tryz.prog 106 #[(St.mk 1 nm ns e a g lo hi bd el).val s] w fun z w' => z = .returned (.bool (St.mk 1 nm ns e a g lo hi bd el).may) ∧ Below w.heap.size w w' := by
  obtain ⟨A1, hA1⟩ : ∃ A1, A1 = (#[.int .i64 1, .string (str nm), .slice s.pn ns.length s.cn, .int .i64 e.op, .int .u64 (e.word : Int), .string (str e.name), .slice s.pe e.args.len s.ce, .int .i64 a.op, .int .u64 (a.word : Int), .string (str a.name), .slice s.pa a.args.len s.ca, .slice s.pg g.len s.cg, .int .u64 (lo : Int), .int .u64 (hi : Int), .slice s.pb bd.len s.cb, .slice s.pl el.len s.cl] : Array Value) := ⟨_, rfl⟩
  obtain ⟨W1, hW1⟩ : ∃ W1, w.alloc (Obj.cells A1 54) = W1 := ⟨_, rfl⟩
  obtain ⟨W2, hW2⟩ : ∃ W2, W1.alloc (Obj.cells A1 54) = W2 := ⟨_, rfl⟩
  have hB1 : Below w.heap.size w W1 := by rw [← hW1]; exact (Below.refl _ w).alloc (Nat.le_refl _) _
  have hz1 : W1.heap.size = w.heap.size + 1 := by rw [← hW1]; simp
  have HZ1 := Lib.hid (show A1.size = 16 by rw [hA1]; rfl)
  have HO1 := Lib.hid (show A1.all (·.oneCell') = true by rw [hA1]; simp [Value.oneCell'])
  have HI1 := Lib.hid (infoSt.trans (by rw [HZ1.out]) : (Tryz.prog.info? 54).map (·.size) = some A1.size)
  have F2 := Lib.hid (show W1.rangeAt w.heap.size 0 A1.toList by rw [← hW1]; exact range_new w A1 _)
  have k10 : W2.heap[w.heap.size]? = some (.cells A1 54 (0, 0)) := by rw [← hW2, Below.heap_alloc _ _ _ (by omega), ← hW1]; exact heap_alloc_new w _
  have k20 : W2.heap[W1.heap.size]? = some (.cells A1 54 (0, 0)) := by rw [← hW2]; exact heap_alloc_new W1 _
  have HB2 := Lib.hid (show Below w.heap.size w W2 by rw [← hW2]; exact hB1.alloc (by omega) _)
  have hz2 : W2.heap.size = W1.heap.size + 1 := by rw [← hW2]; simp
  have Hnm := Lib.hid (fun w => name_any (str nm) w)
  rw [str_data] at Hnm
  have He := Lib.hid (fun (w1 : World) (hB : Below w.heap.size w w1) => mayExpr_any e s.pe s.ce N w1 (Nat.le_trans hN hB.size) (hx.2.1.later (hB.mono hN) (Nat.le_refl N)))
  unfold Ex.val at He
  have HZr := Lib.hid (fun (w1 : World) (hB : Below w.heap.size w w1) => isZeroSt_any (St.mk 0 [] ns E0 a g lo hi bd el) rfl ⟨s.pn, none, s.pa, s.pg, s.pb, s.pl, s.cn, 0, s.ca, s.cg, s.cb, s.cl⟩ N w1 (Nat.le_trans hN hB.size) (St.Ok.later (x := St.mk 0 [] ns E0 a g lo hi bd el) (s := ⟨s.pn, none, s.pa, s.pg, s.pb, s.pl, s.cn, 0, s.ca, s.cg, s.cb, s.cl⟩) (show St.Ok w N (St.mk 0 [] ns E0 a g lo hi bd el) ⟨s.pn, none, s.pa, s.pg, s.pb, s.pl, s.cn, 0, s.ca, s.cg, s.cb, s.cl⟩ from ⟨hx.1, E0_ok, hx.2.2.1, hx.2.2.2.1, hx.2.2.2.2.1, hx.2.2.2.2.2.1, hx.2.2.2.2.2.2⟩) (hB.mono hN) (Nat.le_refl N)))
  unfold St.val at HZr
  rw [st_may_1]
  clear hx _hEv
  generalize nameB nm = znm at *
  generalize e.may = ze at *
  generalize (St.mk 0 [] ns E0 a g lo hi bd el).isZero = zz at *
  show Calls _ _ #[.agg #[.int .i64 1, .string (str nm), .slice s.pn ns.length s.cn, .int .i64 e.op, .int .u64 (e.word : Int), .string (str e.name), .slice s.pe e.args.len s.ce, .int .i64 a.op, .int .u64 (a.word : Int), .string (str a.name), .slice s.pa a.args.len s.ca, .slice s.pg g.len s.cg, .int .u64 (lo : Int), .int .u64 (hi : Int), .slice s.pb bd.len s.cb, .slice s.pl el.len s.cl]] w _
  rw [← hA1]
  have HA1 := Lib.hid hA1
  have HZz := Lib.hid hz1
  clear hB1 hA1 hz1 hz2
  go_enter Tryz.func106, Tryz.ntmps106
  go_upto_region 3 with (first | (refine wpl_load rfl 54 _ rfl w.heap.size 0 rfl A1 _ F2.out Tryz.underlying54 rfl HI1.out ?_) | (refine wpl_store_new rfl 54 _ _ rfl _ A1 _ rfl rfl (by rw [HZ1.out]; rfl) HI1.out HO1.out ?_; rw [hW2]))
  rw [HA1.out] at k10 k20
  clear HA1 hW1 hW2 HZ1 HO1 HI1 F2
  have K1 := Lib.hid k10
  have K2 := Lib.hid k20
  clear k10 k20
  go_upto_region 4 with (refine wpl_put rfl _ _ _ rfl rfl W1.heap.size _ _ rfl rfl _ _ K2.out (by exact Nat.le_of_ble_eq_true rfl) (by kernel_rfl) (by rfl) ?_; intro wq hk _hb; replace K1 := Lib.hid ((_hb.block _ (lt_of_block K1.out) (by have := HZz.out; omega)).trans K1.out); replace K2 := Lib.hid hk; replace HB2 := Lib.hid (_hb.below HB2.out (by have := HZz.out; omega) HB2.out.size); clear hk _hb)
  have d0 := cell_block K1.out (j := 0) (v := .int .i64 1) rfl
  have d1 := cell_block K1.out (j := 1) (v := .string (str nm)) rfl
  go_wp2_with fail
  refine (Hnm.out _).mono ?_
  rintro z w5 ⟨rfl, rfl⟩
  clear d1
  cases znm with
  | false =>
    go_wp2_with (refine wpl_put rfl _ _ _ rfl rfl W1.heap.size _ _ rfl rfl _ _ K2.out (by exact Nat.le_of_ble_eq_true rfl) (by kernel_rfl) (by rfl) ?_; intro wq hk _hb; replace K1 := Lib.hid ((_hb.block _ (lt_of_block K1.out) (by have := HZz.out; omega)).trans K1.out); replace K2 := Lib.hid hk; replace HB2 := Lib.hid (_hb.below HB2.out (by have := HZz.out; omega) HB2.out.size); clear hk _hb)
    go_ret
    exact ⟨by simp, HB2.out⟩
  | true =>
    have d3 := cell_block K1.out (j := 3) (v := .int .i64 e.op) rfl
    have d4 := cell_block K1.out (j := 4) (v := .int .u64 (e.word : Int)) rfl
    have d5 := cell_block K1.out (j := 5) (v := .string (str e.name)) rfl
    have d6 := cell_block K1.out (j := 6) (v := .slice s.pe e.args.len s.ce) rfl
    go_wp2_with fail
    refine (He.out _ HB2.out).mono ?_
    rintro z w5 ⟨rfl, hB⟩
    replace K1 := Lib.hid ((hB.block _ (lt_of_block K1.out)).trans K1.out)
    replace K2 := Lib.hid ((hB.block _ (lt_of_block K2.out)).trans K2.out)
    replace HB2 := Lib.hid (HB2.out.trans (hB.mono HB2.out.size))
    clear hB
    clear d3 d4 d5 d6
    cases ze with
    | false =>
      go_wp2_with (refine wpl_put rfl _ _ _ rfl rfl W1.heap.size _ _ rfl rfl _ _ K2.out (by exact Nat.le_of_ble_eq_true rfl) (by kernel_rfl) (by rfl) ?_; intro wq hk _hb; replace K1 := Lib.hid ((_hb.block _ (lt_of_block K1.out) (by have := HZz.out; omega)).trans K1.out); replace K2 := Lib.hid hk; replace HB2 := Lib.hid (_hb.below HB2.out (by have := HZz.out; omega) HB2.out.size); clear hk _hb)
      go_ret
      exact ⟨by simp, HB2.out⟩
    | true =>
      go_wp2_with (first | (refine wpl_load_if (by rfl) 54 _ rfl W1.heap.size 0 rfl ((St.mk 0 [] ns E0 a g lo hi bd el).cells ⟨s.pn, none, s.pa, s.pg, s.pb, s.pl, s.cn, 0, s.ca, s.cg, s.cb, s.cl⟩) _ (range_block K2.out) Tryz.underlying54 rfl (infoSt.trans rfl) ?_) | (refine wpl_put rfl _ _ _ rfl rfl W1.heap.size _ _ rfl rfl _ _ K2.out (by exact Nat.le_of_ble_eq_true rfl) (by kernel_rfl) (by rfl) ?_; intro wq hk _hb; replace K1 := Lib.hid ((_hb.block _ (lt_of_block K1.out) (by have := HZz.out; omega)).trans K1.out); replace K2 := Lib.hid hk; replace HB2 := Lib.hid (_hb.below HB2.out (by have := HZz.out; omega) HB2.out.size); clear hk _hb))
      refine (HZr.out _ HB2.out).mono ?_
      rintro z w5 ⟨rfl, hB⟩
      replace HB2 := Lib.hid (HB2.out.trans (hB.mono HB2.out.size))
      go_wp2_with fail
      go_ret
      exact ⟨by simp, HB2.out⟩
set_option maxRecDepth 100000 in
set_option maxHeartbeats 6400000 in
theorem mayStmt_2 (n : Nat) (_hEv : EvS n) (nm : List UInt8) (ns : List (List UInt8)) (e a : Ex) (g : Exs) (lo hi : Nat) (bd el : Sts) (_hb : bd.size ≤ n) (_hl : el.size ≤ n) (s : StP) (N : Nat) (w : World) (hN : N ≤ w.heap.size) (hx : (St.mk 2 nm ns e a g lo hi bd el).Ok w N s) :
    Calls Tryz.prog 106 #[(St.mk 2 nm ns e a g lo hi bd el).val s] w fun z w' => z = .returned (.bool (St.mk 2 nm ns e a g lo hi bd el).may) ∧ Below w.heap.size w w' := by
  obtain ⟨A1, hA1⟩ : ∃ A1, A1 = (#[.int .i64 2, .string (str nm), .slice s.pn ns.length s.cn, .int .i64 e.op, .int .u64 (e.word : Int), .string (str e.name), .slice s.pe e.args.len s.ce, .int .i64 a.op, .int .u64 (a.word : Int), .string (str a.name), .slice s.pa a.args.len s.ca, .slice s.pg g.len s.cg, .int .u64 (lo : Int), .int .u64 (hi : Int), .slice s.pb bd.len s.cb, .slice s.pl el.len s.cl] : Array Value) := ⟨_, rfl⟩
  obtain ⟨W1, hW1⟩ : ∃ W1, w.alloc (Obj.cells A1 54) = W1 := ⟨_, rfl⟩
  obtain ⟨W2, hW2⟩ : ∃ W2, W1.alloc (Obj.cells A1 54) = W2 := ⟨_, rfl⟩
  have hB1 : Below w.heap.size w W1 := by rw [← hW1]; exact (Below.refl _ w).alloc (Nat.le_refl _) _
  have hz1 : W1.heap.size = w.heap.size + 1 := by rw [← hW1]; simp
  have HZ1 := Lib.hid (show A1.size = 16 by rw [hA1]; rfl)
  have HO1 := Lib.hid (show A1.all (·.oneCell') = true by rw [hA1]; simp [Value.oneCell'])
  have HI1 := Lib.hid (infoSt.trans (by rw [HZ1.out]) : (Tryz.prog.info? 54).map (·.size) = some A1.size)
  have F2 := Lib.hid (show W1.rangeAt w.heap.size 0 A1.toList by rw [← hW1]; exact range_new w A1 _)
  have k10 : W2.heap[w.heap.size]? = some (.cells A1 54 (0, 0)) := by rw [← hW2, Below.heap_alloc _ _ _ (by omega), ← hW1]; exact heap_alloc_new w _
  have k20 : W2.heap[W1.heap.size]? = some (.cells A1 54 (0, 0)) := by rw [← hW2]; exact heap_alloc_new W1 _
  have HB2 := Lib.hid (show Below w.heap.size w W2 by rw [← hW2]; exact hB1.alloc (by omega) _)
  have hz2 : W2.heap.size = W1.heap.size + 1 := by rw [← hW2]; simp
  have Hnm := Lib.hid (fun w => name_any (str nm) w)
  rw [str_data] at Hnm
  have Ha := Lib.hid (fun (w1 : World) (hB : Below w.heap.size w w1) => mayExpr_any a s.pa s.ca N w1 (Nat.le_trans hN hB.size) (hx.2.2.1.later (hB.mono hN) (Nat.le_refl N)))
  have He := Lib.hid (fun (w1 : World) (hB : Below w.heap.size w w1) => mayExpr_any e s.pe s.ce N w1 (Nat.le_trans hN hB.size) (hx.2.1.later (hB.mono hN) (Nat.le_refl N)))
  unfold Ex.val at He
  unfold Ex.val at Ha
  have HZr := Lib.hid (fun (w1 : World) (hB : Below w.heap.size w w1) => isZeroSt_any (St.mk 0 [] ns E0 E0 g lo hi bd el) rfl ⟨s.pn, none, none, s.pg, s.pb, s.pl, s.cn, 0, 0, s.cg, s.cb, s.cl⟩ N w1 (Nat.le_trans hN hB.size) (St.Ok.later (x := St.mk 0 [] ns E0 E0 g lo hi bd el) (s := ⟨s.pn, none, none, s.pg, s.pb, s.pl, s.cn, 0, 0, s.cg, s.cb, s.cl⟩) (show St.Ok w N (St.mk 0 [] ns E0 E0 g lo hi bd el) ⟨s.pn, none, none, s.pg, s.pb, s.pl, s.cn, 0, 0, s.cg, s.cb, s.cl⟩ from ⟨hx.1, E0_ok, E0_ok, hx.2.2.2.1, hx.2.2.2.2.1, hx.2.2.2.2.2.1, hx.2.2.2.2.2.2⟩) (hB.mono hN) (Nat.le_refl N)))
  unfold St.val at HZr
  rw [st_may_2]
  clear hx _hEv
  generalize nameB nm = znm at *
  generalize a.may = za at *
  generalize e.may = ze at *
  generalize (St.mk 0 [] ns E0 E0 g lo hi bd el).isZero = zz at *
  show Calls _ _ #[.agg #[.int .i64 2, .string (str nm), .slice s.pn ns.length s.cn, .int .i64 e.op, .int .u64 (e.word : Int), .string (str e.name), .slice s.pe e.args.len s.ce, .int .i64 a.op, .int .u64 (a.word : Int), .string (str a.name), .slice s.pa a.args.len s.ca, .slice s.pg g.len s.cg, .int .u64 (lo : Int), .int .u64 (hi : Int), .slice s.pb bd.len s.cb, .slice s.pl el.len s.cl]] w _
  rw [← hA1]
  have HA1 := Lib.hid hA1
  have HZz := Lib.hid hz1
  clear hB1 hA1 hz1 hz2
  go_enter Tryz.func106, Tryz.ntmps106
  go_upto_region 3 with (first | (refine wpl_load rfl 54 _ rfl w.heap.size 0 rfl A1 _ F2.out Tryz.underlying54 rfl HI1.out ?_) | (refine wpl_store_new rfl 54 _ _ rfl _ A1 _ rfl rfl (by rw [HZ1.out]; rfl) HI1.out HO1.out ?_; rw [hW2]))
  rw [HA1.out] at k10 k20
  clear HA1 hW1 hW2 HZ1 HO1 HI1 F2
  have K1 := Lib.hid k10
  have K2 := Lib.hid k20
  clear k10 k20
  go_upto_region 4 with (refine wpl_put rfl _ _ _ rfl rfl W1.heap.size _ _ rfl rfl _ _ K2.out (by exact Nat.le_of_ble_eq_true rfl) (by kernel_rfl) (by rfl) ?_; intro wq hk _hb; replace K1 := Lib.hid ((_hb.block _ (lt_of_block K1.out) (by have := HZz.out; omega)).trans K1.out); replace K2 := Lib.hid hk; replace HB2 := Lib.hid (_hb.below HB2.out (by have := HZz.out; omega) HB2.out.size); clear hk _hb)
  have d0 := cell_block K1.out (j := 0) (v := .int .i64 2) rfl
  have d1 := cell_block K1.out (j := 1) (v := .string (str nm)) rfl
  go_wp2_with fail
  refine (Hnm.out _).mono ?_
  rintro z w5 ⟨rfl, rfl⟩
  clear d1
  cases znm with
  | false =>
    go_wp2_with (refine wpl_put rfl _ _ _ rfl rfl W1.heap.size _ _ rfl rfl _ _ K2.out (by exact Nat.le_of_ble_eq_true rfl) (by kernel_rfl) (by rfl) ?_; intro wq hk _hb; replace K1 := Lib.hid ((_hb.block _ (lt_of_block K1.out) (by have := HZz.out; omega)).trans K1.out); replace K2 := Lib.hid hk; replace HB2 := Lib.hid (_hb.below HB2.out (by have := HZz.out; omega) HB2.out.size); clear hk _hb)
    go_ret
    exact ⟨by simp, HB2.out⟩
  | true =>
    have d7 := cell_block K1.out (j := 7) (v := .int .i64 a.op) rfl
    have d8 := cell_block K1.out (j := 8) (v := .int .u64 (a.word : Int)) rfl
    have d9 := cell_block K1.out (j := 9) (v := .string (str a.name)) rfl
    have d10 := cell_block K1.out (j := 10) (v := .slice s.pa a.args.len s.ca) rfl
    go_wp2_with fail
    refine (Ha.out _ HB2.out).mono ?_
    rintro z w5 ⟨rfl, hB⟩
    replace K1 := Lib.hid ((hB.block _ (lt_of_block K1.out)).trans K1.out)
    replace K2 := Lib.hid ((hB.block _ (lt_of_block K2.out)).trans K2.out)
    replace HB2 := Lib.hid (HB2.out.trans (hB.mono HB2.out.size))
    clear hB
    clear d7 d8 d9 d10
    cases za with
    | false =>
      go_wp2_with (refine wpl_put rfl _ _ _ rfl rfl W1.heap.size _ _ rfl rfl _ _ K2.out (by exact Nat.le_of_ble_eq_true rfl) (by kernel_rfl) (by rfl) ?_; intro wq hk _hb; replace K1 := Lib.hid ((_hb.block _ (lt_of_block K1.out) (by have := HZz.out; omega)).trans K1.out); replace K2 := Lib.hid hk; replace HB2 := Lib.hid (_hb.below HB2.out (by have := HZz.out; omega) HB2.out.size); clear hk _hb)
      go_ret
      exact ⟨by simp, HB2.out⟩
    | true =>
      have d3 := cell_block K1.out (j := 3) (v := .int .i64 e.op) rfl
      have d4 := cell_block K1.out (j := 4) (v := .int .u64 (e.word : Int)) rfl
      have d5 := cell_block K1.out (j := 5) (v := .string (str e.name)) rfl
      have d6 := cell_block K1.out (j := 6) (v := .slice s.pe e.args.len s.ce) rfl
      go_wp2_with fail
      refine (He.out _ HB2.out).mono ?_
      rintro z w5 ⟨rfl, hB⟩
      replace K1 := Lib.hid ((hB.block _ (lt_of_block K1.out)).trans K1.out)
      replace K2 := Lib.hid ((hB.block _ (lt_of_block K2.out)).trans K2.out)
      replace HB2 := Lib.hid (HB2.out.trans (hB.mono HB2.out.size))
      clear hB
      clear d3 d4 d5 d6
      cases ze with
      | false =>
        go_wp2_with (refine wpl_put rfl _ _ _ rfl rfl W1.heap.size _ _ rfl rfl _ _ K2.out (by exact Nat.le_of_ble_eq_true rfl) (by kernel_rfl) (by rfl) ?_; intro wq hk _hb; replace K1 := Lib.hid ((_hb.block _ (lt_of_block K1.out) (by have := HZz.out; omega)).trans K1.out); replace K2 := Lib.hid hk; replace HB2 := Lib.hid (_hb.below HB2.out (by have := HZz.out; omega) HB2.out.size); clear hk _hb)
        go_ret
        exact ⟨by simp, HB2.out⟩
      | true =>
        go_wp2_with (first | (refine wpl_load_if (by rfl) 54 _ rfl W1.heap.size 0 rfl ((St.mk 0 [] ns E0 E0 g lo hi bd el).cells ⟨s.pn, none, none, s.pg, s.pb, s.pl, s.cn, 0, 0, s.cg, s.cb, s.cl⟩) _ (range_block K2.out) Tryz.underlying54 rfl (infoSt.trans rfl) ?_) | (refine wpl_put rfl _ _ _ rfl rfl W1.heap.size _ _ rfl rfl _ _ K2.out (by exact Nat.le_of_ble_eq_true rfl) (by kernel_rfl) (by rfl) ?_; intro wq hk _hb; replace K1 := Lib.hid ((_hb.block _ (lt_of_block K1.out) (by have := HZz.out; omega)).trans K1.out); replace K2 := Lib.hid hk; replace HB2 := Lib.hid (_hb.below HB2.out (by have := HZz.out; omega) HB2.out.size); clear hk _hb))
        refine (HZr.out _ HB2.out).mono ?_
        rintro z w5 ⟨rfl, hB⟩
        replace HB2 := Lib.hid (HB2.out.trans (hB.mono HB2.out.size))
        go_wp2_with fail
        go_ret
        exact ⟨by simp, HB2.out⟩
set_option maxRecDepth 100000 in
set_option maxHeartbeats 6400000 in
theorem mayStmt_3 (n : Nat) (hEv : EvS n) (nm : List UInt8) (ns : List (List UInt8)) (e a : Ex) (g : Exs) (lo hi : Nat) (bd el : Sts) (hb : bd.size ≤ n) (hl : el.size ≤ n) (s : StP) (N : Nat) (w : World) (hN : N ≤ w.heap.size) (hx : (St.mk 3 nm ns e a g lo hi bd el).Ok w N s) :
    Calls Tryz.prog 106 #[(St.mk 3 nm ns e a g lo hi bd el).val s] w fun z w' => z = .returned (.bool (St.mk 3 nm ns e a g lo hi bd el).may) ∧ Below w.heap.size w w' := by
  obtain ⟨A1, hA1⟩ : ∃ A1, A1 = (#[.int .i64 3, .string (str nm), .slice s.pn ns.length s.cn, .int .i64 e.op, .int .u64 (e.word : Int), .string (str e.name), .slice s.pe e.args.len s.ce, .int .i64 a.op, .int .u64 (a.word : Int), .string (str a.name), .slice s.pa a.args.len s.ca, .slice s.pg g.len s.cg, .int .u64 (lo : Int), .int .u64 (hi : Int), .slice s.pb bd.len s.cb, .slice s.pl el.len s.cl] : Array Value) := ⟨_, rfl⟩
  obtain ⟨W1, hW1⟩ : ∃ W1, w.alloc (Obj.cells A1 54) = W1 := ⟨_, rfl⟩
  obtain ⟨W2, hW2⟩ : ∃ W2, W1.alloc (Obj.cells A1 54) = W2 := ⟨_, rfl⟩
  have hB1 : Below w.heap.size w W1 := by rw [← hW1]; exact (Below.refl _ w).alloc (Nat.le_refl _) _
  have hz1 : W1.heap.size = w.heap.size + 1 := by rw [← hW1]; simp
  have HZ1 := Lib.hid (show A1.size = 16 by rw [hA1]; rfl)
  have HO1 := Lib.hid (show A1.all (·.oneCell') = true by rw [hA1]; simp [Value.oneCell'])
  have HI1 := Lib.hid (infoSt.trans (by rw [HZ1.out]) : (Tryz.prog.info? 54).map (·.size) = some A1.size)
  have F2 := Lib.hid (show W1.rangeAt w.heap.size 0 A1.toList by rw [← hW1]; exact range_new w A1 _)
  have k10 : W2.heap[w.heap.size]? = some (.cells A1 54 (0, 0)) := by rw [← hW2, Below.heap_alloc _ _ _ (by omega), ← hW1]; exact heap_alloc_new w _
  have k20 : W2.heap[W1.heap.size]? = some (.cells A1 54 (0, 0)) := by rw [← hW2]; exact heap_alloc_new W1 _
  have HB2 := Lib.hid (show Below w.heap.size w W2 by rw [← hW2]; exact hB1.alloc (by omega) _)
  have hz2 : W2.heap.size = W1.heap.size + 1 := by rw [← hW2]; simp
  have He := Lib.hid (fun (w1 : World) (hB : Below w.heap.size w w1) => mayExpr_any e s.pe s.ce N w1 (Nat.le_trans hN hB.size) (hx.2.1.later (hB.mono hN) (Nat.le_refl N)))
  have Hbd := Lib.hid (fun (w1 : World) (hB : Below w.heap.size w w1) => hEv bd hb s.pb s.cb N w1 (Nat.le_trans hN hB.size) (hx.2.2.2.2.1.later (hB.mono hN) (Nat.le_refl N)))
  have Hel := Lib.hid (fun (w1 : World) (hB : Below w.heap.size w w1) => hEv el hl s.pl s.cl N w1 (Nat.le_trans hN hB.size) (hx.2.2.2.2.2.1.later (hB.mono hN) (Nat.le_refl N)))
  unfold Ex.val at He
  have HZr := Lib.hid (fun (w1 : World) (hB : Below w.heap.size w w1) => isZeroSt_any (St.mk 0 nm ns E0 a g lo hi .nil .nil) rfl ⟨s.pn, none, s.pa, s.pg, none, none, s.cn, 0, s.ca, s.cg, 0, 0⟩ N w1 (Nat.le_trans hN hB.size) (St.Ok.later (x := St.mk 0 nm ns E0 a g lo hi .nil .nil) (s := ⟨s.pn, none, s.pa, s.pg, none, none, s.cn, 0, s.ca, s.cg, 0, 0⟩) (show St.Ok w N (St.mk 0 nm ns E0 a g lo hi .nil .nil) ⟨s.pn, none, s.pa, s.pg, none, none, s.cn, 0, s.ca, s.cg, 0, 0⟩ from ⟨hx.1, E0_ok, hx.2.2.1, hx.2.2.2.1, nilIn, nilIn, hx.2.2.2.2.2.2⟩) (hB.mono hN) (Nat.le_refl N)))
  unfold St.val at HZr
  rw [st_may_3]
  clear hx hEv
  generalize e.may = ze at *
  generalize bd.may = zbd at *
  generalize el.may = zel at *
  generalize (St.mk 0 nm ns E0 a g lo hi .nil .nil).isZero = zz at *
  show Calls _ _ #[.agg #[.int .i64 3, .string (str nm), .slice s.pn ns.length s.cn, .int .i64 e.op, .int .u64 (e.word : Int), .string (str e.name), .slice s.pe e.args.len s.ce, .int .i64 a.op, .int .u64 (a.word : Int), .string (str a.name), .slice s.pa a.args.len s.ca, .slice s.pg g.len s.cg, .int .u64 (lo : Int), .int .u64 (hi : Int), .slice s.pb bd.len s.cb, .slice s.pl el.len s.cl]] w _
  rw [← hA1]
  have HA1 := Lib.hid hA1
  have HZz := Lib.hid hz1
  clear hB1 hA1 hz1 hz2
  go_enter Tryz.func106, Tryz.ntmps106
  go_upto_region 3 with (first | (refine wpl_load rfl 54 _ rfl w.heap.size 0 rfl A1 _ F2.out Tryz.underlying54 rfl HI1.out ?_) | (refine wpl_store_new rfl 54 _ _ rfl _ A1 _ rfl rfl (by rw [HZ1.out]; rfl) HI1.out HO1.out ?_; rw [hW2]))
  rw [HA1.out] at k10 k20
  clear HA1 hW1 hW2 HZ1 HO1 HI1 F2
  have K1 := Lib.hid k10
  have K2 := Lib.hid k20
  clear k10 k20
  go_upto_region 4 with (refine wpl_put rfl _ _ _ rfl rfl W1.heap.size _ _ rfl rfl _ _ K2.out (by exact Nat.le_of_ble_eq_true rfl) (by kernel_rfl) (by rfl) ?_; intro wq hk hb; replace K1 := Lib.hid ((hb.block _ (lt_of_block K1.out) (by have := HZz.out; omega)).trans K1.out); replace K2 := Lib.hid hk; replace HB2 := Lib.hid (hb.below HB2.out (by have := HZz.out; omega) HB2.out.size); clear hk hb)
  have d0 := cell_block K1.out (j := 0) (v := .int .i64 3) rfl
  have d3 := cell_block K1.out (j := 3) (v := .int .i64 e.op) rfl
  have d4 := cell_block K1.out (j := 4) (v := .int .u64 (e.word : Int)) rfl
  have d5 := cell_block K1.out (j := 5) (v := .string (str e.name)) rfl
  have d6 := cell_block K1.out (j := 6) (v := .slice s.pe e.args.len s.ce) rfl
  go_wp2_with fail
  refine (He.out _ HB2.out).mono ?_
  rintro z w5 ⟨rfl, hB⟩
  replace K1 := Lib.hid ((hB.block _ (lt_of_block K1.out)).trans K1.out)
  replace K2 := Lib.hid ((hB.block _ (lt_of_block K2.out)).trans K2.out)
  replace HB2 := Lib.hid (HB2.out.trans (hB.mono HB2.out.size))
  clear hB
  clear d3 d4 d5 d6
  cases ze with
  | false =>
    go_wp2_with (refine wpl_put rfl _ _ _ rfl rfl W1.heap.size _ _ rfl rfl _ _ K2.out (by exact Nat.le_of_ble_eq_true rfl) (by kernel_rfl) (by rfl) ?_; intro wq hk hb; replace K1 := Lib.hid ((hb.block _ (lt_of_block K1.out) (by have := HZz.out; omega)).trans K1.out); replace K2 := Lib.hid hk; replace HB2 := Lib.hid (hb.below HB2.out (by have := HZz.out; omega) HB2.out.size); clear hk hb)
    go_ret
    exact ⟨by simp, HB2.out⟩
  | true =>
    have d14 := cell_block K1.out (j := 14) (v := .slice s.pb bd.len s.cb) rfl
    go_wp2_with fail
    refine (Hbd.out _ HB2.out).mono ?_
    rintro z w5 ⟨rfl, hB⟩
    replace K1 := Lib.hid ((hB.block _ (lt_of_block K1.out)).trans K1.out)
    replace K2 := Lib.hid ((hB.block _ (lt_of_block K2.out)).trans K2.out)
    replace HB2 := Lib.hid (HB2.out.trans (hB.mono HB2.out.size))
    clear hB
    clear d14
    cases zbd with
    | false =>
      go_wp2_with (refine wpl_put rfl _ _ _ rfl rfl W1.heap.size _ _ rfl rfl _ _ K2.out (by exact Nat.le_of_ble_eq_true rfl) (by kernel_rfl) (by rfl) ?_; intro wq hk hb; replace K1 := Lib.hid ((hb.block _ (lt_of_block K1.out) (by have := HZz.out; omega)).trans K1.out); replace K2 := Lib.hid hk; replace HB2 := Lib.hid (hb.below HB2.out (by have := HZz.out; omega) HB2.out.size); clear hk hb)
      go_ret
      exact ⟨by simp, HB2.out⟩
    | true =>
      have d15 := cell_block K1.out (j := 15) (v := .slice s.pl el.len s.cl) rfl
      go_wp2_with fail
      refine (Hel.out _ HB2.out).mono ?_
      rintro z w5 ⟨rfl, hB⟩
      replace K1 := Lib.hid ((hB.block _ (lt_of_block K1.out)).trans K1.out)
      replace K2 := Lib.hid ((hB.block _ (lt_of_block K2.out)).trans K2.out)
      replace HB2 := Lib.hid (HB2.out.trans (hB.mono HB2.out.size))
      clear hB
      clear d15
      cases zel with
      | false =>
        go_wp2_with (refine wpl_put rfl _ _ _ rfl rfl W1.heap.size _ _ rfl rfl _ _ K2.out (by exact Nat.le_of_ble_eq_true rfl) (by kernel_rfl) (by rfl) ?_; intro wq hk hb; replace K1 := Lib.hid ((hb.block _ (lt_of_block K1.out) (by have := HZz.out; omega)).trans K1.out); replace K2 := Lib.hid hk; replace HB2 := Lib.hid (hb.below HB2.out (by have := HZz.out; omega) HB2.out.size); clear hk hb)
        go_ret
        exact ⟨by simp, HB2.out⟩
      | true =>
        go_wp2_with (first | (refine wpl_load_if (by rfl) 54 _ rfl W1.heap.size 0 rfl ((St.mk 0 nm ns E0 a g lo hi .nil .nil).cells ⟨s.pn, none, s.pa, s.pg, none, none, s.cn, 0, s.ca, s.cg, 0, 0⟩) _ (range_block K2.out) Tryz.underlying54 rfl (infoSt.trans rfl) ?_) | (refine wpl_put rfl _ _ _ rfl rfl W1.heap.size _ _ rfl rfl _ _ K2.out (by exact Nat.le_of_ble_eq_true rfl) (by kernel_rfl) (by rfl) ?_; intro wq hk hb; replace K1 := Lib.hid ((hb.block _ (lt_of_block K1.out) (by have := HZz.out; omega)).trans K1.out); replace K2 := Lib.hid hk; replace HB2 := Lib.hid (hb.below HB2.out (by have := HZz.out; omega) HB2.out.size); clear hk hb))
        refine (HZr.out _ HB2.out).mono ?_
        rintro z w5 ⟨rfl, hB⟩
        replace HB2 := Lib.hid (HB2.out.trans (hB.mono HB2.out.size))
        go_wp2_with fail
        go_ret
        exact ⟨by simp, HB2.out⟩
set_option maxRecDepth 100000 in
set_option maxHeartbeats 6400000 in
theorem mayStmt_4 (n : Nat) (hEv : EvS n) (nm : List UInt8) (ns : List (List UInt8)) (e a : Ex) (g : Exs) (lo hi : Nat) (bd el : Sts) (hb : bd.size ≤ n) (_hl : el.size ≤ n) (s : StP) (N : Nat) (w : World) (hN : N ≤ w.heap.size) (hx : (St.mk 4 nm ns e a g lo hi bd el).Ok w N s) :
    Calls Tryz.prog 106 #[(St.mk 4 nm ns e a g lo hi bd el).val s] w fun z w' => z = .returned (.bool (St.mk 4 nm ns e a g lo hi bd el).may) ∧ Below w.heap.size w w' := by
  obtain ⟨A1, hA1⟩ : ∃ A1, A1 = (#[.int .i64 4, .string (str nm), .slice s.pn ns.length s.cn, .int .i64 e.op, .int .u64 (e.word : Int), .string (str e.name), .slice s.pe e.args.len s.ce, .int .i64 a.op, .int .u64 (a.word : Int), .string (str a.name), .slice s.pa a.args.len s.ca, .slice s.pg g.len s.cg, .int .u64 (lo : Int), .int .u64 (hi : Int), .slice s.pb bd.len s.cb, .slice s.pl el.len s.cl] : Array Value) := ⟨_, rfl⟩
  obtain ⟨W1, hW1⟩ : ∃ W1, w.alloc (Obj.cells A1 54) = W1 := ⟨_, rfl⟩
  obtain ⟨W2, hW2⟩ : ∃ W2, W1.alloc (Obj.cells A1 54) = W2 := ⟨_, rfl⟩
  have hB1 : Below w.heap.size w W1 := by rw [← hW1]; exact (Below.refl _ w).alloc (Nat.le_refl _) _
  have hz1 : W1.heap.size = w.heap.size + 1 := by rw [← hW1]; simp
  have HZ1 := Lib.hid (show A1.size = 16 by rw [hA1]; rfl)
  have HO1 := Lib.hid (show A1.all (·.oneCell') = true by rw [hA1]; simp [Value.oneCell'])
  have HI1 := Lib.hid (infoSt.trans (by rw [HZ1.out]) : (Tryz.prog.info? 54).map (·.size) = some A1.size)
  have F2 := Lib.hid (show W1.rangeAt w.heap.size 0 A1.toList by rw [← hW1]; exact range_new w A1 _)
  have k10 : W2.heap[w.heap.size]? = some (.cells A1 54 (0, 0)) := by rw [← hW2, Below.heap_alloc _ _ _ (by omega), ← hW1]; exact heap_alloc_new w _
  have k20 : W2.heap[W1.heap.size]? = some (.cells A1 54 (0, 0)) := by rw [← hW2]; exact heap_alloc_new W1 _
  have HB2 := Lib.hid (show Below w.heap.size w W2 by rw [← hW2]; exact hB1.alloc (by omega) _)
  have hz2 : W2.heap.size = W1.heap.size + 1 := by rw [← hW2]; simp
  have He := Lib.hid (fun (w1 : World) (hB : Below w.heap.size w w1) => mayExpr_any e s.pe s.ce N w1 (Nat.le_trans hN hB.size) (hx.2.1.later (hB.mono hN) (Nat.le_refl N)))
  have Hbd := Lib.hid (fun (w1 : World) (hB : Below w.heap.size w w1) => hEv bd hb s.pb s.cb N w1 (Nat.le_trans hN hB.size) (hx.2.2.2.2.1.later (hB.mono hN) (Nat.le_refl N)))
  unfold Ex.val at He
  have HZr := Lib.hid (fun (w1 : World) (hB : Below w.heap.size w w1) => isZeroSt_any (St.mk 0 nm ns E0 a g lo hi .nil el) rfl ⟨s.pn, none, s.pa, s.pg, none, s.pl, s.cn, 0, s.ca, s.cg, 0, s.cl⟩ N w1 (Nat.le_trans hN hB.size) (St.Ok.later (x := St.mk 0 nm ns E0 a g lo hi .nil el) (s := ⟨s.pn, none, s.pa, s.pg, none, s.pl, s.cn, 0, s.ca, s.cg, 0, s.cl⟩) (show St.Ok w N (St.mk 0 nm ns E0 a g lo hi .nil el) ⟨s.pn, none, s.pa, s.pg, none, s.pl, s.cn, 0, s.ca, s.cg, 0, s.cl⟩ from ⟨hx.1, E0_ok, hx.2.2.1, hx.2.2.2.1, nilIn, hx.2.2.2.2.2.1, hx.2.2.2.2.2.2⟩) (hB.mono hN) (Nat.le_refl N)))
  unfold St.val at HZr
  rw [st_may_4]
  clear hx hEv
  generalize e.may = ze at *
  generalize bd.may = zbd at *
  generalize (St.mk 0 nm ns E0 a g lo hi .nil el).isZero = zz at *
  show Calls _ _ #[.agg #[.int .i64 4, .string (str nm), .slice s.pn ns.length s.cn, .int .i64 e.op, .int .u64 (e.word : Int), .string (str e.name), .slice s.pe e.args.len s.ce, .int .i64 a.op, .int .u64 (a.word : Int), .string (str a.name), .slice s.pa a.args.len s.ca, .slice s.pg g.len s.cg, .int .u64 (lo : Int), .int .u64 (hi : Int), .slice s.pb bd.len s.cb, .slice s.pl el.len s.cl]] w _
  rw [← hA1]
  have HA1 := Lib.hid hA1
  have HZz := Lib.hid hz1
  clear hB1 hA1 hz1 hz2
  go_enter Tryz.func106, Tryz.ntmps106
  go_upto_region 3 with (first | (refine wpl_load rfl 54 _ rfl w.heap.size 0 rfl A1 _ F2.out Tryz.underlying54 rfl HI1.out ?_) | (refine wpl_store_new rfl 54 _ _ rfl _ A1 _ rfl rfl (by rw [HZ1.out]; rfl) HI1.out HO1.out ?_; rw [hW2]))
  rw [HA1.out] at k10 k20
  clear HA1 hW1 hW2 HZ1 HO1 HI1 F2
  have K1 := Lib.hid k10
  have K2 := Lib.hid k20
  clear k10 k20
  go_upto_region 4 with (refine wpl_put rfl _ _ _ rfl rfl W1.heap.size _ _ rfl rfl _ _ K2.out (by exact Nat.le_of_ble_eq_true rfl) (by kernel_rfl) (by rfl) ?_; intro wq hk hb; replace K1 := Lib.hid ((hb.block _ (lt_of_block K1.out) (by have := HZz.out; omega)).trans K1.out); replace K2 := Lib.hid hk; replace HB2 := Lib.hid (hb.below HB2.out (by have := HZz.out; omega) HB2.out.size); clear hk hb)
  have d0 := cell_block K1.out (j := 0) (v := .int .i64 4) rfl
  have d3 := cell_block K1.out (j := 3) (v := .int .i64 e.op) rfl
  have d4 := cell_block K1.out (j := 4) (v := .int .u64 (e.word : Int)) rfl
  have d5 := cell_block K1.out (j := 5) (v := .string (str e.name)) rfl
  have d6 := cell_block K1.out (j := 6) (v := .slice s.pe e.args.len s.ce) rfl
  go_wp2_with fail
  refine (He.out _ HB2.out).mono ?_
  rintro z w5 ⟨rfl, hB⟩
  replace K1 := Lib.hid ((hB.block _ (lt_of_block K1.out)).trans K1.out)
  replace K2 := Lib.hid ((hB.block _ (lt_of_block K2.out)).trans K2.out)
  replace HB2 := Lib.hid (HB2.out.trans (hB.mono HB2.out.size))
  clear hB
  clear d3 d4 d5 d6
  cases ze with
  | false =>
    go_wp2_with (refine wpl_put rfl _ _ _ rfl rfl W1.heap.size _ _ rfl rfl _ _ K2.out (by exact Nat.le_of_ble_eq_true rfl) (by kernel_rfl) (by rfl) ?_; intro wq hk hb; replace K1 := Lib.hid ((hb.block _ (lt_of_block K1.out) (by have := HZz.out; omega)).trans K1.out); replace K2 := Lib.hid hk; replace HB2 := Lib.hid (hb.below HB2.out (by have := HZz.out; omega) HB2.out.size); clear hk hb)
    go_ret
    exact ⟨by simp, HB2.out⟩
  | true =>
    have d14 := cell_block K1.out (j := 14) (v := .slice s.pb bd.len s.cb) rfl
    go_wp2_with fail
    refine (Hbd.out _ HB2.out).mono ?_
    rintro z w5 ⟨rfl, hB⟩
    replace K1 := Lib.hid ((hB.block _ (lt_of_block K1.out)).trans K1.out)
    replace K2 := Lib.hid ((hB.block _ (lt_of_block K2.out)).trans K2.out)
    replace HB2 := Lib.hid (HB2.out.trans (hB.mono HB2.out.size))
    clear hB
    clear d14
    cases zbd with
    | false =>
      go_wp2_with (refine wpl_put rfl _ _ _ rfl rfl W1.heap.size _ _ rfl rfl _ _ K2.out (by exact Nat.le_of_ble_eq_true rfl) (by kernel_rfl) (by rfl) ?_; intro wq hk hb; replace K1 := Lib.hid ((hb.block _ (lt_of_block K1.out) (by have := HZz.out; omega)).trans K1.out); replace K2 := Lib.hid hk; replace HB2 := Lib.hid (hb.below HB2.out (by have := HZz.out; omega) HB2.out.size); clear hk hb)
      go_ret
      exact ⟨by simp, HB2.out⟩
    | true =>
      go_wp2_with (first | (refine wpl_load_if (by rfl) 54 _ rfl W1.heap.size 0 rfl ((St.mk 0 nm ns E0 a g lo hi .nil el).cells ⟨s.pn, none, s.pa, s.pg, none, s.pl, s.cn, 0, s.ca, s.cg, 0, s.cl⟩) _ (range_block K2.out) Tryz.underlying54 rfl (infoSt.trans rfl) ?_) | (refine wpl_put rfl _ _ _ rfl rfl W1.heap.size _ _ rfl rfl _ _ K2.out (by exact Nat.le_of_ble_eq_true rfl) (by kernel_rfl) (by rfl) ?_; intro wq hk hb; replace K1 := Lib.hid ((hb.block _ (lt_of_block K1.out) (by have := HZz.out; omega)).trans K1.out); replace K2 := Lib.hid hk; replace HB2 := Lib.hid (hb.below HB2.out (by have := HZz.out; omega) HB2.out.size); clear hk hb))
      refine (HZr.out _ HB2.out).mono ?_
      rintro z w5 ⟨rfl, hB⟩
      replace HB2 := Lib.hid (HB2.out.trans (hB.mono HB2.out.size))
      go_wp2_with fail
      go_ret
      exact ⟨by simp, HB2.out⟩
set_option maxRecDepth 100000 in
set_option maxHeartbeats 6400000 in
theorem mayStmt_5 (n : Nat) (hEv : EvS n) (nm : List UInt8) (ns : List (List UInt8)) (e a : Ex) (g : Exs) (lo hi : Nat) (bd el : Sts) (hb : bd.size ≤ n) (_hl : el.size ≤ n) (s : StP) (N : Nat) (w : World) (hN : N ≤ w.heap.size) (hx : (St.mk 5 nm ns e a g lo hi bd el).Ok w N s) :
    Calls Tryz.prog 106 #[(St.mk 5 nm ns e a g lo hi bd el).val s] w fun z w' => z = .returned (.bool (St.mk 5 nm ns e a g lo hi bd el).may) ∧ Below w.heap.size w w' := by
  obtain ⟨A1, hA1⟩ : ∃ A1, A1 = (#[.int .i64 5, .string (str nm), .slice s.pn ns.length s.cn, .int .i64 e.op, .int .u64 (e.word : Int), .string (str e.name), .slice s.pe e.args.len s.ce, .int .i64 a.op, .int .u64 (a.word : Int), .string (str a.name), .slice s.pa a.args.len s.ca, .slice s.pg g.len s.cg, .int .u64 (lo : Int), .int .u64 (hi : Int), .slice s.pb bd.len s.cb, .slice s.pl el.len s.cl] : Array Value) := ⟨_, rfl⟩
  obtain ⟨W1, hW1⟩ : ∃ W1, w.alloc (Obj.cells A1 54) = W1 := ⟨_, rfl⟩
  obtain ⟨W2, hW2⟩ : ∃ W2, W1.alloc (Obj.cells A1 54) = W2 := ⟨_, rfl⟩
  have hB1 : Below w.heap.size w W1 := by rw [← hW1]; exact (Below.refl _ w).alloc (Nat.le_refl _) _
  have hz1 : W1.heap.size = w.heap.size + 1 := by rw [← hW1]; simp
  have HZ1 := Lib.hid (show A1.size = 16 by rw [hA1]; rfl)
  have HO1 := Lib.hid (show A1.all (·.oneCell') = true by rw [hA1]; simp [Value.oneCell'])
  have HI1 := Lib.hid (infoSt.trans (by rw [HZ1.out]) : (Tryz.prog.info? 54).map (·.size) = some A1.size)
  have F2 := Lib.hid (show W1.rangeAt w.heap.size 0 A1.toList by rw [← hW1]; exact range_new w A1 _)
  have k10 : W2.heap[w.heap.size]? = some (.cells A1 54 (0, 0)) := by rw [← hW2, Below.heap_alloc _ _ _ (by omega), ← hW1]; exact heap_alloc_new w _
  have k20 : W2.heap[W1.heap.size]? = some (.cells A1 54 (0, 0)) := by rw [← hW2]; exact heap_alloc_new W1 _
  have HB2 := Lib.hid (show Below w.heap.size w W2 by rw [← hW2]; exact hB1.alloc (by omega) _)
  have hz2 : W2.heap.size = W1.heap.size + 1 := by rw [← hW2]; simp
  have Hnm := Lib.hid (fun w => name_any (str nm) w)
  rw [str_data] at Hnm
  have Hbd := Lib.hid (fun (w1 : World) (hB : Below w.heap.size w w1) => hEv bd hb s.pb s.cb N w1 (Nat.le_trans hN hB.size) (hx.2.2.2.2.1.later (hB.mono hN) (Nat.le_refl N)))
  have HZr := Lib.hid (fun (w1 : World) (hB : Below w.heap.size w w1) => isZeroSt_any (St.mk 0 [] ns e a g 0 0 .nil el) rfl ⟨s.pn, s.pe, s.pa, s.pg, none, s.pl, s.cn, s.ce, s.ca, s.cg, 0, s.cl⟩ N w1 (Nat.le_trans hN hB.size) (St.Ok.later (x := St.mk 0 [] ns e a g 0 0 .nil el) (s := ⟨s.pn, s.pe, s.pa, s.pg, none, s.pl, s.cn, s.ce, s.ca, s.cg, 0, s.cl⟩) (show St.Ok w N (St.mk 0 [] ns e a g 0 0 .nil el) ⟨s.pn, s.pe, s.pa, s.pg, none, s.pl, s.cn, s.ce, s.ca, s.cg, 0, s.cl⟩ from ⟨hx.1, hx.2.1, hx.2.2.1, hx.2.2.2.1, nilIn, hx.2.2.2.2.2.1, (show (0 : Nat) < 18446744073709551616 by decide), (show (0 : Nat) < 18446744073709551616 by decide)⟩) (hB.mono hN) (Nat.le_refl N)))
  unfold St.val at HZr
  rw [st_may_5]
  clear hx hEv
  generalize nameB nm = znm at *
  generalize bd.may = zbd at *
  generalize (St.mk 0 [] ns e a g 0 0 .nil el).isZero = zz at *
  show Calls _ _ #[.agg #[.int .i64 5, .string (str nm), .slice s.pn ns.length s.cn, .int .i64 e.op, .int .u64 (e.word : Int), .string (str e.name), .slice s.pe e.args.len s.ce, .int .i64 a.op, .int .u64 (a.word : Int), .string (str a.name), .slice s.pa a.args.len s.ca, .slice s.pg g.len s.cg, .int .u64 (lo : Int), .int .u64 (hi : Int), .slice s.pb bd.len s.cb, .slice s.pl el.len s.cl]] w _
  rw [← hA1]
  have HA1 := Lib.hid hA1
  have HZz := Lib.hid hz1
  clear hB1 hA1 hz1 hz2
  go_enter Tryz.func106, Tryz.ntmps106
  go_upto_region 3 with (first | (refine wpl_load rfl 54 _ rfl w.heap.size 0 rfl A1 _ F2.out Tryz.underlying54 rfl HI1.out ?_) | (refine wpl_store_new rfl 54 _ _ rfl _ A1 _ rfl rfl (by rw [HZ1.out]; rfl) HI1.out HO1.out ?_; rw [hW2]))
  rw [HA1.out] at k10 k20
  clear HA1 hW1 hW2 HZ1 HO1 HI1 F2
  have K1 := Lib.hid k10
  have K2 := Lib.hid k20
  clear k10 k20
  go_upto_region 4 with (refine wpl_put rfl _ _ _ rfl rfl W1.heap.size _ _ rfl rfl _ _ K2.out (by exact Nat.le_of_ble_eq_true rfl) (by kernel_rfl) (by rfl) ?_; intro wq hk hb; replace K1 := Lib.hid ((hb.block _ (lt_of_block K1.out) (by have := HZz.out; omega)).trans K1.out); replace K2 := Lib.hid hk; replace HB2 := Lib.hid (hb.below HB2.out (by have := HZz.out; omega) HB2.out.size); clear hk hb)
  have d0 := cell_block K1.out (j := 0) (v := .int .i64 5) rfl
  have d1 := cell_block K1.out (j := 1) (v := .string (str nm)) rfl
  go_wp2_with fail
  refine (Hnm.out _).mono ?_
  rintro z w5 ⟨rfl, rfl⟩
  clear d1
  cases znm with
  | false =>
    go_wp2_with (refine wpl_put rfl _ _ _ rfl rfl W1.heap.size _ _ rfl rfl _ _ K2.out (by exact Nat.le_of_ble_eq_true rfl) (by kernel_rfl) (by rfl) ?_; intro wq hk hb; replace K1 := Lib.hid ((hb.block _ (lt_of_block K1.out) (by have := HZz.out; omega)).trans K1.out); replace K2 := Lib.hid hk; replace HB2 := Lib.hid (hb.below HB2.out (by have := HZz.out; omega) HB2.out.size); clear hk hb)
    go_ret
    exact ⟨by simp, HB2.out⟩
  | true =>
    have d14 := cell_block K1.out (j := 14) (v := .slice s.pb bd.len s.cb) rfl
    go_wp2_with fail
    refine (Hbd.out _ HB2.out).mono ?_
    rintro z w5 ⟨rfl, hB⟩
    replace K1 := Lib.hid ((hB.block _ (lt_of_block K1.out)).trans K1.out)
    replace K2 := Lib.hid ((hB.block _ (lt_of_block K2.out)).trans K2.out)
    replace HB2 := Lib.hid (HB2.out.trans (hB.mono HB2.out.size))
    clear hB
    clear d14
    cases zbd with
    | false =>
      go_wp2_with (refine wpl_put rfl _ _ _ rfl rfl W1.heap.size _ _ rfl rfl _ _ K2.out (by exact Nat.le_of_ble_eq_true rfl) (by kernel_rfl) (by rfl) ?_; intro wq hk hb; replace K1 := Lib.hid ((hb.block _ (lt_of_block K1.out) (by have := HZz.out; omega)).trans K1.out); replace K2 := Lib.hid hk; replace HB2 := Lib.hid (hb.below HB2.out (by have := HZz.out; omega) HB2.out.size); clear hk hb)
      go_ret
      exact ⟨by simp, HB2.out⟩
    | true =>
      go_wp2_with (first | (refine wpl_load_if (by rfl) 54 _ rfl W1.heap.size 0 rfl ((St.mk 0 [] ns e a g 0 0 .nil el).cells ⟨s.pn, s.pe, s.pa, s.pg, none, s.pl, s.cn, s.ce, s.ca, s.cg, 0, s.cl⟩) _ (range_block K2.out) Tryz.underlying54 rfl (infoSt.trans rfl) ?_) | (refine wpl_put rfl _ _ _ rfl rfl W1.heap.size _ _ rfl rfl _ _ K2.out (by exact Nat.le_of_ble_eq_true rfl) (by kernel_rfl) (by rfl) ?_; intro wq hk hb; replace K1 := Lib.hid ((hb.block _ (lt_of_block K1.out) (by have := HZz.out; omega)).trans K1.out); replace K2 := Lib.hid hk; replace HB2 := Lib.hid (hb.below HB2.out (by have := HZz.out; omega) HB2.out.size); clear hk hb))
      refine (HZr.out _ HB2.out).mono ?_
      rintro z w5 ⟨rfl, hB⟩
      replace HB2 := Lib.hid (HB2.out.trans (hB.mono HB2.out.size))
      go_wp2_with fail
      go_ret
      exact ⟨by simp, HB2.out⟩
set_option maxRecDepth 100000 in
set_option maxHeartbeats 6400000 in
theorem mayStmt_6 (n : Nat) (_hEv : EvS n) (nm : List UInt8) (ns : List (List UInt8)) (e a : Ex) (g : Exs) (lo hi : Nat) (bd el : Sts) (_hb : bd.size ≤ n) (_hl : el.size ≤ n) (s : StP) (N : Nat) (w : World) (hN : N ≤ w.heap.size) (hx : (St.mk 6 nm ns e a g lo hi bd el).Ok w N s) :
    Calls Tryz.prog 106 #[(St.mk 6 nm ns e a g lo hi bd el).val s] w fun z w' => z = .returned (.bool (St.mk 6 nm ns e a g lo hi bd el).may) ∧ Below w.heap.size w w' := by
  obtain ⟨A1, hA1⟩ : ∃ A1, A1 = (#[.int .i64 6, .string (str nm), .slice s.pn ns.length s.cn, .int .i64 e.op, .int .u64 (e.word : Int), .string (str e.name), .slice s.pe e.args.len s.ce, .int .i64 a.op, .int .u64 (a.word : Int), .string (str a.name), .slice s.pa a.args.len s.ca, .slice s.pg g.len s.cg, .int .u64 (lo : Int), .int .u64 (hi : Int), .slice s.pb bd.len s.cb, .slice s.pl el.len s.cl] : Array Value) := ⟨_, rfl⟩
  obtain ⟨W1, hW1⟩ : ∃ W1, w.alloc (Obj.cells A1 54) = W1 := ⟨_, rfl⟩
  obtain ⟨W2, hW2⟩ : ∃ W2, W1.alloc (Obj.cells A1 54) = W2 := ⟨_, rfl⟩
  have hB1 : Below w.heap.size w W1 := by rw [← hW1]; exact (Below.refl _ w).alloc (Nat.le_refl _) _
  have hz1 : W1.heap.size = w.heap.size + 1 := by rw [← hW1]; simp
  have HZ1 := Lib.hid (show A1.size = 16 by rw [hA1]; rfl)
  have HO1 := Lib.hid (show A1.all (·.oneCell') = true by rw [hA1]; simp [Value.oneCell'])
  have HI1 := Lib.hid (infoSt.trans (by rw [HZ1.out]) : (Tryz.prog.info? 54).map (·.size) = some A1.size)
  have F2 := Lib.hid (show W1.rangeAt w.heap.size 0 A1.toList by rw [← hW1]; exact range_new w A1 _)
  have k10 : W2.heap[w.heap.size]? = some (.cells A1 54 (0, 0)) := by rw [← hW2, Below.heap_alloc _ _ _ (by omega), ← hW1]; exact heap_alloc_new w _
  have k20 : W2.heap[W1.heap.size]? = some (.cells A1 54 (0, 0)) := by rw [← hW2]; exact heap_alloc_new W1 _
  have HB2 := Lib.hid (show Below w.heap.size w W2 by rw [← hW2]; exact hB1.alloc (by omega) _)
  have hz2 : W2.heap.size = W1.heap.size + 1 := by rw [← hW2]; simp
  have Hnm := Lib.hid (fun w => name_any (str nm) w)
  rw [str_data] at Hnm
  have Hns := Lib.hid (fun (w1 : World) (hB : Below w.heap.size w w1) => everyStr_any ns s.pn s.cn N w1 (hx.1.2.imp (Nat.le_refl N) (StrAt.later (hB.mono hN))))
  have Hg := Lib.hid (fun (w1 : World) (hB : Below w.heap.size w w1) => everyEx_any g s.pg s.cg N w1 (Nat.le_trans hN hB.size) (hx.2.2.2.1.later (hB.mono hN) (Nat.le_refl N)))
  have HZr := Lib.hid (fun (w1 : World) (hB : Below w.heap.size w w1) => isZeroSt_any (St.mk 0 [] [] e a .nil lo hi bd el) rfl ⟨none, s.pe, s.pa, none, s.pb, s.pl, 0, s.ce, s.ca, 0, s.cb, s.cl⟩ N w1 (Nat.le_trans hN hB.size) (St.Ok.later (x := St.mk 0 [] [] e a .nil lo hi bd el) (s := ⟨none, s.pe, s.pa, none, s.pb, s.pl, 0, s.ce, s.ca, 0, s.cb, s.cl⟩) (show St.Ok w N (St.mk 0 [] [] e a .nil lo hi bd el) ⟨none, s.pe, s.pa, none, s.pb, s.pl, 0, s.ce, s.ca, 0, s.cb, s.cl⟩ from ⟨⟨Nat.zero_le _, nilRow⟩, hx.2.1, hx.2.2.1, nilExs, hx.2.2.2.2.1, hx.2.2.2.2.2.1, hx.2.2.2.2.2.2⟩) (hB.mono hN) (Nat.le_refl N)))
  unfold St.val at HZr
  rw [st_may_6]
  clear hx _hEv
  generalize nameB nm = znm at *
  generalize namesB ns = zns at *
  generalize g.may = zg at *
  generalize (St.mk 0 [] [] e a .nil lo hi bd el).isZero = zz at *
  show Calls _ _ #[.agg #[.int .i64 6, .string (str nm), .slice s.pn ns.length s.cn, .int .i64 e.op, .int .u64 (e.word : Int), .string (str e.name), .slice s.pe e.args.len s.ce, .int .i64 a.op, .int .u64 (a.word : Int), .string (str a.name), .slice s.pa a.args.len s.ca, .slice s.pg g.len s.cg, .int .u64 (lo : Int), .int .u64 (hi : Int), .slice s.pb bd.len s.cb, .slice s.pl el.len s.cl]] w _
  rw [← hA1]
  have HA1 := Lib.hid hA1
  have HZz := Lib.hid hz1
  clear hB1 hA1 hz1 hz2
  go_enter Tryz.func106, Tryz.ntmps106
  go_upto_region 3 with (first | (refine wpl_load rfl 54 _ rfl w.heap.size 0 rfl A1 _ F2.out Tryz.underlying54 rfl HI1.out ?_) | (refine wpl_store_new rfl 54 _ _ rfl _ A1 _ rfl rfl (by rw [HZ1.out]; rfl) HI1.out HO1.out ?_; rw [hW2]))
  rw [HA1.out] at k10 k20
  clear HA1 hW1 hW2 HZ1 HO1 HI1 F2
  have K1 := Lib.hid k10
  have K2 := Lib.hid k20
  clear k10 k20
  go_upto_region 4 with (refine wpl_put rfl _ _ _ rfl rfl W1.heap.size _ _ rfl rfl _ _ K2.out (by exact Nat.le_of_ble_eq_true rfl) (by kernel_rfl) (by rfl) ?_; intro wq hk _hb; replace K1 := Lib.hid ((_hb.block _ (lt_of_block K1.out) (by have := HZz.out; omega)).trans K1.out); replace K2 := Lib.hid hk; replace HB2 := Lib.hid (_hb.below HB2.out (by have := HZz.out; omega) HB2.out.size); clear hk _hb)
  have d0 := cell_block K1.out (j := 0) (v := .int .i64 6) rfl
  have d1 := cell_block K1.out (j := 1) (v := .string (str nm)) rfl
  go_wp2_with fail
  refine (Hnm.out _).mono ?_
  rintro z w5 ⟨rfl, rfl⟩
  clear d1
  cases znm with
  | false =>
    go_wp2_with (refine wpl_put rfl _ _ _ rfl rfl W1.heap.size _ _ rfl rfl _ _ K2.out (by exact Nat.le_of_ble_eq_true rfl) (by kernel_rfl) (by rfl) ?_; intro wq hk _hb; replace K1 := Lib.hid ((_hb.block _ (lt_of_block K1.out) (by have := HZz.out; omega)).trans K1.out); replace K2 := Lib.hid hk; replace HB2 := Lib.hid (_hb.below HB2.out (by have := HZz.out; omega) HB2.out.size); clear hk _hb)
    go_ret
    exact ⟨by simp, HB2.out⟩
  | true =>
    have d2 := cell_block K1.out (j := 2) (v := .slice s.pn ns.length s.cn) rfl
    go_wp2_with fail
    refine (Hns.out _ HB2.out).mono ?_
    rintro z w5 ⟨rfl, rfl⟩
    clear d2
    cases zns with
    | false =>
      go_wp2_with (refine wpl_put rfl _ _ _ rfl rfl W1.heap.size _ _ rfl rfl _ _ K2.out (by exact Nat.le_of_ble_eq_true rfl) (by kernel_rfl) (by rfl) ?_; intro wq hk _hb; replace K1 := Lib.hid ((_hb.block _ (lt_of_block K1.out) (by have := HZz.out; omega)).trans K1.out); replace K2 := Lib.hid hk; replace HB2 := Lib.hid (_hb.below HB2.out (by have := HZz.out; omega) HB2.out.size); clear hk _hb)
      go_ret
      exact ⟨by simp, HB2.out⟩
    | true =>
      have d11 := cell_block K1.out (j := 11) (v := .slice s.pg g.len s.cg) rfl
      go_wp2_with fail
      refine (Hg.out _ HB2.out).mono ?_
      rintro z w5 ⟨rfl, hB⟩
      replace K1 := Lib.hid ((hB.block _ (lt_of_block K1.out)).trans K1.out)
      replace K2 := Lib.hid ((hB.block _ (lt_of_block K2.out)).trans K2.out)
      replace HB2 := Lib.hid (HB2.out.trans (hB.mono HB2.out.size))
      clear hB
      clear d11
      cases zg with
      | false =>
        go_wp2_with (refine wpl_put rfl _ _ _ rfl rfl W1.heap.size _ _ rfl rfl _ _ K2.out (by exact Nat.le_of_ble_eq_true rfl) (by kernel_rfl) (by rfl) ?_; intro wq hk _hb; replace K1 := Lib.hid ((_hb.block _ (lt_of_block K1.out) (by have := HZz.out; omega)).trans K1.out); replace K2 := Lib.hid hk; replace HB2 := Lib.hid (_hb.below HB2.out (by have := HZz.out; omega) HB2.out.size); clear hk _hb)
        go_ret
        exact ⟨by simp, HB2.out⟩
      | true =>
        go_wp2_with (first | (refine wpl_load_if (by rfl) 54 _ rfl W1.heap.size 0 rfl ((St.mk 0 [] [] e a .nil lo hi bd el).cells ⟨none, s.pe, s.pa, none, s.pb, s.pl, 0, s.ce, s.ca, 0, s.cb, s.cl⟩) _ (range_block K2.out) Tryz.underlying54 rfl (infoSt.trans rfl) ?_) | (refine wpl_put rfl _ _ _ rfl rfl W1.heap.size _ _ rfl rfl _ _ K2.out (by exact Nat.le_of_ble_eq_true rfl) (by kernel_rfl) (by rfl) ?_; intro wq hk _hb; replace K1 := Lib.hid ((_hb.block _ (lt_of_block K1.out) (by have := HZz.out; omega)).trans K1.out); replace K2 := Lib.hid hk; replace HB2 := Lib.hid (_hb.below HB2.out (by have := HZz.out; omega) HB2.out.size); clear hk _hb))
        refine (HZr.out _ HB2.out).mono ?_
        rintro z w5 ⟨rfl, hB⟩
        replace HB2 := Lib.hid (HB2.out.trans (hB.mono HB2.out.size))
        go_wp2_with fail
        go_ret
        exact ⟨by simp, HB2.out⟩
set_option maxRecDepth 100000 in
set_option maxHeartbeats 6400000 in
theorem mayStmt_no (kd : Int) (hno : kd < 1 ∨ 6 < kd) (nm : List UInt8) (ns : List (List UInt8)) (e a : Ex) (g : Exs) (lo hi : Nat) (bd el : Sts) (s : StP) (w : World) :
    Calls Tryz.prog 106 #[(St.mk kd nm ns e a g lo hi bd el).val s] w fun z w' => z = .returned (.bool (St.mk kd nm ns e a g lo hi bd el).may) ∧ Below w.heap.size w w' := by
  obtain ⟨A1, hA1⟩ : ∃ A1, A1 = (#[.int .i64 kd, .string (str nm), .slice s.pn ns.length s.cn, .int .i64 e.op, .int .u64 (e.word : Int), .string (str e.name), .slice s.pe e.args.len s.ce, .int .i64 a.op, .int .u64 (a.word : Int), .string (str a.name), .slice s.pa a.args.len s.ca, .slice s.pg g.len s.cg, .int .u64 (lo : Int), .int .u64 (hi : Int), .slice s.pb bd.len s.cb, .slice s.pl el.len s.cl] : Array Value) := ⟨_, rfl⟩
  obtain ⟨W1, hW1⟩ : ∃ W1, w.alloc (Obj.cells A1 54) = W1 := ⟨_, rfl⟩
  obtain ⟨W2, hW2⟩ : ∃ W2, W1.alloc (Obj.cells A1 54) = W2 := ⟨_, rfl⟩
  have hB1 : Below w.heap.size w W1 := by rw [← hW1]; exact (Below.refl _ w).alloc (Nat.le_refl _) _
  have hz1 : W1.heap.size = w.heap.size + 1 := by rw [← hW1]; simp
  have HZ1 := Lib.hid (show A1.size = 16 by rw [hA1]; rfl)
  have HO1 := Lib.hid (show A1.all (·.oneCell') = true by rw [hA1]; simp [Value.oneCell'])
  have HI1 := Lib.hid (infoSt.trans (by rw [HZ1.out]) : (Tryz.prog.info? 54).map (·.size) = some A1.size)
  have F2 := Lib.hid (show W1.rangeAt w.heap.size 0 A1.toList by rw [← hW1]; exact range_new w A1 _)
  have k10 : W2.heap[w.heap.size]? = some (.cells A1 54 (0, 0)) := by rw [← hW2, Below.heap_alloc _ _ _ (by omega), ← hW1]; exact heap_alloc_new w _
  have k20 : W2.heap[W1.heap.size]? = some (.cells A1 54 (0, 0)) := by rw [← hW2]; exact heap_alloc_new W1 _
  have HB2 := Lib.hid (show Below w.heap.size w W2 by rw [← hW2]; exact hB1.alloc (by omega) _)
  have hz2 : W2.heap.size = W1.heap.size + 1 := by rw [← hW2]; simp
  rw [st_may_no kd hno]
  have q1 : (kd == 1) = false := by simp; omega
  have q2 : (kd == 2) = false := by simp; omega
  have q3 : (kd == 3) = false := by simp; omega
  have q4 : (kd == 4) = false := by simp; omega
  have q5 : (kd == 5) = false := by simp; omega
  have q6 : (kd == 6) = false := by simp; omega
  show Calls _ _ #[.agg #[.int .i64 kd, .string (str nm), .slice s.pn ns.length s.cn, .int .i64 e.op, .int .u64 (e.word : Int), .string (str e.name), .slice s.pe e.args.len s.ce, .int .i64 a.op, .int .u64 (a.word : Int), .string (str a.name), .slice s.pa a.args.len s.ca, .slice s.pg g.len s.cg, .int .u64 (lo : Int), .int .u64 (hi : Int), .slice s.pb bd.len s.cb, .slice s.pl el.len s.cl]] w _
  rw [← hA1]
  have HA1 := Lib.hid hA1
  have HZz := Lib.hid hz1
  clear hB1 hA1 hz1 hz2
  go_enter Tryz.func106, Tryz.ntmps106
  go_upto_region 3 with (first | (refine wpl_load rfl 54 _ rfl w.heap.size 0 rfl A1 _ F2.out Tryz.underlying54 rfl HI1.out ?_) | (refine wpl_store_new rfl 54 _ _ rfl _ A1 _ rfl rfl (by rw [HZ1.out]; rfl) HI1.out HO1.out ?_; rw [hW2]))
  rw [HA1.out] at k10 k20
  clear HA1 hW1 hW2 HZ1 HO1 HI1 F2
  have K1 := Lib.hid k10
  have K2 := Lib.hid k20
  clear k10 k20
  go_upto_region 4 with (refine wpl_put rfl _ _ _ rfl rfl W1.heap.size _ _ rfl rfl _ _ K2.out (by exact Nat.le_of_ble_eq_true rfl) (by kernel_rfl) (by rfl) ?_; intro wq hk hb; replace K1 := Lib.hid ((hb.block _ (lt_of_block K1.out) (by have := HZz.out; omega)).trans K1.out); replace K2 := Lib.hid hk; replace HB2 := Lib.hid (hb.below HB2.out (by have := HZz.out; omega) HB2.out.size); clear hk hb)
  have d0 := cell_block K1.out (j := 0) (v := .int .i64 kd) rfl
  go_wp2_with fail
  go_ret
  exact ⟨rfl, HB2.out⟩
theorem mayS_step (n : Nat) (ih : MayS n) : MayS (n + 1) := by
  intro x hsz s N w hN hx
  obtain ⟨kd, nm, ns, e, a, g, lo, hi, bd, el⟩ := x
  simp only [St.size] at hsz
  have hEv : EvS n := fun l hl p c N w hN h => everyS_step n ih l hl p c N w hN h
  have hno : kd < 1 ∨ 6 < kd ∨ kd = 1 ∨ kd = 2 ∨ kd = 3 ∨ kd = 4 ∨ kd = 5 ∨ kd = 6 := by omega
  rcases hno with h | h | rfl | rfl | rfl | rfl | rfl | rfl
  · exact mayStmt_no kd (.inl h) nm ns e a g lo hi bd el s w
  · exact mayStmt_no kd (.inr h) nm ns e a g lo hi bd el s w
  · exact mayStmt_1 n hEv nm ns e a g lo hi bd el (by omega) (by omega) s N w hN hx
  · exact mayStmt_2 n hEv nm ns e a g lo hi bd el (by omega) (by omega) s N w hN hx
  · exact mayStmt_3 n hEv nm ns e a g lo hi bd el (by omega) (by omega) s N w hN hx
  · exact mayStmt_4 n hEv nm ns e a g lo hi bd el (by omega) (by omega) s N w hN hx
  · exact mayStmt_5 n hEv nm ns e a g lo hi bd el (by omega) (by omega) s N w hN hx
  · exact mayStmt_6 n hEv nm ns e a g lo hi bd el (by omega) (by omega) s N w hN hx
theorem mayS_to : ∀ n, MayS n
  | 0 => fun _ h => absurd h (Nat.not_lt_zero _)
  | n + 1 => mayS_step n (mayS_to n)
theorem everySt_any (l : Sts) (p : Option Addr) (c N : Nat) (w : World) (hN : N ≤ w.heap.size) (h : l.In w N p) :
    Calls Tryz.prog 105 #[.slice p l.len c, .func (.func 106) #[] #[]] w fun e w' => e = .returned (.bool l.may) ∧ Below w.heap.size w w' :=
  everyS_step _ (mayS_to _) l (Nat.le_refl _) p c N w hN h
set_option maxHeartbeats 1600000 in
theorem mayBody_any (l : Sts) (hl6 : l.wt ≤ 1000000) (p : Option Addr) (c N : Nat) (w : World) (hN : N ≤ w.heap.size) (h : l.In w N p) :
    Calls Tryz.prog 70 #[.slice p l.len c] w fun e w' => e = .returned (.bool l.can) ∧ Below w.heap.size w w' := by
  have HD := Lib.hid (deepS_any l hl6 p c N w h hN)
  have HE := Lib.hid (fun (w1 : World) (hB : Below w.heap.size w w1) => everySt_any l p c N w1 (Nat.le_trans hN hB.size) (h.later (hB.mono hN) (Nat.le_refl N)))
  have hd := Sts.deep_le l
  unfold Sts.can
  clear h
  generalize l.deep = d at *
  generalize l.may = m at *
  go_enter Tryz.func70, Tryz.ntmps70
  go_wp2_with fail
  refine HD.out.mono ?_
  rintro e w1 ⟨rfl, hB⟩
  have HB := Lib.hid hB
  clear hB
  by_cases hd64 : d ≤ 64
  · go_wp2_with fail
    refine (HE.out _ HB.out).mono ?_
    rintro e w2 ⟨rfl, hB2⟩
    have HB2 := Lib.hid (HB.out.trans (hB2.mono HB.out.size))
    clear hB2
    go_wp2_with fail
    go_ret
    exact ⟨by simp [hd64], HB2.out⟩
  · go_wp2_with fail
    go_ret
    exact ⟨by simp, HB.out⟩
end Go.Proofs.YtlhbledakddbbaaGreatDoor
/- Which programs can be told: the program's May. -/
namespace Go.Proofs.YtlhbledakddbbaaGreatDoor
open Go.RowKit

def Vr.val (v : Vr) : Value := .agg #[.string (str v.name), .int .i64 v.kind, .int .i64 v.size, .bool v.secret]
def Rgn.val (r : Rgn) : Value := .agg #[.string (str r.name), .int .i64 r.addr, .int .i64 r.size, .bool r.secret]
set_option maxHeartbeats 1600000 in
theorem mayRegion_any (r : Rgn) (w : World) : Calls Tryz.prog 51 #[r.val] w fun e w' => e = .returned (.bool r.may) ∧ Below w.heap.size w w' := by
  obtain ⟨nm, ad, sz, sc⟩ := r
  have HNm := Lib.hid (fun w => name_any (str nm) w)
  rw [str_data] at HNm
  have HB := Lib.hid ((Below.refl w.heap.size w).alloc (Nat.le_refl _) (.cells #[.string (str nm), .int .i64 ad, .int .i64 sz, .bool sc] 77 (0, 0)))
  unfold Rgn.val Rgn.may
  simp only []
  generalize nameB nm = z at *
  go_enter Tryz.func51, Tryz.ntmps51
  go_wp2_with fail
  refine (HNm.out _).mono ?_
  rintro e w2 ⟨rfl, rfl⟩
  cases z with
  | false =>
    go_wp2_with fail
    go_ret
    exact ⟨by simp, HB.out⟩
  | true =>
    by_cases h1 : 0 ≤ ad
    · by_cases h2 : 0 ≤ sz
      · go_wp2_with fail
        go_ret
        exact ⟨by simp [h1, h2], HB.out⟩
      · go_wp2_with fail
        go_ret
        exact ⟨by simp [h1], HB.out⟩
    · go_wp2_with fail
      go_ret
      exact ⟨by simp; omega, HB.out⟩
set_option maxHeartbeats 1600000 in
theorem mayParam_any (v : Vr) (w : World) : Calls Tryz.prog 92 #[v.val] w fun e w' => e = .returned (.bool v.mayP) ∧ Below w.heap.size w w' := by
  obtain ⟨nm, kd, sz, sc⟩ := v
  have HNm := Lib.hid (fun w => name_any (str nm) w)
  rw [str_data] at HNm
  have HB := Lib.hid ((Below.refl w.heap.size w).alloc (Nat.le_refl _) (.cells #[.string (str nm), .int .i64 kd, .int .i64 sz, .bool sc] 80 (0, 0)))
  unfold Vr.val Vr.mayP
  simp only []
  generalize nameB nm = z at *
  go_enter Tryz.func92, Tryz.ntmps92
  go_wp2_with fail
  refine (HNm.out _).mono ?_
  rintro e w2 ⟨rfl, rfl⟩
  cases z with
  | false =>
    go_wp2_with fail
    go_ret
    exact ⟨by simp, HB.out⟩
  | true =>
    by_cases h1 : kd = 1
    · subst h1
      by_cases h2 : sz = 0
      · subst h2
        go_wp2_with fail
        go_ret
        exact ⟨by simp, HB.out⟩
      · have f2 : (sz == 0) = false := by simp; exact h2
        go_wp2_with fail
        go_ret
        exact ⟨by simp, HB.out⟩
    · have f1 : (kd == 1) = false := by simp; exact h1
      go_wp2_with fail
      go_ret
      exact ⟨by simp [h1], HB.out⟩
set_option maxHeartbeats 3200000 in
theorem mayVar_any (v : Vr) (w : World) : Calls Tryz.prog 93 #[v.val] w fun e w' => e = .returned (.bool v.may) ∧ Below w.heap.size w w' := by
  obtain ⟨nm, kd, sz, sc⟩ := v
  have HNm := Lib.hid (fun w => name_any (str nm) w)
  rw [str_data] at HNm
  obtain ⟨W1, hW1⟩ : ∃ W1, w.alloc (.cells #[.string (str nm), .int .i64 kd, .int .i64 sz, .bool sc] 80 (0, 0)) = W1 := ⟨_, rfl⟩
  have hB1 : Below w.heap.size w W1 := by rw [← hW1]; exact (Below.refl w.heap.size w).alloc (Nat.le_refl _) _
  have hk1 : W1.heap[w.heap.size]? = some (.cells #[.string (str nm), .int .i64 kd, .int .i64 sz, .bool sc] 80 (0, 0)) := by rw [← hW1]; exact heap_alloc_new w _
  have HK := Lib.hid hk1
  have HB := Lib.hid hB1
  have HP := Lib.hid (mayParam_any ⟨nm, kd, sz, sc⟩ W1)
  have c0 := cell_block hk1 (j := 0) (v := .string (str nm)) rfl
  have c1 := cell_block hk1 (j := 1) (v := .int .i64 kd) rfl
  have c2 := cell_block hk1 (j := 2) (v := .int .i64 sz) rfl
  have c3 := cell_block hk1 (j := 3) (v := .bool sc) rfl
  unfold Vr.val at HP ⊢
  unfold Vr.may
  simp only [] at HP ⊢
  clear hB1 hk1
  generalize (Vr.mk nm kd sz sc).mayP = zp at *
  generalize nameB nm = z at *
  by_cases h1 : kd = 1
  · subst h1
    rw [if_pos rfl]
    go_enter Tryz.func93, Tryz.ntmps93
    go_wp2_with fail
    refine HP.out.mono ?_
    rintro e w2 ⟨rfl, hB2⟩
    have d3 := cell_block ((hB2.block _ (lt_of_block HK.out)).trans HK.out) (j := 3) (v := .bool sc) rfl
    have HB2 := Lib.hid (HB.out.trans (hB2.mono HB.out.size))
    clear hB2 c0 c1 c2 c3
    cases zp with
    | false =>
      go_wp2_with fail
      go_ret
      exact ⟨by simp, HB2.out⟩
    | true =>
      go_wp2_with fail
      go_ret
      exact ⟨by simp, HB2.out⟩
  · have f1 : (kd == 1) = false := by simp; exact h1
    rw [if_neg h1]
    by_cases h23 : kd = 2 ∨ kd = 3
    · rw [if_pos h23]
      rcases h23 with rfl | rfl
      · go_enter Tryz.func93, Tryz.ntmps93
        go_wp2_with fail
        refine (HNm.out _).mono ?_
        rintro e w2 ⟨rfl, rfl⟩
        cases z with
        | false =>
          go_wp2_with fail
          go_ret
          exact ⟨by simp, HB.out⟩
        | true =>
          by_cases h2 : 0 ≤ sz
          · go_wp2_with fail
            go_ret
            exact ⟨by simp [h2], HB.out⟩
          · go_wp2_with fail
            go_ret
            exact ⟨by simp, HB.out⟩
      · go_enter Tryz.func93, Tryz.ntmps93
        go_wp2_with fail
        refine (HNm.out _).mono ?_
        rintro e w2 ⟨rfl, rfl⟩
        cases z with
        | false =>
          go_wp2_with fail
          go_ret
          exact ⟨by simp, HB.out⟩
        | true =>
          by_cases h2 : 0 ≤ sz
          · go_wp2_with fail
            go_ret
            exact ⟨by simp [h2], HB.out⟩
          · go_wp2_with fail
            go_ret
            exact ⟨by simp, HB.out⟩
    · have f2 : (kd == 2) = false := by simp; omega
      have f3 : (kd == 3) = false := by simp; omega
      rw [if_neg h23]
      go_enter Tryz.func93, Tryz.ntmps93
      go_wp2_with fail
      go_ret
      exact ⟨rfl, HB.out⟩

set_option maxHeartbeats 3200000 in
theorem everyRg_any (l : List Rgn) (p : Option Addr) (c N : Nat) (w : World) (hN : N ≤ w.heap.size) (h : RowIn N (Rgn.At w) 4 l p) :
    Calls Tryz.prog 50 #[.slice p l.length c, .func (.func 51) #[] #[]] w fun e w' => e = .returned (.bool (l.all Rgn.may)) ∧ Below w.heap.size w w' := by
  have S1 := Lib.hid h
  have hm1 := h.1
  have HNN := Lib.hid hN
  clear h hN
  go_enter Tryz.func50, Tryz.ntmps50
  go_wp2_with fail
  go_loopw [9] (fun i wr => ∃ (k : Nat) (r : List Rgn), i = .int .i64 k ∧ k + r.length = l.length ∧ Hid (∀ b o, p = some ⟨b, o, none⟩ → Row (Rgn.At w) 4 l b o → Row (Rgn.At w) 4 r b (o + k * 4)) ∧ Hid (l.all Rgn.may = r.all Rgn.may) ∧ Hid (Below w.heap.size w wr)) (fun i _ => l.length - (intOf i).toNat)
  case atStart => exact ⟨0, l, rfl, by omega, Lib.hid fun b o _ h => by rw [Nat.zero_mul]; exact h, Lib.hid rfl, Lib.hid (Below.refl _ _)⟩
  case round =>
    obtain ⟨k, r, rfl, hk, hat, hE, hB⟩ := hrel
    cases r with
    | nil =>
      simp only [List.length_nil] at hk
      have hge : ¬ k < l.length := by omega
      go_wp2_with fail
      go_ret
      exact ⟨ret_bool (by rw [hE.out]; rfl), hB.out⟩
    | cons x r =>
      simp only [List.length_cons] at hk
      have hlt : k < l.length := by omega
      obtain ⟨wo, rfl⟩ : ∃ wo : World, wo = wr := ⟨_, rfl⟩
      rcases S1.out.2 with h30 | ⟨b, o, rfl, hb, ha⟩
      · omega
      obtain ⟨hx, hr⟩ := hat.out b o rfl ha
      have HR := Lib.hid hr
      have hx' := Rgn.At.later (hB.out.mono HNN.out) x b _ hb hx
      obtain ⟨g0, g1, g2, g3⟩ := hx'
      have HC := Lib.hid (mayRegion_any x (wo.alloc (.cells #[.string (str x.name), .int .i64 x.addr, .int .i64 x.size, .bool x.secret] 77)))
      unfold Rgn.val at HC
      have HE := Lib.hid (show l.all Rgn.may = (Rgn.may x && r.all Rgn.may) by rw [hE.out, List.all_cons])
      obtain ⟨m, hm'⟩ : ∃ m, Rgn.may x = m := ⟨_, rfl⟩
      rw [hm'] at HE HC
      clear hx hr ha hE hm'
      go_wp2_with fail
      refine HC.out.mono ?_
      rintro e w2 ⟨rfl, hB2⟩
      have HB3 := Lib.hid (hB.out.trans ((((Below.refl _ wo).alloc (Nat.le_refl _) (.cells #[.string (str x.name), .int .i64 x.addr, .int .i64 x.size, .bool x.secret] 77)).trans (hB2.mono (by simp))).mono hB.out.size))
      clear hB2
      cases m
      · go_wp2_with fail
        go_ret
        exact ⟨ret_bool (by rw [HE.out]; rfl), HB3.out⟩
      · go_wp2_with fail
        go_roundw
        case rel => exact ⟨k + 1, r, by go_num, by omega, Lib.hid fun b' o' e _ => by cases e; rw [show o + (k + 1) * 4 = o + k * 4 + 4 by omega]; exact HR.out, Lib.hid (by rw [HE.out]; simp), HB3⟩
        case measure => simp [intOf]; omega
set_option maxHeartbeats 3200000 in
theorem everyPa_any (l : List Vr) (p : Option Addr) (c N : Nat) (w : World) (hN : N ≤ w.heap.size) (h : RowIn N (Vr.At w) 4 l p) :
    Calls Tryz.prog 91 #[.slice p l.length c, .func (.func 92) #[] #[]] w fun e w' => e = .returned (.bool (l.all Vr.mayP)) ∧ Below w.heap.size w w' := by
  have S1 := Lib.hid h
  have hm1 := h.1
  have HNN := Lib.hid hN
  clear h hN
  go_enter Tryz.func91, Tryz.ntmps91
  go_wp2_with fail
  go_loopw [9] (fun i wr => ∃ (k : Nat) (r : List Vr), i = .int .i64 k ∧ k + r.length = l.length ∧ Hid (∀ b o, p = some ⟨b, o, none⟩ → Row (Vr.At w) 4 l b o → Row (Vr.At w) 4 r b (o + k * 4)) ∧ Hid (l.all Vr.mayP = r.all Vr.mayP) ∧ Hid (Below w.heap.size w wr)) (fun i _ => l.length - (intOf i).toNat)
  case atStart => exact ⟨0, l, rfl, by omega, Lib.hid fun b o _ h => by rw [Nat.zero_mul]; exact h, Lib.hid rfl, Lib.hid (Below.refl _ _)⟩
  case round =>
    obtain ⟨k, r, rfl, hk, hat, hE, hB⟩ := hrel
    cases r with
    | nil =>
      simp only [List.length_nil] at hk
      have hge : ¬ k < l.length := by omega
      go_wp2_with fail
      go_ret
      exact ⟨ret_bool (by rw [hE.out]; rfl), hB.out⟩
    | cons x r =>
      simp only [List.length_cons] at hk
      have hlt : k < l.length := by omega
      obtain ⟨wo, rfl⟩ : ∃ wo : World, wo = wr := ⟨_, rfl⟩
      rcases S1.out.2 with h30 | ⟨b, o, rfl, hb, ha⟩
      · omega
      obtain ⟨hx, hr⟩ := hat.out b o rfl ha
      have HR := Lib.hid hr
      have hx' := Vr.At.later (hB.out.mono HNN.out) x b _ hb hx
      obtain ⟨g0, g1, g2, g3⟩ := hx'
      have HC := Lib.hid (mayParam_any x (wo.alloc (.cells #[.string (str x.name), .int .i64 x.kind, .int .i64 x.size, .bool x.secret] 80)))
      unfold Vr.val at HC
      have HE := Lib.hid (show l.all Vr.mayP = (Vr.mayP x && r.all Vr.mayP) by rw [hE.out, List.all_cons])
      obtain ⟨m, hm'⟩ : ∃ m, Vr.mayP x = m := ⟨_, rfl⟩
      rw [hm'] at HE HC
      clear hx hr ha hE hm'
      go_wp2_with fail
      refine HC.out.mono ?_
      rintro e w2 ⟨rfl, hB2⟩
      have HB3 := Lib.hid (hB.out.trans ((((Below.refl _ wo).alloc (Nat.le_refl _) (.cells #[.string (str x.name), .int .i64 x.kind, .int .i64 x.size, .bool x.secret] 80)).trans (hB2.mono (by simp))).mono hB.out.size))
      clear hB2
      cases m
      · go_wp2_with fail
        go_ret
        exact ⟨ret_bool (by rw [HE.out]; rfl), HB3.out⟩
      · go_wp2_with fail
        go_roundw
        case rel => exact ⟨k + 1, r, by go_num, by omega, Lib.hid fun b' o' e _ => by cases e; rw [show o + (k + 1) * 4 = o + k * 4 + 4 by omega]; exact HR.out, Lib.hid (by rw [HE.out]; simp), HB3⟩
        case measure => simp [intOf]; omega
set_option maxHeartbeats 3200000 in
theorem everyVr_any (l : List Vr) (p : Option Addr) (c N : Nat) (w : World) (hN : N ≤ w.heap.size) (h : RowIn N (Vr.At w) 4 l p) :
    Calls Tryz.prog 91 #[.slice p l.length c, .func (.func 93) #[] #[]] w fun e w' => e = .returned (.bool (l.all Vr.may)) ∧ Below w.heap.size w w' := by
  have S1 := Lib.hid h
  have hm1 := h.1
  have HNN := Lib.hid hN
  clear h hN
  go_enter Tryz.func91, Tryz.ntmps91
  go_wp2_with fail
  go_loopw [9] (fun i wr => ∃ (k : Nat) (r : List Vr), i = .int .i64 k ∧ k + r.length = l.length ∧ Hid (∀ b o, p = some ⟨b, o, none⟩ → Row (Vr.At w) 4 l b o → Row (Vr.At w) 4 r b (o + k * 4)) ∧ Hid (l.all Vr.may = r.all Vr.may) ∧ Hid (Below w.heap.size w wr)) (fun i _ => l.length - (intOf i).toNat)
  case atStart => exact ⟨0, l, rfl, by omega, Lib.hid fun b o _ h => by rw [Nat.zero_mul]; exact h, Lib.hid rfl, Lib.hid (Below.refl _ _)⟩
  case round =>
    obtain ⟨k, r, rfl, hk, hat, hE, hB⟩ := hrel
    cases r with
    | nil =>
      simp only [List.length_nil] at hk
      have hge : ¬ k < l.length := by omega
      go_wp2_with fail
      go_ret
      exact ⟨ret_bool (by rw [hE.out]; rfl), hB.out⟩
    | cons x r =>
      simp only [List.length_cons] at hk
      have hlt : k < l.length := by omega
      obtain ⟨wo, rfl⟩ : ∃ wo : World, wo = wr := ⟨_, rfl⟩
      rcases S1.out.2 with h30 | ⟨b, o, rfl, hb, ha⟩
      · omega
      obtain ⟨hx, hr⟩ := hat.out b o rfl ha
      have HR := Lib.hid hr
      have hx' := Vr.At.later (hB.out.mono HNN.out) x b _ hb hx
      obtain ⟨g0, g1, g2, g3⟩ := hx'
      have HC := Lib.hid (mayVar_any x (wo.alloc (.cells #[.string (str x.name), .int .i64 x.kind, .int .i64 x.size, .bool x.secret] 80)))
      unfold Vr.val at HC
      have HE := Lib.hid (show l.all Vr.may = (Vr.may x && r.all Vr.may) by rw [hE.out, List.all_cons])
      obtain ⟨m, hm'⟩ : ∃ m, Vr.may x = m := ⟨_, rfl⟩
      rw [hm'] at HE HC
      clear hx hr ha hE hm'
      go_wp2_with fail
      refine HC.out.mono ?_
      rintro e w2 ⟨rfl, hB2⟩
      have HB3 := Lib.hid (hB.out.trans ((((Below.refl _ wo).alloc (Nat.le_refl _) (.cells #[.string (str x.name), .int .i64 x.kind, .int .i64 x.size, .bool x.secret] 80)).trans (hB2.mono (by simp))).mono hB.out.size))
      clear hB2
      cases m
      · go_wp2_with fail
        go_ret
        exact ⟨ret_bool (by rw [HE.out]; rfl), HB3.out⟩
      · go_wp2_with fail
        go_roundw
        case rel => exact ⟨k + 1, r, by go_num, by omega, Lib.hid fun b' o' e _ => by cases e; rw [show o + (k + 1) * 4 = o + k * 4 + 4 by omega]; exact HR.out, Lib.hid (by rw [HE.out]; simp), HB3⟩
        case measure => simp [intOf]; omega
set_option maxHeartbeats 3200000 in
theorem mayFunc_any (f : Fnc) (hf6 : f.body.wt ≤ 1000000) (s : FncP) (N : Nat) (w : World) (hN : N ≤ w.heap.size) (h : f.Ok w N s) :
    Calls Tryz.prog 53 #[f.val s] w fun e w' => e = .returned (.bool f.may) ∧ Below w.heap.size w w' := by
  obtain ⟨nm, ps, vs, rs, bd⟩ := f
  have HNm := Lib.hid (fun w => name_any (str nm) w)
  rw [str_data] at HNm
  obtain ⟨W1, hW1⟩ : ∃ W1, w.alloc (.cells #[.string (str nm), .slice s.pp ps.length s.cp, .slice s.pv vs.length s.cv, .slice s.pr rs.length s.cr, .slice s.pb bd.len s.cb] 49 (0, 0)) = W1 := ⟨_, rfl⟩
  have hB1 : Below w.heap.size w W1 := by rw [← hW1]; exact (Below.refl w.heap.size w).alloc (Nat.le_refl _) _
  have HK := Lib.hid (show W1.heap[w.heap.size]? = some (.cells #[.string (str nm), .slice s.pp ps.length s.cp, .slice s.pv vs.length s.cv, .slice s.pr rs.length s.cr, .slice s.pb bd.len s.cb] 49 (0, 0)) by rw [← hW1]; exact heap_alloc_new w _)
  have HB := Lib.hid hB1
  have HPs := Lib.hid (fun (w1 : World) (hB : Below w.heap.size w w1) => everyPa_any ps s.pp s.cp N w1 (Nat.le_trans hN hB.size) (h.1.imp (Nat.le_refl N) (Vr.At.later (hB.mono hN))))
  have HVs := Lib.hid (fun (w1 : World) (hB : Below w.heap.size w w1) => everyVr_any vs s.pv s.cv N w1 (Nat.le_trans hN hB.size) (h.2.1.imp (Nat.le_refl N) (Vr.At.later (hB.mono hN))))
  have HRs := Lib.hid (fun (w1 : World) (hB : Below w.heap.size w w1) => everyStr_any rs s.pr s.cr N w1 (h.2.2.1.2.imp (Nat.le_refl N) (StrAt.later (hB.mono hN))))
  have HBd := Lib.hid (fun (w1 : World) (hB : Below w.heap.size w w1) => mayBody_any bd hf6 s.pb s.cb N w1 (Nat.le_trans hN hB.size) (h.2.2.2.later (hB.mono hN) (Nat.le_refl N)))
  unfold Fnc.val Fnc.cells Fnc.may
  simp only []
  clear hB1 h
  generalize nameB nm = z1 at *
  generalize ps.all Vr.mayP = z2 at *
  generalize vs.all Vr.may = z3 at *
  generalize namesB rs = z4 at *
  generalize bd.can = z5 at *
  have c0 := cell_block HK.out (j := 0) (v := .string (str nm)) rfl
  have c1 := cell_block HK.out (j := 1) (v := .slice s.pp ps.length s.cp) rfl
  go_enter Tryz.func53, Tryz.ntmps53
  go_wp2_with fail
  refine (HNm.out _).mono ?_
  rintro e w2 ⟨rfl, rfl⟩
  cases z1 with
  | false =>
    go_wp2_with fail
    go_ret
    exact ⟨by simp, HB.out⟩
  | true =>
  go_wp2_with fail
  refine (HPs.out _ HB.out).mono ?_
  rintro e w2 ⟨rfl, hB⟩
  replace HK := Lib.hid ((hB.block _ (lt_of_block HK.out)).trans HK.out)
  replace HB := Lib.hid (HB.out.trans (hB.mono HB.out.size))
  clear hB c0 c1
  cases z2 with
  | false =>
    go_wp2_with fail
    go_ret
    exact ⟨by simp, HB.out⟩
  | true =>
  have c2 := cell_block HK.out (j := 2) (v := .slice s.pv vs.length s.cv) rfl
  go_wp2_with fail
  refine (HVs.out _ HB.out).mono ?_
  rintro e w3 ⟨rfl, hB⟩
  replace HK := Lib.hid ((hB.block _ (lt_of_block HK.out)).trans HK.out)
  replace HB := Lib.hid (HB.out.trans (hB.mono HB.out.size))
  clear hB c2
  cases z3 with
  | false =>
    go_wp2_with fail
    go_ret
    exact ⟨by simp, HB.out⟩
  | true =>
  have c3 := cell_block HK.out (j := 3) (v := .slice s.pr rs.length s.cr) rfl
  go_wp2_with fail
  refine (HRs.out _ HB.out).mono ?_
  rintro e w4 ⟨rfl, rfl⟩
  cases z4 with
  | false =>
    go_wp2_with fail
    go_ret
    exact ⟨by simp, HB.out⟩
  | true =>
  have c4 := cell_block HK.out (j := 4) (v := .slice s.pb bd.len s.cb) rfl
  go_wp2_with fail
  refine (HBd.out _ HB.out).mono ?_
  rintro e w5 ⟨rfl, hB⟩
  replace HB := Lib.hid (HB.out.trans (hB.mono HB.out.size))
  clear hB
  go_wp2_with fail
  go_ret
  exact ⟨by simp, HB.out⟩
set_option maxRecDepth 100000 in
set_option maxHeartbeats 3200000 in
theorem everyFn_any (l : List Fnc) (hl6 : ∀ f ∈ l, f.body.wt ≤ 1000000) (p : Option Addr) (c N : Nat) (w : World) (hN : N ≤ w.heap.size) (h : RowIn N (Fnc.At w N) 5 l p) :
    Calls Tryz.prog 52 #[.slice p l.length c, .func (.func 53) #[] #[]] w fun e w' => e = .returned (.bool (l.all Fnc.may)) ∧ Below w.heap.size w w' := by
  have S1 := Lib.hid h
  have hm1 := h.1
  have HNN := Lib.hid hN
  have HL6 := Lib.hid hl6
  clear h hN hl6
  go_enter Tryz.func52, Tryz.ntmps52
  go_wp2_with fail
  go_loopw [9] (fun i wr => ∃ (k : Nat) (r : List Fnc), i = .int .i64 k ∧ k + r.length = l.length ∧ Hid (∀ x ∈ r, x ∈ l) ∧ Hid (∀ b o, p = some ⟨b, o, none⟩ → Row (Fnc.At w N) 5 l b o → Row (Fnc.At w N) 5 r b (o + k * 5)) ∧ Hid (l.all Fnc.may = r.all Fnc.may) ∧ Hid (Below w.heap.size w wr)) (fun i _ => l.length - (intOf i).toNat)
  case atStart => exact ⟨0, l, rfl, by omega, Lib.hid fun x h => h, Lib.hid fun b o _ h => by rw [Nat.zero_mul]; exact h, Lib.hid rfl, Lib.hid (Below.refl _ _)⟩
  case round =>
    obtain ⟨k, r, rfl, hk, hin, hat, hE, hB⟩ := hrel
    cases r with
    | nil =>
      simp only [List.length_nil] at hk
      have hge : ¬ k < l.length := by omega
      go_wp2_with fail
      go_ret
      exact ⟨ret_bool (by rw [hE.out]; rfl), hB.out⟩
    | cons x r =>
      simp only [List.length_cons] at hk
      have hlt : k < l.length := by omega
      obtain ⟨wo, rfl⟩ : ∃ wo : World, wo = wr := ⟨_, rfl⟩
      rcases S1.out.2 with h30 | ⟨b, o, rfl, hb, ha⟩
      · omega
      obtain ⟨hx, hr⟩ := hat.out b o rfl ha
      have HR := Lib.hid hr
      obtain ⟨s, c1, ok1⟩ := Fnc.At.openP (Fnc.At.later (hB.out.mono HNN.out) (Nat.le_trans HNN.out hB.out.size) x b _ hb hx)
      have hbl : b < wo.heap.size := by have := hB.out.size; have := HNN.out; omega
      obtain ⟨A1, hA1⟩ : ∃ A1, x.cells s = A1 := ⟨_, rfl⟩
      have HZ1 := Lib.hid (show A1.size = 5 by rw [← hA1]; rfl)
      have HO1 := Lib.hid (show A1.all (·.oneCell') = true by rw [← hA1]; exact oneFnc _ _)
      have F1 := Lib.hid (show wo.rangeAt b (o + k * 5) A1.toList from fun j z hz => c1 j z (by rw [hA1, ← Array.getElem?_toList]; exact hz))
      have HI1 := Lib.hid (infoFnc.trans (by rw [HZ1.out]) : (Tryz.prog.info? 49).map (·.size) = some A1.size)
      obtain ⟨W1, hW1⟩ : ∃ W1, wo.alloc (Obj.cells A1 49) = W1 := ⟨_, rfl⟩
      have HW1 := Lib.hid (show Below wo.heap.size wo W1 by rw [← hW1]; exact (Below.refl _ wo).alloc (Nat.le_refl _) _)
      have F2 := Lib.hid (show W1.rangeAt wo.heap.size 0 A1.toList by rw [← hW1]; exact range_new wo A1 _)
      have HC := Lib.hid (mayFunc_any x (HL6.out x (hin.out x (by simp))) s wo.heap.size W1 HW1.out.size (Fnc.Ok.later ok1 HW1.out (Nat.le_refl _)))
      unfold Fnc.val at HC
      rw [hA1] at HC
      have HE := Lib.hid (show l.all Fnc.may = (x.may && r.all Fnc.may) by rw [hE.out, List.all_cons])
      have HIN := Lib.hid (show ∀ y ∈ r, y ∈ l from fun y hy => hin.out y (by simp [hy]))
      obtain ⟨m, hm'⟩ : ∃ m, x.may = m := ⟨_, rfl⟩
      rw [hm'] at HE HC
      clear ok1 hA1 c1 hx hr ha hE hm' hin
      go_wp2_with (first | (refine wpl_load rfl 49 _ rfl b (o + k * 5) rfl A1 _ F1.out Tryz.underlying49 rfl HI1.out ?_) | (refine wpl_store_new rfl 49 _ _ rfl _ A1 _ rfl rfl (by rw [HZ1.out]; rfl) HI1.out HO1.out ?_; rw [hW1]) | (refine wpl_load rfl 49 _ rfl wo.heap.size 0 rfl A1 _ F2.out Tryz.underlying49 rfl HI1.out ?_))
      refine HC.out.mono ?_
      rintro e w2 ⟨rfl, hB2⟩
      have HB3 := Lib.hid (hB.out.trans ((HW1.out.trans (hB2.mono HW1.out.size)).mono hB.out.size))
      clear hB2
      cases m
      · go_wp2_with fail
        go_ret
        exact ⟨ret_bool (by rw [HE.out]; rfl), HB3.out⟩
      · go_wp2_with fail
        go_roundw
        case rel => exact ⟨k + 1, r, by go_num, by omega, HIN, Lib.hid fun b' o' e _ => by cases e; rw [show o + (k + 1) * 5 = o + k * 5 + 5 by omega]; exact HR.out, Lib.hid (by rw [HE.out]; simp), HB3⟩
        case measure => simp [intOf]; omega
set_option maxHeartbeats 3200000 in
theorem may_any (x : Prg) (h6 : ∀ f ∈ x.fns, f.body.wt ≤ 1000000) (p q : Option Addr) (c d N : Nat) (w : World) (hN : N ≤ w.heap.size) (h : x.Ok w N p q) :
    Calls Tryz.prog 18 #[x.val p q c d] w fun e w' => e = .returned (.bool x.may) ∧ Below w.heap.size w w' := by
  obtain ⟨rg, fs⟩ := x
  obtain ⟨W1, hW1⟩ : ∃ W1, w.alloc (.cells #[.slice p rg.length c, .slice q fs.length d] 39 (0, 0)) = W1 := ⟨_, rfl⟩
  have hB1 : Below w.heap.size w W1 := by rw [← hW1]; exact (Below.refl w.heap.size w).alloc (Nat.le_refl _) _
  have HK := Lib.hid (show W1.heap[w.heap.size]? = some (.cells #[.slice p rg.length c, .slice q fs.length d] 39 (0, 0)) by rw [← hW1]; exact heap_alloc_new w _)
  have HB := Lib.hid hB1
  have HRg := Lib.hid (fun (w1 : World) (hB : Below w.heap.size w w1) => everyRg_any rg p c N w1 (Nat.le_trans hN hB.size) (h.1.imp (Nat.le_refl N) (Rgn.At.later (hB.mono hN))))
  have HFn := Lib.hid (fun (w1 : World) (hB : Below w.heap.size w w1) => everyFn_any fs h6 q d N w1 (Nat.le_trans hN hB.size) (h.2.imp (Nat.le_refl N) (Fnc.At.later (hB.mono hN) (Nat.le_refl N))))
  unfold Prg.val Prg.may
  simp only []
  clear hB1 h
  generalize rg.all Rgn.may = z1 at *
  generalize fs.all Fnc.may = z2 at *
  have c0 := cell_block HK.out (j := 0) (v := .slice p rg.length c) rfl
  go_enter Tryz.func18, Tryz.ntmps18
  go_wp2_with fail
  refine (HRg.out _ HB.out).mono ?_
  rintro e w2 ⟨rfl, hB⟩
  replace HK := Lib.hid ((hB.block _ (lt_of_block HK.out)).trans HK.out)
  replace HB := Lib.hid (HB.out.trans (hB.mono HB.out.size))
  clear hB c0
  cases z1 with
  | false =>
    go_wp2_with fail
    go_ret
    exact ⟨by simp, HB.out⟩
  | true =>
  have c1 := cell_block HK.out (j := 1) (v := .slice q fs.length d) rfl
  go_wp2_with fail
  refine (HFn.out _ HB.out).mono ?_
  rintro e w3 ⟨rfl, hB⟩
  replace HB := Lib.hid (HB.out.trans (hB.mono HB.out.size))
  clear hB
  go_wp2_with fail
  go_ret
  exact ⟨by simp, HB.out⟩
end Go.Proofs.YtlhbledakddbbaaGreatDoor
