/- K2, V1, V2, J2, J3, Q7 as one. -/
import Derived.Deep.RegionHeld
import Derived.WalkMore
import Derived.Deep.CutBlock
import Derived.Deep.CutRange
import Derived.Test.YtlhbledakddbbaaGreatDoorZbF
/- A call's line; a statement's first line, of any kind. -/
namespace Go.Proofs.YtlhbledakddbbaaGreatDoor
open Go.RowKit

theorem row_cells {w : World} {_N b o : Nat} {ns : List (List UInt8)} (h : Row (StrAt w) 1 ns b o) : ∀ (j : Nat) x, (ns.map str)[j]? = some x → w.cell? ⟨b, o + j, none⟩ = some (.string x) := by
  intro j x hj
  rw [List.getElem?_map] at hj
  cases hn : ns[j]? with
  | none => rw [hn] at hj; cases hj
  | some y =>
    rw [hn] at hj
    cases hj
    have := Row.get h hn
    rw [Nat.mul_one] at this
    exact this
theorem map_data (ns : List (List UInt8)) : (ns.map str).map (·.data.toList) = ns := by
  rw [List.map_map]
  have : (fun x : ByteArray => x.data.toList) ∘ str = id := by funext x; rfl
  rw [this, List.map_id]
/-- texts joined -/
theorem join_any (ns : List (List UInt8)) (p : Option Addr) (c N : Nat) (w : World) (hN : N ≤ w.heap.size) (h : ns.length ≤ c ∧ RowIn N (StrAt w) 1 ns p) (hl : (Lib.join ns [44, 32]).length ≤ 1000000) :
    Calls Tryz.prog 138 #[.slice p ns.length c, .string ⟨#[44, 32]⟩] w fun e w' => e = .returned (.string (str (Lib.join ns [44, 32]))) ∧ Below w.heap.size w w' := by
  obtain ⟨hc, hm, h0 | ⟨b, o, rfl, hb, ha⟩⟩ := h
  · have : ns = [] := List.length_eq_zero_iff.1 h0
    subst this
    refine (Tryz.strings_Join_none p c ⟨#[44, 32]⟩ w).mono ?_
    rintro e w' ⟨rfl, rfl⟩
    exact ⟨rfl, Below.refl _ _⟩
  · have hd := map_data ns
    have hs : (⟨#[44, 32]⟩ : ByteArray).data.toList = [44, 32] := rfl
    have := Tryz.strings_Join b o c (ns.map str) ⟨#[44, 32]⟩ w (row_cells (_N := N) ha) (by omega) (by simpa using hm) (by simpa using hc) (by rw [hd, hs]; omega)
    rw [List.length_map, hd, hs] at this
    exact this

set_option maxRecDepth 100000 in
set_option maxHeartbeats 6400000 in
theorem first_6 (nm : List UInt8) (ns : List (List UInt8)) (e a : Ex) (g : Exs) (lo hi : Nat) (bd el : Sts) (hg : g.may = true) (b o m : Nat) (w : World) (hb : b < w.heap.size) (hx : (St.mk 6 nm ns e a g lo hi bd el).At w w.heap.size b o) (hmp : w.heap[m]? = some (fmap signT)) (hG : Glob w) (hl : (St.mk 6 nm ns e a g lo hi bd el).first.length ≤ 1000000) :
    Calls Tryz.prog 109 #[.agg #[.map (some m)], .pointer (some ⟨b, o, none⟩)] w fun z w' => z = .returned (.string (str (St.mk 6 nm ns e a g lo hi bd el).first)) ∧ Below w.heap.size w w' := by
  have hlen : nm.length + (Lib.join g.texts [44, 32]).length ≤ 1000000 ∧ (ns.length ≠ 0 → (Lib.join ns [44, 32]).length + nm.length + (Lib.join g.texts [44, 32]).length ≤ 1000000) := by
    rw [← first_eq, firstT, if_neg (by decide), if_neg (by decide), if_neg (by decide), if_neg (by decide), if_neg (by decide)] at hl
    split at hl
    · rename_i h0; simp only [List.length_append, List.length_cons, List.length_nil] at hl; exact ⟨by omega, fun h => absurd h0 h⟩
    · simp only [List.length_append, List.length_cons, List.length_nil] at hl; exact ⟨by omega, fun _ => by omega⟩
  obtain ⟨W1, hW1⟩ : ∃ W1, w.alloc (.cells #[.map (some m)] 68) = W1 := ⟨_, rfl⟩
  have hB1 : Below w.heap.size w W1 := by rw [← hW1]; exact (Below.refl _ _).alloc (Nat.le_refl _) _
  have hz1 : W1.heap.size = w.heap.size + 1 := by rw [← hW1]; simp
  have xt : W1.cell? ⟨w.heap.size, 0, none⟩ = some (.map (some m)) := cell_block (show W1.heap[w.heap.size]? = some (.cells #[.map (some m)] 68 (0, 0)) by rw [← hW1]; exact heap_alloc_new w _) rfl
  obtain ⟨y0, y1, ye, ya, ⟨pn, cn, y2, hcn, sn⟩, ⟨pg, cg, y11, sg⟩, y12, y13, hlo, hhi, _, _⟩ := hx.parts
  have x0 := (hB1.cell hb).trans y0
  have x1 := (hB1.cell hb).trans y1
  have x2 := (hB1.cell hb).trans y2
  have x11 := (hB1.cell hb).trans y11
  have x12 := (hB1.cell hb).trans y12
  have x13 := (hB1.cell hb).trans y13
  have hmp1 := (hB1.block m (lt_of_block hmp)).trans hmp
  have hb1 : b < W1.heap.size := by omega
  have ht1 : w.heap.size < W1.heap.size := by omega
  have hG1 := hG.later hB1
  have HB1 := Lib.hid hB1
  have ht0 : ns.length = 0 → (St.mk 6 nm ns e a g lo hi bd el).first = ((nm ++ ([40] ++ Lib.join g.texts [44, 32] ++ [41])) ++ [59]) := fun h => by rw [← first_eq, firstT, if_neg (by decide), if_neg (by decide), if_neg (by decide), if_neg (by decide), if_neg (by decide), if_pos h]
  have ht1 : ¬ ns.length = 0 → (St.mk 6 nm ns e a g lo hi bd el).first = (Lib.join ns [44, 32] ++ [32, 61, 32]) ++ ((nm ++ ([40] ++ Lib.join g.texts [44, 32] ++ [41])) ++ [59]) := fun h => by rw [← first_eq, firstT, if_neg (by decide), if_neg (by decide), if_neg (by decide), if_neg (by decide), if_neg (by decide), if_neg h]
  obtain ⟨v0, Wc, hcv0, hR0, hBc, hzc⟩ := conv_bytes (P := Tryz.prog) W1.drew 9 83 5 nm Tryz.underlying9 Tryz.underlying83 Tryz.underlying5 (by omega)
  have hBW : Below W1.heap.size W1 Wc := (Below.refl _ W1).drew.trans hBc
  have hE1 : TEnv W1.heap.size m Wc := ⟨(hBW.block m (lt_of_block hmp1)).trans hmp1, lt_of_block hmp1, fun w2 h2 => hG1 w2 (hBW.trans h2), hBW.size⟩
  have HLi := Lib.hid (list_step _ (tell_to _) g (Nat.lt_succ_self _) hg pg cg W1.heap.size W1.heap.size m v0 nm Wc (Nat.le_refl _) (sg.later ((hB1.trans (hBW.mono hB1.size))) hB1.size) hE1 hR0 (by simp only [List.length_append, List.length_cons, List.length_nil]; omega))
  have HJn := Lib.hid (fun (w1 : World) (hB : Below w.heap.size w w1) (hj : (Lib.join ns [44, 32]).length ≤ 1000000) => join_any ns pn cn w.heap.size w1 hB.size ⟨hcn, sn.imp (Nat.le_refl _) (StrAt.later hB)⟩ hj)
  have hmn := sn.1
  obtain ⟨NM, hNM⟩ : ∃ A, A = str (nm) := ⟨_, rfl⟩
  rw [← hNM] at x1
  have hcv0 : (convert 9 83 (.string NM)).run Tryz.prog W1.drew = .ok v0 Wc := by rw [hNM]; exact hcv0
  obtain ⟨PT, hPT⟩ : ∃ A, A = str (nm ++ ([40] ++ Lib.join g.texts [44, 32] ++ [41])) := ⟨_, rfl⟩
  obtain ⟨B12, hB12⟩ : ∃ B, B = str ((nm ++ ([40] ++ Lib.join g.texts [44, 32] ++ [41])) ++ [59]) := ⟨_, rfl⟩
  have qB12 : ∀ w : World, (Op.stringOp .add PT ⟨#[59]⟩).run Tryz.prog w = .ok (.string B12) w := fun w => by
    rw [hPT, hB12]; exact add_str (nm ++ ([40] ++ Lib.join g.texts [44, 32] ++ [41])) [59] (by simp only [List.length_append, List.length_cons, List.length_nil]; omega) w
  have HPT := Lib.hid hPT
  have HB12 := Lib.hid hB12
  have HL := Lib.hid hlen
  have HT0 := Lib.hid ht0
  have HT1 := Lib.hid ht1
  have HCV := Lib.hid hcv0
  have HBW := Lib.hid hBW
  clear hNM hPT hB12 hl hx y0 y1 y2 y11 y12 y13 ye ya sn sg hG hG1 hmp hmp1 hB1 hlo hhi hE1 hR0 hBc hzc hlen ht0 ht1 hcv0 hBW x12 x13
  go_enter Tryz.func109, Tryz.ntmps109
  go_wp2_with fail
  clear hW1 x0
  have HS : Below W1.heap.size W1 W1.drew := (Below.refl _ _).drew
  refine wp_region_held_drew (S := fun W => Below W1.heap.size W1 W ∧ W.cell? ⟨w.heap.size, 0, none⟩ = some (.map (some m)) ∧ W.cell? ⟨b, o + 1, none⟩ = some (.string NM) ∧ W.cell? ⟨b, o + 11, none⟩ = some (.slice pg g.len cg)) (by kernel_rfl) ?_ (fun hHeld => ?_)
  · exact ⟨HS, (HS.cell ht1).trans xt, (HS.cell hb1).trans x1, (HS.cell hb1).trans x11⟩
  refine wpAnyH_take (i := 0) (oi := { dst := Option.some 84, op := Go.Op.load 68 (Go.Operand.tmp 2), type := 68, pos := "lines.go:94", after := #[], guard := Option.none }) (v := ?_) rfl (by kernel_rfl) (by kernel_rfl) (by kernel_rfl) (fun _ _ _ h => h) (Or.inl ⟨by rfl, ?_⟩) (by assumption) ?_
  rotate_left
  · (intro w hSw; (try dsimp only at hSw); go_simp; try with_reducible rfl)
  try simp only [Act.put, List.setIfInBounds_toArray, List.set_cons_zero, List.set_cons_succ]
  refine wpAnyH_take (i := 1) (oi := { dst := Option.some 85, op := Go.Op.move (Go.Operand.tmp 1), type := 145, pos := "lines.go:94", after := #[], guard := Option.none }) (v := ?_) rfl (by kernel_rfl) (by kernel_rfl) (by kernel_rfl) (fun _ _ _ h => h) (Or.inl ⟨by rfl, ?_⟩) (by assumption) ?_
  rotate_left
  · (intro w hSw; (try dsimp only at hSw); go_simp; try with_reducible rfl)
  try simp only [Act.put, List.setIfInBounds_toArray, List.set_cons_zero, List.set_cons_succ]
  refine wpAnyH_take (i := 2) (oi := { dst := Option.some 86, op := Go.Op.nilCheck (Go.Operand.tmp 85), type := 0, pos := "lines.go:94", after := #[{ on := 1, ground := Go.Ground.data }], guard := Option.none }) (v := ?_) rfl (by kernel_rfl) (by kernel_rfl) (by kernel_rfl) (fun _ _ _ h => h) (Or.inl ⟨by rfl, ?_⟩) (by assumption) ?_
  rotate_left
  · (intro w hSw; (try dsimp only at hSw); go_simp; try with_reducible rfl)
  try simp only [Act.put, List.setIfInBounds_toArray, List.set_cons_zero, List.set_cons_succ]
  refine wpAnyH_take (i := 3) (oi := { dst := Option.some 87, op := Go.Op.fieldAddr 54 (Go.Operand.tmp 86) 1, type := 0, pos := "lines.go:94", after := #[{ on := 2, ground := Go.Ground.data }], guard := Option.none }) (v := ?_) rfl (by kernel_rfl) (by kernel_rfl) (by kernel_rfl) (fun _ _ _ h => h) (Or.inl ⟨by rfl, ?_⟩) (by assumption) ?_
  rotate_left
  · (intro w hSw; (try dsimp only at hSw); go_simp; try with_reducible rfl)
  try simp only [Act.put, List.setIfInBounds_toArray, List.set_cons_zero, List.set_cons_succ]
  refine wpAnyH_take (i := 4) (oi := { dst := Option.some 88, op := Go.Op.load 9 (Go.Operand.tmp 87), type := 9, pos := "lines.go:94", after := #[{ on := 3, ground := Go.Ground.data }], guard := Option.none }) (v := ?_) rfl (by kernel_rfl) (by kernel_rfl) (by kernel_rfl) (fun _ _ _ h => h) (Or.inl ⟨by rfl, ?_⟩) (by assumption) ?_
  rotate_left
  · (intro w hSw; (try dsimp only at hSw); go_simp; try with_reducible rfl)
  try simp only [Act.put, List.setIfInBounds_toArray, List.set_cons_zero, List.set_cons_succ]
  refine wpAnyH_take (i := 6) (oi := { dst := Option.some 90, op := Go.Op.move (Go.Operand.tmp 1), type := 145, pos := "lines.go:94", after := #[], guard := Option.none }) (v := ?_) rfl (by kernel_rfl) (by kernel_rfl) (by kernel_rfl) (fun _ _ _ h => h) (Or.inl ⟨by rfl, ?_⟩) (by assumption) ?_
  rotate_left
  · (intro w hSw; (try dsimp only at hSw); go_simp; try with_reducible rfl)
  try simp only [Act.put, List.setIfInBounds_toArray, List.set_cons_zero, List.set_cons_succ]
  refine wpAnyH_take (i := 7) (oi := { dst := Option.some 91, op := Go.Op.nilCheck (Go.Operand.tmp 90), type := 0, pos := "lines.go:94", after := #[{ on := 6, ground := Go.Ground.data }], guard := Option.none }) (v := ?_) rfl (by kernel_rfl) (by kernel_rfl) (by kernel_rfl) (fun _ _ _ h => h) (Or.inl ⟨by rfl, ?_⟩) (by assumption) ?_
  rotate_left
  · (intro w hSw; (try dsimp only at hSw); go_simp; try with_reducible rfl)
  try simp only [Act.put, List.setIfInBounds_toArray, List.set_cons_zero, List.set_cons_succ]
  refine wpAnyH_take (i := 8) (oi := { dst := Option.some 92, op := Go.Op.fieldAddr 54 (Go.Operand.tmp 91) 5, type := 0, pos := "lines.go:94", after := #[{ on := 7, ground := Go.Ground.data }], guard := Option.none }) (v := ?_) rfl (by kernel_rfl) (by kernel_rfl) (by kernel_rfl) (fun _ _ _ h => h) (Or.inl ⟨by rfl, ?_⟩) (by assumption) ?_
  rotate_left
  · (intro w hSw; (try dsimp only at hSw); go_simp; try with_reducible rfl)
  try simp only [Act.put, List.setIfInBounds_toArray, List.set_cons_zero, List.set_cons_succ]
  refine wpAnyH_take (i := 9) (oi := { dst := Option.some 93, op := Go.Op.load 24 (Go.Operand.tmp 92), type := 24, pos := "lines.go:94", after := #[{ on := 8, ground := Go.Ground.data }], guard := Option.none }) (v := ?_) rfl (by kernel_rfl) (by kernel_rfl) (by kernel_rfl) (fun _ _ _ h => h) (Or.inl ⟨by rfl, ?_⟩) (by assumption) ?_
  rotate_left
  · (intro w hSw; (try dsimp only at hSw); go_simp; try with_reducible rfl)
  try simp only [Act.put, List.setIfInBounds_toArray, List.set_cons_zero, List.set_cons_succ]
  refine wpAnyH_ready (rs := [5]) (by kernel_rfl) (by simp) ?_
  refine AllReadyH.cons (o := { dst := Option.some 89, op := Go.Op.convert 9 83 (Go.Operand.tmp 88), type := 83, pos := "lines.go:94", after := #[{ on := 4, ground := Go.Ground.data }], guard := Option.none }) rfl (fun K hK => ?_) AllReadyH.nil
  go_simp
  have hcv0 := HCV.out
  go_simp
  clear hcv0
  replace HS := HBW.out
  refine hK.out _ _ ?_ (fun hHeld => ?_)
  · exact ⟨HS, (HS.cell ht1).trans xt, (HS.cell hb1).trans x1, (HS.cell hb1).trans x11⟩
  clear hK K
  try simp only [Act.put, List.setIfInBounds_toArray, List.set_cons_zero, List.set_cons_succ]
  refine wpAnyH_ready (rs := [10]) (by kernel_rfl) (by simp) ?_
  refine AllReadyH.cons (o := { dst := Option.some 94, op := Go.Op.call { callee := Go.Callee.value (Go.Operand.func 120), args := #[Go.Operand.tmp 84, Go.Operand.tmp 89, Go.Operand.tmp 93], argTypes := #[68, 83, 24] }, type := 83, pos := "lines.go:94", after := #[{ on := 0, ground := Go.Ground.data }, { on := 5, ground := Go.Ground.data }, { on := 9, ground := Go.Ground.data }], guard := Option.none }) rfl (fun K hK => ?_) AllReadyH.nil
  go_simp
  refine HLi.out.mono ?_
  rintro z wa ⟨⟨v, rfl, hR⟩, hF'⟩
  have HR := Lib.hid hR
  replace HS := HS.trans hF'.1
  clear hR hF'
  refine hK.out _ _ ?_ (fun hHeld => ?_)
  · exact ⟨HS, (HS.cell ht1).trans xt, (HS.cell hb1).trans x1, (HS.cell hb1).trans x11⟩
  clear hK K
  try simp only [Act.put, List.setIfInBounds_toArray, List.set_cons_zero, List.set_cons_succ]
  refine wpAnyH_ready (rs := [11]) (by kernel_rfl) (by simp) ?_
  refine AllReadyH.cons (o := { dst := Option.some 95, op := Go.Op.convert 83 9 (Go.Operand.tmp 94), type := 9, pos := "lines.go:94", after := #[{ on := 10, ground := Go.Ground.data }], guard := Option.none }) rfl (fun K hK => ?_) AllReadyH.nil
  go_simp
  have hcv := BRow.conv HR.out
  rw [← HPT.out] at hcv
  go_simp
  clear hcv
  refine hK.out _ _ ?_ (fun hHeld => ?_)
  · exact ⟨HS, (HS.cell ht1).trans xt, (HS.cell hb1).trans x1, (HS.cell hb1).trans x11⟩
  clear hK K
  try simp only [Act.put, List.setIfInBounds_toArray, List.set_cons_zero, List.set_cons_succ]
  refine wpAnyH_take (i := 12) (oi := { dst := Option.some 96, op := Go.Op.binOp Go.BinOp.add 9 (Go.Operand.tmp 95) (Go.Operand.const (Go.Value.string { data := #[59] })) 9, type := 9, pos := "lines.go:94", after := #[{ on := 11, ground := Go.Ground.data }], guard := Option.none }) (v := .string B12) rfl (by kernel_rfl) (by kernel_rfl) (by kernel_rfl) (fun _ _ _ h => h) (Or.inl ⟨by rfl, ?_⟩) (by assumption) ?_
  · (intro w hSw; (try dsimp only at hSw); go_simp)
  try simp only [Act.put, List.setIfInBounds_toArray, List.set_cons_zero, List.set_cons_succ]
  refine wpAnyH_take (i := 13) (oi := { dst := Option.some 5, op := Go.Op.assign (Go.Operand.tmp 96), type := 9, pos := "lines.go:94", after := #[{ on := 12, ground := Go.Ground.data }, { on := 10, ground := Go.Ground.chain }, { on := 0, ground := Go.Ground.phase }, { on := 1, ground := Go.Ground.phase }, { on := 2, ground := Go.Ground.phase }, { on := 3, ground := Go.Ground.phase }, { on := 4, ground := Go.Ground.phase }, { on := 5, ground := Go.Ground.phase }, { on := 6, ground := Go.Ground.phase }, { on := 7, ground := Go.Ground.phase }, { on := 8, ground := Go.Ground.phase }, { on := 9, ground := Go.Ground.phase }, { on := 10, ground := Go.Ground.phase }, { on := 11, ground := Go.Ground.phase }, { on := 12, ground := Go.Ground.phase }], guard := Option.none }) (v := ?_) rfl (by kernel_rfl) (by kernel_rfl) (by kernel_rfl) (fun _ _ _ h => h) (Or.inl ⟨by rfl, ?_⟩) (by assumption) ?_
  rotate_left
  · (intro w hSw; (try dsimp only at hSw); go_simp; try with_reducible rfl)
  try simp only [Act.put, List.setIfInBounds_toArray, List.set_cons_zero, List.set_cons_succ]
  refine wpAnyH_done (by kernel_rfl) ?_ _
  have HSE := Lib.hid (HB1.out.trans (HS.mono HB1.out.size))
  have x2' := (HS.cell hb1).trans x2
  clear HS
  by_cases h0 : ns.length = 0
  · have HF := Lib.hid (show str (St.mk 6 nm ns e a g lo hi bd el).first = B12 by rw [HT0.out h0, HB12.out])
    rw [h0] at x2'
    go_wp2_with fail
    go_ret
    exact ⟨ret_strE HF.out.symm, HSE.out⟩
  · obtain ⟨JT, hJT⟩ : ∃ J, J = str (Lib.join ns [44, 32]) := ⟨_, rfl⟩
    obtain ⟨B13, hB13⟩ : ∃ B, B = str (Lib.join ns [44, 32] ++ [32, 61, 32]) := ⟨_, rfl⟩
    obtain ⟨B14, hB14⟩ : ∃ B, B = str ((Lib.join ns [44, 32] ++ [32, 61, 32]) ++ ((nm ++ ([40] ++ Lib.join g.texts [44, 32] ++ [41])) ++ [59])) := ⟨_, rfl⟩
    have hl2 := HL.out.2 h0
    have qB13 : ∀ w : World, (Op.stringOp .add JT ⟨#[32, 61, 32]⟩).run Tryz.prog w = .ok (.string B13) w := fun w => by
      rw [hJT, hB13]; exact add_str (Lib.join ns [44, 32]) [32, 61, 32] (by simp only [List.length_cons, List.length_nil]; omega) w
    have qB14 : ∀ w : World, (Op.stringOp .add B13 B12).run Tryz.prog w = .ok (.string B14) w := fun w => by
      rw [hB13, HB12.out, hB14]; exact add_str (Lib.join ns [44, 32] ++ [32, 61, 32]) ((nm ++ ([40] ++ Lib.join g.texts [44, 32] ++ [41])) ++ [59]) (by simp only [List.length_append, List.length_cons, List.length_nil]; omega) w
    have HF := Lib.hid (show str (St.mk 6 nm ns e a g lo hi bd el).first = B14 by rw [HT1.out h0, hB14])
    have HJ2 := Lib.hid (HJn.out _ HSE.out (by omega))
    rw [← hJT] at HJ2
    have hpos : 0 < ns.length := by omega
    have hne : ((ns.length : Int) == 0) = false := by rw [beq_eq_false_iff_ne]; omega
    clear hJT hB13 hB14 hl2 h0
    generalize ns.length = nn at *
    go_wp2_with fail
    refine HJ2.out.mono ?_
    rintro z wb ⟨rfl, hB'⟩
    have HSE2 := Lib.hid (HSE.out.trans (hB'.mono HSE.out.size))
    clear hB'
    go_wp2_with fail
    go_ret
    exact ⟨ret_strE HF.out.symm, HSE2.out⟩
theorem first_any (x : St) (hm : x.may = true) (b o m : Nat) (w : World) (hb : b < w.heap.size) (hx : x.At w w.heap.size b o) (hmp : w.heap[m]? = some (fmap signT)) (hG : Glob w) (hl : x.first.length ≤ 1000000) :
    Calls Tryz.prog 109 #[.agg #[.map (some m)], .pointer (some ⟨b, o, none⟩)] w fun z w' => z = .returned (.string (str x.first)) ∧ Below w.heap.size w w' := by
  obtain ⟨kd, nm, ns, e, a, g, lo, hi, bd, el⟩ := x
  have hno : kd < 1 ∨ 6 < kd ∨ kd = 1 ∨ kd = 2 ∨ kd = 3 ∨ kd = 4 ∨ kd = 5 ∨ kd = 6 := by omega
  rcases hno with h | h | rfl | rfl | rfl | rfl | rfl | rfl
  · rw [st_may_no kd (.inl h)] at hm; cases hm
  · rw [st_may_no kd (.inr h)] at hm; cases hm
  · rw [st_may_1] at hm; simp only [Bool.and_eq_true] at hm
    exact first_1 nm ns e a g lo hi bd el hm.1.2 b o m w hb hx hmp hG hl
  · rw [st_may_2] at hm; simp only [Bool.and_eq_true] at hm
    exact first_2 nm ns e a g lo hi bd el hm.1.2.2 hm.1.2.1 b o m w hb hx hmp hG hl
  · rw [st_may_3] at hm; simp only [Bool.and_eq_true] at hm
    exact first_3 nm ns e a g lo hi bd el hm.1.1 b o m w hb hx hmp hG hl
  · rw [st_may_4] at hm; simp only [Bool.and_eq_true] at hm
    exact first_4 nm ns e a g lo hi bd el hm.1.1 b o m w hb hx hmp hG hl
  · exact first_5 nm ns e a g lo hi bd el b o m w hb hx hmp hG hl
  · rw [st_may_6] at hm; simp only [Bool.and_eq_true] at hm
    exact first_6 nm ns e a g lo hi bd el hm.1.2.2 b o m w hb hx hmp hG hl
end Go.Proofs.YtlhbledakddbbaaGreatDoor
/- The lines of any statements, shown one by one: the closure that calls itself. -/
namespace Go.Proofs.YtlhbledakddbbaaGreatDoor
open Go.RowKit
attribute [local go_sem] Oper.semAt_some

theorem hasBlock_any (k : Int) (w : World) : Calls Tryz.prog 110 #[.int .i64 k] w fun e w' => e = .returned (.bool (decide (k = 3 ∨ k = 4 ∨ k = 5))) ∧ w = w' := by
  by_cases h3 : k = 3
  · subst h3
    go_enter Tryz.func110, Tryz.ntmps110
    go_wp2_with fail
    go_ret
    exact ⟨rfl, rfl⟩
  · by_cases h4 : k = 4
    · subst h4
      go_enter Tryz.func110, Tryz.ntmps110
      go_wp2_with fail
      go_ret
      exact ⟨rfl, rfl⟩
    · by_cases h5 : k = 5
      · subst h5
        go_enter Tryz.func110, Tryz.ntmps110
        go_wp2_with fail
        go_ret
        exact ⟨rfl, rfl⟩
      · go_enter Tryz.func110, Tryz.ntmps110
        go_wp2_with fail
        go_ret
        exact ⟨by simp [h3, h4, h5], rfl⟩

theorem Sts.lines_toL : ∀ (l : Sts) (t : Nat), l.lines t = l.toL.flatMap (fun x => x.lines t)
  | .nil, _ => rfl
  | .cons x r, t => by simp only [Sts.lines, Sts.toL, List.flatMap_cons, Sts.lines_toL r t]
theorem Sts.may_toL : ∀ l : Sts, l.may = l.toL.all St.may
  | .nil => rfl
  | .cons x r => by simp only [Sts.may, Sts.toL, List.all_cons, Sts.may_toL r]
theorem Sts.deep_toL : ∀ (l : Sts), ∀ x ∈ l.toL, x.deep ≤ l.deep
  | .nil, _, h => by cases h
  | .cons y r, x, h => by
    simp only [Sts.toL, List.mem_cons] at h
    simp only [Sts.deep]
    rcases h with rfl | h
    · omega
    · have := Sts.deep_toL r x h; omega

theorem St.first_mem : ∀ (x : St) (t : Nat), (t, x.first) ∈ x.lines t
  | .mk _ _ _ _ _ _ _ _ _ _, _ => by rw [St.lines]; exact List.mem_cons_self
theorem Seg.head' {L : List (Nat × List UInt8)} {d t : Nat} {x : St} (h : Seg L d (x.lines t)) : L[d]? = some (t, x.first) := by
  obtain ⟨kd, nm, ns, e, a, g, lo, hi, bd, el⟩ := x
  rw [St.lines] at h
  exact h.head
/-- what the closures of a loop over lines hold -/
structure ShC (l qy qt qs m : Nat) (A : World) : Prop where
  ky : A.heap[qy]? = some (.cells #[.func (.yield l) #[] #[]] 117 (0, 0))
  kt : A.heap[qt]? = some (.cells #[.map (some m)] 68 (0, 0))
  ks : A.heap[qs]? = some (.cells #[.func (.func 108) #[] #[.pointer (some ⟨qy, 0, none⟩), .pointer (some ⟨qt, 0, none⟩), .pointer (some ⟨qs, 0, none⟩)]] 55 (0, 0))
  km : A.heap[m]? = some (fmap signT)
/-- a yield that is handed the lines L -/
structure ShEnv (l M N qy qt qs m : Nat) (w0 : World) (L : List (Nat × List UInt8)) (J Jx : Nat → World → Prop) : Prop where
  gl : Glob w0
  mv : ∀ k A B, J k A → Rn N A B → J k B
  bel : ∀ k A, J k A → Below w0.heap.size w0 A
  hn : ∀ k A, J k A → N ≤ A.heap.size
  cl : ∀ k A, J k A → ShC l qy qt qs m A
  yl : ∀ k x W1, L[k]? = some x → J k W1 → YieldAt Fence.wide M Tryz.prog l (encL x) W1 fun e W' => ∃ v, e = .returned (.bool v) ∧ JJ J Jx v (k + 1) W'
/-- what the showing of lines leaves -/
def Shown (J Jx : Nat → World → Prop) (L : List (Nat × List UInt8)) (d : Nat) (v : Bool) (W : World) : Prop := (v = true ∧ J d W) ∨ (v = false ∧ ∃ k, k ≤ L.length ∧ Jx k W)
def ShN (qy qt qs : Nat) (w0 : World) (L : List (Nat × List UInt8)) (J Jx : Nat → World → Prop) (n : Nat) : Prop :=
  ∀ (ls : Sts), ls.size < n → ∀ (t d : Nat) (p : Option Addr) (c : Nat) (w : World), ls.may = true → t + ls.deep ≤ 1000 → (∀ y ∈ ls.lines t, y.2.length ≤ 1000000) → ls.In w0 w0.heap.size p → Seg L d (ls.lines t) → J d w →
    Calls Tryz.prog 108 #[.slice p ls.len c, .int .i64 (t : Int), .pointer (some ⟨qy, 0, none⟩), .pointer (some ⟨qt, 0, none⟩), .pointer (some ⟨qs, 0, none⟩)] w fun e w' => ∃ v, e = .returned (.bool v) ∧ Shown J Jx L (d + (ls.lines t).length) v w'

set_option maxRecDepth 100000 in
set_option maxHeartbeats 6400000 in
theorem shn_step {l M N qy qt qs m : Nat} {w0 : World} {L : List (Nat × List UInt8)} {J Jx : Nat → World → Prop} (E : ShEnv l M N qy qt qs m w0 L J Jx) (n : Nat) (ih : ShN qy qt qs w0 L J Jx n) : ShN qy qt qs w0 L J Jx (n + 1) := by
  intro ls hsz t d p c w hmay hdeep hlen hin hseg hj
  have hls : ∀ x ∈ ls.toL, x.size < n ∧ x.may = true ∧ t + x.deep ≤ 1000 := fun x hx => by
    have h1 := Sts.toL_size hx
    have h2 := Sts.deep_toL ls x hx
    rw [Sts.may_toL] at hmay
    exact ⟨by omega, List.all_eq_true.1 hmay x hx, by omega⟩
  replace hin := Sts.rowIn hin
  rw [Sts.lines_toL] at hlen hseg ⊢
  rw [Sts.toL_len]
  generalize ls.toL = xs at hin hls hlen hseg ⊢
  have HLS := Lib.hid hls
  have S1 := Lib.hid hin
  have hm1 := hin.1
  have HSeg := Lib.hid hseg
  have HLen := Lib.hid hlen
  have HJ := Lib.hid hj
  have HE := Lib.hid E
  have IH := Lib.hid ih
  clear hin hls hlen hseg hj E ih hmay hdeep hsz
  obtain ⟨tot, htot⟩ : ∃ k, k = d + (xs.flatMap (fun x => x.lines t)).length := ⟨_, rfl⟩
  rw [← htot]
  have HTot := Lib.hid htot
  clear htot
  go_enter Tryz.func108, Tryz.ntmps108
  go_wp2_with fail
  go_loopw [12] (fun i wr => ∃ (k e : Nat) (r : List St), i = .int .i64 k ∧ k + r.length = xs.length ∧ Hid (∀ x ∈ r, x ∈ xs) ∧ Hid (∀ b o, p = some ⟨b, o, none⟩ → Row (St.At w0 w0.heap.size) 16 xs b o → Row (St.At w0 w0.heap.size) 16 r b (o + k * 16)) ∧ Hid (Seg L e (r.flatMap (fun x => x.lines t)) ∧ e + (r.flatMap (fun x => x.lines t)).length = tot ∧ ∀ y ∈ r.flatMap (fun x => x.lines t), y.2.length ≤ 1000000) ∧ Hid (J e wr)) (fun i _ => xs.length - (intOf i).toNat)
  case atStart => exact ⟨0, d, xs, rfl, by omega, Lib.hid fun x h => h, Lib.hid fun b o _ h => by rw [Nat.zero_mul]; exact h, Lib.hid ⟨HSeg.out, HTot.out.symm, HLen.out⟩, HJ⟩
  case round =>
    obtain ⟨k, e, r, rfl, hk, hmem, hat, hS, hJ⟩ := hrel
    cases r with
    | nil =>
      simp only [List.length_nil] at hk
      have hge : ¬ k < xs.length := by omega
      go_wp2_with fail
      go_ret
      have he : e = tot := by have := hS.out.2.1; simpa using this
      subst he
      exact ⟨true, rfl, .inl ⟨rfl, hJ.out⟩⟩
    | cons x r =>
      simp only [List.length_cons] at hk
      have hlt : k < xs.length := by omega
      rcases S1.out.2 with h30 | ⟨b, o, rfl, hb, ha⟩
      · omega
      obtain ⟨hx, hr⟩ := hat.out b o rfl ha
      obtain ⟨hsx, hmx, hdx⟩ := HLS.out x (hmem.out x (by simp))
      have HR := Lib.hid hr
      obtain ⟨hsg, hto, hll⟩ := hS.out
      rw [List.flatMap_cons] at hsg hto hll
      obtain ⟨kd, nm, ns, ee, aa, g, lo, hi, bd, el⟩ := x
      have HX := Lib.hid hx
      have HJ0 := Lib.hid hJ.out
      have HBl := Lib.hid (fun k A h => HE.out.bel k A h)
      have hbw : b < wr.heap.size := Nat.lt_of_lt_of_le hb (HE.out.bel _ _ hJ.out).size
      have y1 : wr.cell? ⟨qy, 0, none⟩ = some (.func (.yield l) #[] #[]) := cell_of_one (HE.out.cl _ _ hJ.out).ky
      have y2 : wr.cell? ⟨qt, 0, none⟩ = some (.map (some m)) := cell_of_one (HE.out.cl _ _ hJ.out).kt
      have HFi := Lib.hid (first_any _ hmx b (o + k * 16) m wr.drew hbw (St.At.later (HE.out.bel _ _ hJ.out).drew (HE.out.bel _ _ hJ.out).size _ b _ hb hx) (HE.out.cl _ _ hJ.out).km (HE.out.gl.later (HE.out.bel _ _ hJ.out).drew) (hll _ (List.mem_append_left _ (St.first_mem _ t))))
      clear hx hr ha hat hJ hS
      go_wp2_with fail
      go_cut [24] from 18 to 23 (fun s24 wx => ∃ v, s24 = .bool (!v) ∧ Hid (JJ J Jx v (e + 1) wx))
      case first =>
        refine (wpIn_wide (n := M + 1)).1 ?_
        have HG := Lib.hid hsg.left.head'
        have HJd := Lib.hid (HE.out.mv e wr wr.drew HJ0.out ⟨(Below.refl _ wr).drew, fun _ _ h _ => h⟩)
        gi_region_with (first
          | (refine ⟨trivial, ?_⟩; gi_at_call 109; refine (callsIn_wide.2 HFi.out).mono ?_; rintro z w2 ⟨rfl, hB2⟩; have y1 := (hB2.cell (p := ⟨qy, 0, none⟩) (lt_of_block (HE.out.cl _ _ HJ0.out).ky)).trans y1; obtain ⟨fn, tmps, assign, body, hy, hR⟩ := HE.out.yl _ _ w2 HG.out (HE.out.mv _ _ _ HJd.out (Rn.of_below hB2 (HE.out.hn _ _ HJd.out))); rw [encL] at hy)
          | (refine hR.mono ?_; rintro z w3 ⟨v, rfl, hj⟩))
        all_goals (gi_wp2_with fail; go_meet; exact ⟨v, rfl, Lib.hid hj⟩)
      case rest =>
        obtain ⟨v, rfl, hj⟩ := hcut
        have hel := hsg.left.len
        have he1 : e + 1 ≤ L.length := by have := hel; simp only [St.lines, List.length_cons] at this; omega
        clear y1 y2 HFi HJ0 hbw
        rcases hj.out with ⟨rfl, hj1⟩ | ⟨rfl, hj1⟩
        rotate_left
        · have HX1 := Lib.hid hj1
          clear hj1 hj
          go_wp2_with fail
          go_ret
          exact ⟨false, rfl, .inr ⟨rfl, e + 1, he1, HX1.out⟩⟩
        have HJ1 := Lib.hid hj1
        clear hj1 hj
        obtain ⟨x0, _, _, _, _, _, _, _, _, _, ⟨pb, cb, xb, sb⟩, ⟨pl, cl, xl, sl⟩⟩ := HX.out.parts
        have hB1 := HBl.out _ _ HJ1.out
        have z0 := (hB1.cell hb).trans x0
        have hbm := may_block hmx
        obtain ⟨bk, hbk⟩ : ∃ bk, decide (kd = 3 ∨ kd = 4 ∨ kd = 5) = bk := ⟨_, rfl⟩
        have HHb := Lib.hid (hasBlock_any kd wc)
        rw [hbk] at HHb
        go_wp2_with fail
        refine HHb.out.mono ?_
        rintro z w2 ⟨rfl, rfl⟩
        clear HHb z0
        cases bk with
        | false =>
          have hno : ¬ (kd = 3 ∨ kd = 4 ∨ kd = 5) := by simpa using hbk
          rw [St.lines, if_neg hno] at hsg hto hll
          have hs2 := hsg.right
          simp only [List.length_cons, List.length_nil, List.length_append] at hs2 hto
          have HS2 := Lib.hid (show Seg L (e + 1) (r.flatMap (fun x => x.lines t)) ∧ e + 1 + (r.flatMap (fun x => x.lines t)).length = tot ∧ ∀ y ∈ r.flatMap (fun x => x.lines t), y.2.length ≤ 1000000 from ⟨hs2, by omega, fun y hy => hll y (List.mem_append_right _ hy)⟩)
          clear hsg hto hll hs2 hB1 hbm xb xl x0 sb sl
          go_wp2_with fail
          go_roundw
          case rel => exact ⟨k + 1, e + 1, r, by go_num, by omega, Lib.hid fun x hx => hmem.out x (List.mem_cons_of_mem _ hx), Lib.hid fun b' o' e' _ => by cases e'; rw [show o + (k + 1) * 16 = o + k * 16 + 16 by omega]; exact HR.out, HS2, HJ1⟩
          case measure => simp [intOf]; omega
        | true =>
          have hyes : kd = 3 ∨ kd = 4 ∨ kd = 5 := by simpa using hbk
          rw [St.lines, if_pos hyes] at hsg hto hll
          simp only [St.deep, St.size] at hdx hsx
          have hsg1 := hsg.left.tail
          have hsgR := hsg.right
          have hbl : ∀ y ∈ bd.lines (t + 1), y.2.length ≤ 1000000 := fun y hy => hll y (List.mem_append_left _ (List.mem_cons_of_mem _ (List.mem_append_left _ hy)))
          have hll2 : ∀ y ∈ r.flatMap (fun x => x.lines t), y.2.length ≤ 1000000 := fun y hy => hll y (List.mem_append_right _ hy)
          have ht1 : t ≤ 1000 := by omega
          have hcast : ((t + 1 : Nat) : Int) = IntKind.i64.wrap ((t : Int) + 1) := by rw [IntWalk.i64_in _ (by omega)]; omega
          have HBd := Lib.hid (fun (w1 : World) (hj : J (e + 1) w1) => IH.out bd (by omega) (t + 1) (e + 1) pb cb w1 hbm.1 (by omega) hbl sb hsg1.left hj)
          rw [hcast] at HBd
          obtain ⟨lb, hlb⟩ : ∃ k, k = (bd.lines (t + 1)).length := ⟨_, rfl⟩
          rw [← hlb] at HBd
          have hsg2 := hsg1.right
          rw [← hlb] at hsg2
          obtain ⟨e3, he3⟩ : ∃ k, k = e + 1 + lb + (if el.len = 0 then 0 else 1 + (el.lines (t + 1)).length) := ⟨_, rfl⟩
          have hie : (if el.len = 0 then [] else (t, elseT) :: el.lines (t + 1)).length = if el.len = 0 then 0 else 1 + (el.lines (t + 1)).length := by split <;> simp [Nat.add_comm]
          have hE : e + ((t, firstT kd nm ns ee.text aa.text g.texts lo hi) :: (bd.lines (t + 1) ++ ((if el.len = 0 then [] else (t, elseT) :: el.lines (t + 1)) ++ [(t, [125])]))).length = e3 + 1 := by
            rw [he3, List.length_cons, List.length_append, List.length_append, hie, ← hlb, List.length_cons, List.length_nil]; omega
          rw [hE] at hsgR
          rw [List.length_append, ← Nat.add_assoc, hE] at hto
          have he3L : e3 + 1 ≤ L.length := by have := hsgR.len; omega
          have hlast : L[e3]? = some (t, [125]) := by have h := hsg2.right.head; rw [hie, ← he3] at h; exact h
          have ys : wc.cell? ⟨qs, 0, none⟩ = some (.func (.func 108) #[] #[.pointer (some ⟨qy, 0, none⟩), .pointer (some ⟨qt, 0, none⟩), .pointer (some ⟨qs, 0, none⟩)]) := cell_of_one (HE.out.cl _ _ HJ1.out).ks
          have z14 := (hB1.cell hb).trans xb
          have HJd := Lib.hid (HE.out.mv _ wc wc.drew HJ1.out ⟨(Below.refl _ wc).drew, fun _ _ h _ => h⟩)
          have hle : el.len ≠ 0 → ∀ y ∈ el.lines (t + 1), y.2.length ≤ 1000000 := fun h y hy => hll y (List.mem_append_left _ (List.mem_cons_of_mem _ (List.mem_append_right _ (List.mem_append_left _ (by rw [if_neg h]; exact List.mem_cons_of_mem _ hy)))))
          clear hB1 hsg hll hsg1 hbl
          go_upto_region 8 with fail
          go_cut [39] from 31 to 38 (fun s39 wx => ∃ v, s39 = .bool (!v) ∧ Hid (Shown J Jx L (e + 1 + lb) v wx))
          case first =>
            refine (wpIn_wide (n := M + 1)).1 ?_
            gi_region_with (first
              | (refine ⟨trivial, ?_⟩; refine (callsIn_wide.2 (HBd.out _ HJd.out)).mono ?_; rintro z w3 ⟨v, rfl, hj⟩))
            all_goals (gi_wp2_with fail; go_meet; exact ⟨v, rfl, Lib.hid hj⟩)
          case rest =>
            obtain ⟨v, rfl, hj⟩ := hcut
            clear ys z14 HJd HBd HJ1
            rcases hj.out with ⟨rfl, hj1⟩ | ⟨rfl, hj1⟩
            rotate_left
            · have HX1 := Lib.hid hj1
              clear hj1 hj
              go_wp2_with fail
              go_ret
              exact ⟨false, rfl, .inr ⟨rfl, HX1.out⟩⟩
            have HJ2 := Lib.hid hj1
            clear hj1 hj
            have hB2 := HBl.out _ _ HJ2.out
            have z15 := (hB2.cell hb).trans xl
            have HJd2 := Lib.hid (HE.out.mv _ wc wc.drew HJ2.out ⟨(Below.refl _ wc).drew, fun _ _ h _ => h⟩)
            go_upto_region 10 with fail
            go_cut [62] from 40 to 61 (fun s62 wx => ∃ q, s62 = .bool (!q) ∧ Hid (Shown J Jx L e3 q wx))
            case first =>
              rename_i ab wcb l8 l7 l6 l5 l4 l3 l2 l1 l0 hh1 hh0 K1 a1 K2 a2 JQ KQ hJQ hKQ
              clear a1 a2 ab l8 l7 l6 l5 l4 l3 l2 l1 l0 hh1 hh0 HLS HSeg HLen HTot HJ hmem HX hmx hel he1 hll2 hlb HR S1 hbk hyes hB2 x0 xb sb hk hlt hm1 hlast hie hE hsgR hto
              refine (wpIn_wide (n := M + 1)).1 ?_
              by_cases h0 : el.len = 0
              · rw [h0] at z15
                rw [if_pos h0, Nat.add_zero] at he3
                refine wpIn_region_any (by kernel_rfl) ?_
                try (change wpAnyIn _ _ _ _ _ _ _ _ _ (World.drew _))
                refine wpAnyIn_take (i := 0) (oi := { dst := Option.some 40, op := Go.Op.move (Go.Operand.tmp 9), type := 145, pos := "lines.go:63", after := #[], guard := Option.none }) (v := ?_) rfl rfl (by kernel_rfl) (by kernel_rfl) (by kernel_rfl) (fun _ _ _ h => h) ⟨Or.inl ⟨by rfl, ?_⟩, fun _ => rfl⟩ ?_
                rotate_left
                · (intro w; go_simp; try with_reducible rfl)
                try simp only [Act.put, List.setIfInBounds_toArray, List.set_cons_zero, List.set_cons_succ]
                refine wpAnyIn_take (i := 1) (oi := { dst := Option.some 41, op := Go.Op.nilCheck (Go.Operand.tmp 40), type := 0, pos := "lines.go:63", after := #[{ on := 0, ground := Go.Ground.data }], guard := Option.none }) (v := ?_) rfl rfl (by kernel_rfl) (by kernel_rfl) (by kernel_rfl) (fun _ _ _ h => h) ⟨Or.inl ⟨by rfl, ?_⟩, fun _ => rfl⟩ ?_
                rotate_left
                · (intro w; go_simp; try with_reducible rfl)
                try simp only [Act.put, List.setIfInBounds_toArray, List.set_cons_zero, List.set_cons_succ]
                refine wpAnyIn_take (i := 2) (oi := { dst := Option.some 42, op := Go.Op.fieldAddr 54 (Go.Operand.tmp 41) 9, type := 0, pos := "lines.go:63", after := #[{ on := 1, ground := Go.Ground.data }], guard := Option.none }) (v := ?_) rfl rfl (by kernel_rfl) (by kernel_rfl) (by kernel_rfl) (fun _ _ _ h => h) ⟨Or.inl ⟨by rfl, ?_⟩, fun _ => rfl⟩ ?_
                rotate_left
                · (intro w; go_simp; try with_reducible rfl)
                try simp only [Act.put, List.setIfInBounds_toArray, List.set_cons_zero, List.set_cons_succ]
                refine wpAnyIn_ready (rs := [3]) (by kernel_rfl) (by simp) ?_
                refine AllReadyIn.cons (o := { dst := Option.some 43, op := Go.Op.load 47 (Go.Operand.tmp 42), type := 47, pos := "lines.go:63", after := #[{ on := 2, ground := Go.Ground.data }], guard := Option.none }) rfl (fun K hK => ?_) AllReadyIn.nil
                go_simp
                refine hK _ _ ?_
                clear hK K
                try simp only [Act.put, List.setIfInBounds_toArray, List.set_cons_zero, List.set_cons_succ]
                refine wpAnyIn_ready (rs := [4]) (by kernel_rfl) (by simp) ?_
                refine AllReadyIn.cons (o := { dst := Option.some 44, op := Go.Op.call { callee := Go.Callee.builtin Go.Builtin.len, args := #[Go.Operand.tmp 43], argTypes := #[47] }, type := 3, pos := "lines.go:63", after := #[{ on := 3, ground := Go.Ground.data }], guard := Option.none }) rfl (fun K hK => ?_) AllReadyIn.nil
                go_simp
                refine hK _ _ ?_
                clear hK K
                try simp only [Act.put, List.setIfInBounds_toArray, List.set_cons_zero, List.set_cons_succ]
                refine wpAnyIn_take (i := 5) (oi := { dst := Option.some 45, op := Go.Op.binOp Go.BinOp.gtr 3 (Go.Operand.tmp 44) (Go.Operand.const (Go.Value.int Go.IntKind.i64 0)) 3, type := 4, pos := "lines.go:63", after := #[{ on := 4, ground := Go.Ground.data }], guard := Option.none }) (v := .bool false) rfl rfl (by kernel_rfl) (by kernel_rfl) (by kernel_rfl) (fun _ _ _ h => h) ⟨Or.inl ⟨by rfl, ?_⟩, fun _ => rfl⟩ ?_
                · (intro w; go_simp)
                try simp only [Act.put, List.setIfInBounds_toArray, List.set_cons_zero, List.set_cons_succ]
                refine wpAnyIn_take (i := 6) (oi := { dst := Option.some 46, op := Go.Op.move (Go.Operand.tmp 45), type := 4, pos := "lines.go:63", after := #[{ on := 5, ground := Go.Ground.data }], guard := Option.none }) (v := ?_) rfl rfl (by kernel_rfl) (by kernel_rfl) (by kernel_rfl) (fun _ _ _ h => h) ⟨Or.inl ⟨by rfl, ?_⟩, fun _ => rfl⟩ ?_
                rotate_left
                · (intro w; go_simp; try with_reducible rfl)
                try simp only [Act.put, List.setIfInBounds_toArray, List.set_cons_zero, List.set_cons_succ]
                refine wpAnyIn_take (i := 7) (oi := { dst := Option.some 47, op := Go.Op.load 117 (Go.Operand.tmp 2), type := 117, pos := "lines.go:63", after := #[{ on := 6, ground := Go.Ground.guard }], guard := Option.some (6, Bool.true) }) (v := undef) rfl rfl (by kernel_rfl) (by kernel_rfl) (by kernel_rfl) (fun _ _ _ h => h) ⟨Or.inr ⟨by rfl, rfl⟩, fun _ => rfl⟩ ?_
                try simp only [Act.put, List.setIfInBounds_toArray, List.set_cons_zero, List.set_cons_succ]
                refine wpAnyIn_take (i := 8) (oi := { dst := Option.some 48, op := Go.Op.move (Go.Operand.tmp 1), type := 3, pos := "lines.go:63", after := #[{ on := 6, ground := Go.Ground.guard }], guard := Option.some (6, Bool.true) }) (v := undef) rfl rfl (by kernel_rfl) (by kernel_rfl) (by kernel_rfl) (fun _ _ _ h => h) ⟨Or.inr ⟨by rfl, rfl⟩, fun _ => rfl⟩ ?_
                try simp only [Act.put, List.setIfInBounds_toArray, List.set_cons_zero, List.set_cons_succ]
                refine wpAnyIn_take (i := 9) (oi := { dst := Option.some 49, op := Go.Op.call { callee := Go.Callee.value (Go.Operand.tmp 47), args := #[Go.Operand.tmp 48, Go.Operand.const (Go.Value.string { data := #[125, 32, 101, 108, 115, 101, 32, 123] })], argTypes := #[3, 9] }, type := 4, pos := "lines.go:63", after := #[{ on := 7, ground := Go.Ground.data }, { on := 8, ground := Go.Ground.data }, { on := 6, ground := Go.Ground.chain }, { on := 6, ground := Go.Ground.guard }], guard := Option.some (6, Bool.true) }) (v := undef) rfl rfl (by kernel_rfl) (by kernel_rfl) (by kernel_rfl) (fun _ _ _ h => h) ⟨Or.inr ⟨by rfl, rfl⟩, fun _ => rfl⟩ ?_
                try simp only [Act.put, List.setIfInBounds_toArray, List.set_cons_zero, List.set_cons_succ]
                refine wpAnyIn_take (i := 10) (oi := { dst := Option.some 50, op := Go.Op.unOp Go.UnOp.not 4 (Go.Operand.tmp 49), type := 4, pos := "lines.go:63", after := #[{ on := 9, ground := Go.Ground.data }, { on := 6, ground := Go.Ground.guard }], guard := Option.some (6, Bool.true) }) (v := undef) rfl rfl (by kernel_rfl) (by kernel_rfl) (by kernel_rfl) (fun _ _ _ h => h) ⟨Or.inr ⟨by rfl, rfl⟩, fun _ => rfl⟩ ?_
                try simp only [Act.put, List.setIfInBounds_toArray, List.set_cons_zero, List.set_cons_succ]
                refine wpAnyIn_take (i := 11) (oi := { dst := Option.some 51, op := Go.Op.move (Go.Operand.tmp 50), type := 4, pos := "lines.go:63", after := #[{ on := 10, ground := Go.Ground.data }, { on := 9, ground := Go.Ground.chain }, { on := 6, ground := Go.Ground.guard }], guard := Option.some (6, Bool.true) }) (v := undef) rfl rfl (by kernel_rfl) (by kernel_rfl) (by kernel_rfl) (fun _ _ _ h => h) ⟨Or.inr ⟨by rfl, rfl⟩, fun _ => rfl⟩ ?_
                try simp only [Act.put, List.setIfInBounds_toArray, List.set_cons_zero, List.set_cons_succ]
                refine wpAnyIn_take (i := 12) (oi := { dst := Option.some 52, op := Go.Op.load 55 (Go.Operand.tmp 4), type := 55, pos := "lines.go:63", after := #[{ on := 11, ground := Go.Ground.guard }], guard := Option.some (11, Bool.false) }) (v := undef) rfl rfl (by kernel_rfl) (by kernel_rfl) (by kernel_rfl) (fun _ _ _ h => h) ⟨Or.inr ⟨by rfl, rfl⟩, fun _ => rfl⟩ ?_
                try simp only [Act.put, List.setIfInBounds_toArray, List.set_cons_zero, List.set_cons_succ]
                refine wpAnyIn_take (i := 13) (oi := { dst := Option.some 53, op := Go.Op.move (Go.Operand.tmp 9), type := 145, pos := "lines.go:63", after := #[{ on := 11, ground := Go.Ground.guard }], guard := Option.some (11, Bool.false) }) (v := undef) rfl rfl (by kernel_rfl) (by kernel_rfl) (by kernel_rfl) (fun _ _ _ h => h) ⟨Or.inr ⟨by rfl, rfl⟩, fun _ => rfl⟩ ?_
                try simp only [Act.put, List.setIfInBounds_toArray, List.set_cons_zero, List.set_cons_succ]
                refine wpAnyIn_take (i := 14) (oi := { dst := Option.some 54, op := Go.Op.nilCheck (Go.Operand.tmp 53), type := 0, pos := "lines.go:63", after := #[{ on := 13, ground := Go.Ground.data }, { on := 11, ground := Go.Ground.guard }], guard := Option.some (11, Bool.false) }) (v := undef) rfl rfl (by kernel_rfl) (by kernel_rfl) (by kernel_rfl) (fun _ _ _ h => h) ⟨Or.inr ⟨by rfl, rfl⟩, fun _ => rfl⟩ ?_
                try simp only [Act.put, List.setIfInBounds_toArray, List.set_cons_zero, List.set_cons_succ]
                refine wpAnyIn_take (i := 15) (oi := { dst := Option.some 55, op := Go.Op.fieldAddr 54 (Go.Operand.tmp 54) 9, type := 0, pos := "lines.go:63", after := #[{ on := 14, ground := Go.Ground.data }, { on := 11, ground := Go.Ground.guard }], guard := Option.some (11, Bool.false) }) (v := undef) rfl rfl (by kernel_rfl) (by kernel_rfl) (by kernel_rfl) (fun _ _ _ h => h) ⟨Or.inr ⟨by rfl, rfl⟩, fun _ => rfl⟩ ?_
                try simp only [Act.put, List.setIfInBounds_toArray, List.set_cons_zero, List.set_cons_succ]
                refine wpAnyIn_take (i := 16) (oi := { dst := Option.some 56, op := Go.Op.load 47 (Go.Operand.tmp 55), type := 47, pos := "lines.go:63", after := #[{ on := 15, ground := Go.Ground.data }, { on := 11, ground := Go.Ground.guard }], guard := Option.some (11, Bool.false) }) (v := undef) rfl rfl (by kernel_rfl) (by kernel_rfl) (by kernel_rfl) (fun _ _ _ h => h) ⟨Or.inr ⟨by rfl, rfl⟩, fun _ => rfl⟩ ?_
                try simp only [Act.put, List.setIfInBounds_toArray, List.set_cons_zero, List.set_cons_succ]
                refine wpAnyIn_take (i := 17) (oi := { dst := Option.some 57, op := Go.Op.move (Go.Operand.tmp 1), type := 3, pos := "lines.go:63", after := #[{ on := 11, ground := Go.Ground.guard }], guard := Option.some (11, Bool.false) }) (v := undef) rfl rfl (by kernel_rfl) (by kernel_rfl) (by kernel_rfl) (fun _ _ _ h => h) ⟨Or.inr ⟨by rfl, rfl⟩, fun _ => rfl⟩ ?_
                try simp only [Act.put, List.setIfInBounds_toArray, List.set_cons_zero, List.set_cons_succ]
                refine wpAnyIn_take (i := 18) (oi := { dst := Option.some 58, op := Go.Op.binOp Go.BinOp.add 3 (Go.Operand.tmp 57) (Go.Operand.const (Go.Value.int Go.IntKind.i64 1)) 3, type := 3, pos := "lines.go:63", after := #[{ on := 17, ground := Go.Ground.data }, { on := 11, ground := Go.Ground.guard }], guard := Option.some (11, Bool.false) }) (v := undef) rfl rfl (by kernel_rfl) (by kernel_rfl) (by kernel_rfl) (fun _ _ _ h => h) ⟨Or.inr ⟨by rfl, rfl⟩, fun _ => rfl⟩ ?_
                try simp only [Act.put, List.setIfInBounds_toArray, List.set_cons_zero, List.set_cons_succ]
                refine wpAnyIn_take (i := 19) (oi := { dst := Option.some 59, op := Go.Op.call { callee := Go.Callee.value (Go.Operand.tmp 52), args := #[Go.Operand.tmp 56, Go.Operand.tmp 58], argTypes := #[47, 3] }, type := 4, pos := "lines.go:63", after := #[{ on := 12, ground := Go.Ground.data }, { on := 16, ground := Go.Ground.data }, { on := 18, ground := Go.Ground.data }, { on := 11, ground := Go.Ground.chain }, { on := 11, ground := Go.Ground.guard }], guard := Option.some (11, Bool.false) }) (v := undef) rfl rfl (by kernel_rfl) (by kernel_rfl) (by kernel_rfl) (fun _ _ _ h => h) ⟨Or.inr ⟨by rfl, rfl⟩, fun _ => rfl⟩ ?_
                try simp only [Act.put, List.setIfInBounds_toArray, List.set_cons_zero, List.set_cons_succ]
                refine wpAnyIn_take (i := 20) (oi := { dst := Option.some 60, op := Go.Op.unOp Go.UnOp.not 4 (Go.Operand.tmp 59), type := 4, pos := "lines.go:63", after := #[{ on := 19, ground := Go.Ground.data }, { on := 11, ground := Go.Ground.guard }], guard := Option.some (11, Bool.false) }) (v := undef) rfl rfl (by kernel_rfl) (by kernel_rfl) (by kernel_rfl) (fun _ _ _ h => h) ⟨Or.inr ⟨by rfl, rfl⟩, fun _ => rfl⟩ ?_
                try simp only [Act.put, List.setIfInBounds_toArray, List.set_cons_zero, List.set_cons_succ]
                refine wpAnyIn_take (i := 21) (oi := { dst := Option.some 61, op := Go.Op.pick (Go.Operand.tmp 51) (Go.Operand.const (Go.Value.bool Bool.true)) (Go.Operand.tmp 60), type := 4, pos := "lines.go:63", after := #[{ on := 11, ground := Go.Ground.data }, { on := 20, ground := Go.Ground.data }, { on := 6, ground := Go.Ground.guard }], guard := Option.some (6, Bool.true) }) (v := undef) rfl rfl (by kernel_rfl) (by kernel_rfl) (by kernel_rfl) (fun _ _ _ h => h) ⟨Or.inr ⟨by rfl, rfl⟩, fun _ => rfl⟩ ?_
                try simp only [Act.put, List.setIfInBounds_toArray, List.set_cons_zero, List.set_cons_succ]
                refine wpAnyIn_take (i := 22) (oi := { dst := Option.some 62, op := Go.Op.pick (Go.Operand.tmp 46) (Go.Operand.tmp 61) (Go.Operand.const (Go.Value.bool Bool.false)), type := 4, pos := "lines.go:63", after := #[{ on := 6, ground := Go.Ground.data }, { on := 21, ground := Go.Ground.data }], guard := Option.none }) (v := ?_) rfl rfl (by kernel_rfl) (by kernel_rfl) (by kernel_rfl) (fun _ _ _ h => h) ⟨Or.inl ⟨by rfl, ?_⟩, fun _ => rfl⟩ ?_
                rotate_left
                · (intro w; go_simp; try with_reducible rfl)
                try simp only [Act.put, List.setIfInBounds_toArray, List.set_cons_zero, List.set_cons_succ]
                refine wpAnyIn_done (by kernel_rfl) ?_ _
                gi_wp2_with fail
                go_meet
                exact ⟨true, rfl, Lib.hid (.inl ⟨rfl, he3 ▸ HJd2.out⟩)⟩
              · have hpos : (0 : Int) < (el.len : Int) := by omega
                rw [if_neg h0] at he3
                rw [if_neg h0] at hsg2
                have hyl := HE.out.yl _ _ wc.drew hsg2.left.head HJd2.out
                have hsE := hsg2.left.tail
                have HEl := Lib.hid (fun (w1 : World) (hj : J (e + 1 + lb + 1) w1) => IH.out el (by omega) (t + 1) (e + 1 + lb + 1) pl cl w1 hbm.2.1 (by omega) (fun y hy => hle h0 y hy) sl hsE hj)
                rw [hcast] at HEl
                have hfin : e + 1 + lb + 1 + (el.lines (t + 1)).length = e3 := by omega
                rw [hfin] at HEl
                have hk2 : e + 1 + lb + 1 ≤ L.length := by omega
                have y1 : wc.cell? ⟨qy, 0, none⟩ = some (.func (.yield l) #[] #[]) := cell_of_one (HE.out.cl _ _ HJ2.out).ky
                obtain ⟨fn, tmps, assign, body, hy, hR⟩ := hyl
                simp only [encL] at hy
                rw [show str elseT = ⟨#[125, 32, 101, 108, 115, 101, 32, 123]⟩ from rfl] at hy
                clear hsg2 hsE HJ2 he3 he3L hcast HJd2

                refine wpIn_region_any (by kernel_rfl) ?_
                try (change wpAnyIn _ _ _ _ _ _ _ _ _ (World.drew _))
                refine wpAnyIn_take (i := 0) (oi := { dst := Option.some 40, op := Go.Op.move (Go.Operand.tmp 9), type := 145, pos := "lines.go:63", after := #[], guard := Option.none }) (v := ?_) rfl rfl (by kernel_rfl) (by kernel_rfl) (by kernel_rfl) (fun _ _ _ h => h) ⟨Or.inl ⟨by rfl, ?_⟩, fun _ => rfl⟩ ?_
                rotate_left
                · (intro w; go_simp; try with_reducible rfl)
                try simp only [Act.put, List.setIfInBounds_toArray, List.set_cons_zero, List.set_cons_succ]
                refine wpAnyIn_take (i := 1) (oi := { dst := Option.some 41, op := Go.Op.nilCheck (Go.Operand.tmp 40), type := 0, pos := "lines.go:63", after := #[{ on := 0, ground := Go.Ground.data }], guard := Option.none }) (v := ?_) rfl rfl (by kernel_rfl) (by kernel_rfl) (by kernel_rfl) (fun _ _ _ h => h) ⟨Or.inl ⟨by rfl, ?_⟩, fun _ => rfl⟩ ?_
                rotate_left
                · (intro w; go_simp; try with_reducible rfl)
                try simp only [Act.put, List.setIfInBounds_toArray, List.set_cons_zero, List.set_cons_succ]
                refine wpAnyIn_take (i := 2) (oi := { dst := Option.some 42, op := Go.Op.fieldAddr 54 (Go.Operand.tmp 41) 9, type := 0, pos := "lines.go:63", after := #[{ on := 1, ground := Go.Ground.data }], guard := Option.none }) (v := ?_) rfl rfl (by kernel_rfl) (by kernel_rfl) (by kernel_rfl) (fun _ _ _ h => h) ⟨Or.inl ⟨by rfl, ?_⟩, fun _ => rfl⟩ ?_
                rotate_left
                · (intro w; go_simp; try with_reducible rfl)
                try simp only [Act.put, List.setIfInBounds_toArray, List.set_cons_zero, List.set_cons_succ]
                refine wpAnyIn_ready (rs := [3]) (by kernel_rfl) (by simp) ?_
                refine AllReadyIn.cons (o := { dst := Option.some 43, op := Go.Op.load 47 (Go.Operand.tmp 42), type := 47, pos := "lines.go:63", after := #[{ on := 2, ground := Go.Ground.data }], guard := Option.none }) rfl (fun K hK => ?_) AllReadyIn.nil
                go_simp
                refine hK _ _ ?_
                clear hK K
                try simp only [Act.put, List.setIfInBounds_toArray, List.set_cons_zero, List.set_cons_succ]
                refine wpAnyIn_ready (rs := [4]) (by kernel_rfl) (by simp) ?_
                refine AllReadyIn.cons (o := { dst := Option.some 44, op := Go.Op.call { callee := Go.Callee.builtin Go.Builtin.len, args := #[Go.Operand.tmp 43], argTypes := #[47] }, type := 3, pos := "lines.go:63", after := #[{ on := 3, ground := Go.Ground.data }], guard := Option.none }) rfl (fun K hK => ?_) AllReadyIn.nil
                go_simp
                refine hK _ _ ?_
                clear hK K
                try simp only [Act.put, List.setIfInBounds_toArray, List.set_cons_zero, List.set_cons_succ]
                refine wpAnyIn_take (i := 5) (oi := { dst := Option.some 45, op := Go.Op.binOp Go.BinOp.gtr 3 (Go.Operand.tmp 44) (Go.Operand.const (Go.Value.int Go.IntKind.i64 0)) 3, type := 4, pos := "lines.go:63", after := #[{ on := 4, ground := Go.Ground.data }], guard := Option.none }) (v := .bool true) rfl rfl (by kernel_rfl) (by kernel_rfl) (by kernel_rfl) (fun _ _ _ h => h) ⟨Or.inl ⟨by rfl, ?_⟩, fun _ => rfl⟩ ?_
                · (intro w; go_simp; omega)
                try simp only [Act.put, List.setIfInBounds_toArray, List.set_cons_zero, List.set_cons_succ]
                refine wpAnyIn_take (i := 6) (oi := { dst := Option.some 46, op := Go.Op.move (Go.Operand.tmp 45), type := 4, pos := "lines.go:63", after := #[{ on := 5, ground := Go.Ground.data }], guard := Option.none }) (v := ?_) rfl rfl (by kernel_rfl) (by kernel_rfl) (by kernel_rfl) (fun _ _ _ h => h) ⟨Or.inl ⟨by rfl, ?_⟩, fun _ => rfl⟩ ?_
                rotate_left
                · (intro w; go_simp; try with_reducible rfl)
                try simp only [Act.put, List.setIfInBounds_toArray, List.set_cons_zero, List.set_cons_succ]
                refine wpAnyIn_take (i := 8) (oi := { dst := Option.some 48, op := Go.Op.move (Go.Operand.tmp 1), type := 3, pos := "lines.go:63", after := #[{ on := 6, ground := Go.Ground.guard }], guard := Option.some (6, Bool.true) }) (v := ?_) rfl rfl (by kernel_rfl) (by kernel_rfl) (by kernel_rfl) (fun _ _ _ h => h) ⟨Or.inl ⟨by rfl, ?_⟩, fun _ => rfl⟩ ?_
                rotate_left
                · (intro w; go_simp; try with_reducible rfl)
                try simp only [Act.put, List.setIfInBounds_toArray, List.set_cons_zero, List.set_cons_succ]
                refine wpAnyIn_ready (rs := [7]) (by kernel_rfl) (by simp) ?_
                refine AllReadyIn.cons (o := { dst := Option.some 47, op := Go.Op.load 117 (Go.Operand.tmp 2), type := 117, pos := "lines.go:63", after := #[{ on := 6, ground := Go.Ground.guard }], guard := Option.some (6, Bool.true) }) rfl (fun K hK => ?_) AllReadyIn.nil
                go_simp
                refine hK _ _ ?_
                clear hK K
                try simp only [Act.put, List.setIfInBounds_toArray, List.set_cons_zero, List.set_cons_succ]
                refine wpAnyIn_ready (rs := [9]) (by kernel_rfl) (by simp) ?_
                refine AllReadyIn.cons (o := { dst := Option.some 49, op := Go.Op.call { callee := Go.Callee.value (Go.Operand.tmp 47), args := #[Go.Operand.tmp 48, Go.Operand.const (Go.Value.string { data := #[125, 32, 101, 108, 115, 101, 32, 123] })], argTypes := #[3, 9] }, type := 4, pos := "lines.go:63", after := #[{ on := 7, ground := Go.Ground.data }, { on := 8, ground := Go.Ground.data }, { on := 6, ground := Go.Ground.chain }, { on := 6, ground := Go.Ground.guard }], guard := Option.some (6, Bool.true) }) rfl (fun K hK => ?_) AllReadyIn.nil
                go_simp
                refine hR.mono ?_
                rintro z w3 ⟨v, rfl, hj⟩
                refine hK _ _ ?_
                clear hK K
                try simp only [Act.put, List.setIfInBounds_toArray, List.set_cons_zero, List.set_cons_succ]
                cases v with
                | false =>
                  have HX2 : Hid (Jx (e + 1 + lb + 1) w3) := Lib.hid (by rcases hj with ⟨h, _⟩ | ⟨_, h⟩; cases h; exact h)
                  clear hj HEl z15
                  refine wpAnyIn_take (i := 10) (oi := { dst := Option.some 50, op := Go.Op.unOp Go.UnOp.not 4 (Go.Operand.tmp 49), type := 4, pos := "lines.go:63", after := #[{ on := 9, ground := Go.Ground.data }, { on := 6, ground := Go.Ground.guard }], guard := Option.some (6, Bool.true) }) (v := ?_) rfl rfl (by kernel_rfl) (by kernel_rfl) (by kernel_rfl) (fun _ _ _ h => h) ⟨Or.inl ⟨by rfl, ?_⟩, fun _ => rfl⟩ ?_
                  rotate_left
                  · (intro w; go_simp; try with_reducible rfl)
                  try simp only [Act.put, List.setIfInBounds_toArray, List.set_cons_zero, List.set_cons_succ]
                  refine wpAnyIn_take (i := 11) (oi := { dst := Option.some 51, op := Go.Op.move (Go.Operand.tmp 50), type := 4, pos := "lines.go:63", after := #[{ on := 10, ground := Go.Ground.data }, { on := 9, ground := Go.Ground.chain }, { on := 6, ground := Go.Ground.guard }], guard := Option.some (6, Bool.true) }) (v := ?_) rfl rfl (by kernel_rfl) (by kernel_rfl) (by kernel_rfl) (fun _ _ _ h => h) ⟨Or.inl ⟨by rfl, ?_⟩, fun _ => rfl⟩ ?_
                  rotate_left
                  · (intro w; go_simp; try with_reducible rfl)
                  try simp only [Act.put, List.setIfInBounds_toArray, List.set_cons_zero, List.set_cons_succ]
                  refine wpAnyIn_take (i := 12) (oi := { dst := Option.some 52, op := Go.Op.load 55 (Go.Operand.tmp 4), type := 55, pos := "lines.go:63", after := #[{ on := 11, ground := Go.Ground.guard }], guard := Option.some (11, Bool.false) }) (v := undef) rfl rfl (by kernel_rfl) (by kernel_rfl) (by kernel_rfl) (fun _ _ _ h => h) ⟨Or.inr ⟨by rfl, rfl⟩, fun _ => rfl⟩ ?_
                  try simp only [Act.put, List.setIfInBounds_toArray, List.set_cons_zero, List.set_cons_succ]
                  refine wpAnyIn_take (i := 13) (oi := { dst := Option.some 53, op := Go.Op.move (Go.Operand.tmp 9), type := 145, pos := "lines.go:63", after := #[{ on := 11, ground := Go.Ground.guard }], guard := Option.some (11, Bool.false) }) (v := undef) rfl rfl (by kernel_rfl) (by kernel_rfl) (by kernel_rfl) (fun _ _ _ h => h) ⟨Or.inr ⟨by rfl, rfl⟩, fun _ => rfl⟩ ?_
                  try simp only [Act.put, List.setIfInBounds_toArray, List.set_cons_zero, List.set_cons_succ]
                  refine wpAnyIn_take (i := 14) (oi := { dst := Option.some 54, op := Go.Op.nilCheck (Go.Operand.tmp 53), type := 0, pos := "lines.go:63", after := #[{ on := 13, ground := Go.Ground.data }, { on := 11, ground := Go.Ground.guard }], guard := Option.some (11, Bool.false) }) (v := undef) rfl rfl (by kernel_rfl) (by kernel_rfl) (by kernel_rfl) (fun _ _ _ h => h) ⟨Or.inr ⟨by rfl, rfl⟩, fun _ => rfl⟩ ?_
                  try simp only [Act.put, List.setIfInBounds_toArray, List.set_cons_zero, List.set_cons_succ]
                  refine wpAnyIn_take (i := 15) (oi := { dst := Option.some 55, op := Go.Op.fieldAddr 54 (Go.Operand.tmp 54) 9, type := 0, pos := "lines.go:63", after := #[{ on := 14, ground := Go.Ground.data }, { on := 11, ground := Go.Ground.guard }], guard := Option.some (11, Bool.false) }) (v := undef) rfl rfl (by kernel_rfl) (by kernel_rfl) (by kernel_rfl) (fun _ _ _ h => h) ⟨Or.inr ⟨by rfl, rfl⟩, fun _ => rfl⟩ ?_
                  try simp only [Act.put, List.setIfInBounds_toArray, List.set_cons_zero, List.set_cons_succ]
                  refine wpAnyIn_take (i := 16) (oi := { dst := Option.some 56, op := Go.Op.load 47 (Go.Operand.tmp 55), type := 47, pos := "lines.go:63", after := #[{ on := 15, ground := Go.Ground.data }, { on := 11, ground := Go.Ground.guard }], guard := Option.some (11, Bool.false) }) (v := undef) rfl rfl (by kernel_rfl) (by kernel_rfl) (by kernel_rfl) (fun _ _ _ h => h) ⟨Or.inr ⟨by rfl, rfl⟩, fun _ => rfl⟩ ?_
                  try simp only [Act.put, List.setIfInBounds_toArray, List.set_cons_zero, List.set_cons_succ]
                  refine wpAnyIn_take (i := 17) (oi := { dst := Option.some 57, op := Go.Op.move (Go.Operand.tmp 1), type := 3, pos := "lines.go:63", after := #[{ on := 11, ground := Go.Ground.guard }], guard := Option.some (11, Bool.false) }) (v := undef) rfl rfl (by kernel_rfl) (by kernel_rfl) (by kernel_rfl) (fun _ _ _ h => h) ⟨Or.inr ⟨by rfl, rfl⟩, fun _ => rfl⟩ ?_
                  try simp only [Act.put, List.setIfInBounds_toArray, List.set_cons_zero, List.set_cons_succ]
                  refine wpAnyIn_take (i := 18) (oi := { dst := Option.some 58, op := Go.Op.binOp Go.BinOp.add 3 (Go.Operand.tmp 57) (Go.Operand.const (Go.Value.int Go.IntKind.i64 1)) 3, type := 3, pos := "lines.go:63", after := #[{ on := 17, ground := Go.Ground.data }, { on := 11, ground := Go.Ground.guard }], guard := Option.some (11, Bool.false) }) (v := undef) rfl rfl (by kernel_rfl) (by kernel_rfl) (by kernel_rfl) (fun _ _ _ h => h) ⟨Or.inr ⟨by rfl, rfl⟩, fun _ => rfl⟩ ?_
                  try simp only [Act.put, List.setIfInBounds_toArray, List.set_cons_zero, List.set_cons_succ]
                  refine wpAnyIn_take (i := 19) (oi := { dst := Option.some 59, op := Go.Op.call { callee := Go.Callee.value (Go.Operand.tmp 52), args := #[Go.Operand.tmp 56, Go.Operand.tmp 58], argTypes := #[47, 3] }, type := 4, pos := "lines.go:63", after := #[{ on := 12, ground := Go.Ground.data }, { on := 16, ground := Go.Ground.data }, { on := 18, ground := Go.Ground.data }, { on := 11, ground := Go.Ground.chain }, { on := 11, ground := Go.Ground.guard }], guard := Option.some (11, Bool.false) }) (v := undef) rfl rfl (by kernel_rfl) (by kernel_rfl) (by kernel_rfl) (fun _ _ _ h => h) ⟨Or.inr ⟨by rfl, rfl⟩, fun _ => rfl⟩ ?_
                  try simp only [Act.put, List.setIfInBounds_toArray, List.set_cons_zero, List.set_cons_succ]
                  refine wpAnyIn_take (i := 20) (oi := { dst := Option.some 60, op := Go.Op.unOp Go.UnOp.not 4 (Go.Operand.tmp 59), type := 4, pos := "lines.go:63", after := #[{ on := 19, ground := Go.Ground.data }, { on := 11, ground := Go.Ground.guard }], guard := Option.some (11, Bool.false) }) (v := undef) rfl rfl (by kernel_rfl) (by kernel_rfl) (by kernel_rfl) (fun _ _ _ h => h) ⟨Or.inr ⟨by rfl, rfl⟩, fun _ => rfl⟩ ?_
                  try simp only [Act.put, List.setIfInBounds_toArray, List.set_cons_zero, List.set_cons_succ]
                  refine wpAnyIn_take (i := 21) (oi := { dst := Option.some 61, op := Go.Op.pick (Go.Operand.tmp 51) (Go.Operand.const (Go.Value.bool Bool.true)) (Go.Operand.tmp 60), type := 4, pos := "lines.go:63", after := #[{ on := 11, ground := Go.Ground.data }, { on := 20, ground := Go.Ground.data }, { on := 6, ground := Go.Ground.guard }], guard := Option.some (6, Bool.true) }) (v := ?_) rfl rfl (by kernel_rfl) (by kernel_rfl) (by kernel_rfl) (fun _ _ _ h => h) ⟨Or.inl ⟨by rfl, ?_⟩, fun _ => rfl⟩ ?_
                  rotate_left
                  · (intro w; go_simp; try with_reducible rfl)
                  try simp only [Act.put, List.setIfInBounds_toArray, List.set_cons_zero, List.set_cons_succ]
                  refine wpAnyIn_take (i := 22) (oi := { dst := Option.some 62, op := Go.Op.pick (Go.Operand.tmp 46) (Go.Operand.tmp 61) (Go.Operand.const (Go.Value.bool Bool.false)), type := 4, pos := "lines.go:63", after := #[{ on := 6, ground := Go.Ground.data }, { on := 21, ground := Go.Ground.data }], guard := Option.none }) (v := ?_) rfl rfl (by kernel_rfl) (by kernel_rfl) (by kernel_rfl) (fun _ _ _ h => h) ⟨Or.inl ⟨by rfl, ?_⟩, fun _ => rfl⟩ ?_
                  rotate_left
                  · (intro w; go_simp; try with_reducible rfl)
                  try simp only [Act.put, List.setIfInBounds_toArray, List.set_cons_zero, List.set_cons_succ]
                  refine wpAnyIn_done (by kernel_rfl) ?_ _
                  gi_wp2_with fail
                  go_meet
                  exact ⟨false, rfl, Lib.hid (.inr ⟨rfl, _, hk2, HX2.out⟩)⟩
                | true =>
                  have HJ3 : Hid (J (e + 1 + lb + 1) w3) := Lib.hid (by rcases hj with ⟨_, h⟩ | ⟨h, _⟩; exact h; cases h)
                  have ys : w3.cell? ⟨qs, 0, none⟩ = some (.func (.func 108) #[] #[.pointer (some ⟨qy, 0, none⟩), .pointer (some ⟨qt, 0, none⟩), .pointer (some ⟨qs, 0, none⟩)]) := cell_of_one (HE.out.cl _ _ HJ3.out).ks
                  have z15 := ((HBl.out _ _ HJ3.out).cell hb).trans xl
                  have HC := Lib.hid (HEl.out _ HJ3.out)
                  clear hj
                  refine wpAnyIn_take (i := 10) (oi := { dst := Option.some 50, op := Go.Op.unOp Go.UnOp.not 4 (Go.Operand.tmp 49), type := 4, pos := "lines.go:63", after := #[{ on := 9, ground := Go.Ground.data }, { on := 6, ground := Go.Ground.guard }], guard := Option.some (6, Bool.true) }) (v := ?_) rfl rfl (by kernel_rfl) (by kernel_rfl) (by kernel_rfl) (fun _ _ _ h => h) ⟨Or.inl ⟨by rfl, ?_⟩, fun _ => rfl⟩ ?_
                  rotate_left
                  · (intro w; go_simp; try with_reducible rfl)
                  try simp only [Act.put, List.setIfInBounds_toArray, List.set_cons_zero, List.set_cons_succ]
                  refine wpAnyIn_take (i := 11) (oi := { dst := Option.some 51, op := Go.Op.move (Go.Operand.tmp 50), type := 4, pos := "lines.go:63", after := #[{ on := 10, ground := Go.Ground.data }, { on := 9, ground := Go.Ground.chain }, { on := 6, ground := Go.Ground.guard }], guard := Option.some (6, Bool.true) }) (v := ?_) rfl rfl (by kernel_rfl) (by kernel_rfl) (by kernel_rfl) (fun _ _ _ h => h) ⟨Or.inl ⟨by rfl, ?_⟩, fun _ => rfl⟩ ?_
                  rotate_left
                  · (intro w; go_simp; try with_reducible rfl)
                  try simp only [Act.put, List.setIfInBounds_toArray, List.set_cons_zero, List.set_cons_succ]
                  refine wpAnyIn_take (i := 13) (oi := { dst := Option.some 53, op := Go.Op.move (Go.Operand.tmp 9), type := 145, pos := "lines.go:63", after := #[{ on := 11, ground := Go.Ground.guard }], guard := Option.some (11, Bool.false) }) (v := ?_) rfl rfl (by kernel_rfl) (by kernel_rfl) (by kernel_rfl) (fun _ _ _ h => h) ⟨Or.inl ⟨by rfl, ?_⟩, fun _ => rfl⟩ ?_
                  rotate_left
                  · (intro w; go_simp; try with_reducible rfl)
                  try simp only [Act.put, List.setIfInBounds_toArray, List.set_cons_zero, List.set_cons_succ]
                  refine wpAnyIn_take (i := 14) (oi := { dst := Option.some 54, op := Go.Op.nilCheck (Go.Operand.tmp 53), type := 0, pos := "lines.go:63", after := #[{ on := 13, ground := Go.Ground.data }, { on := 11, ground := Go.Ground.guard }], guard := Option.some (11, Bool.false) }) (v := ?_) rfl rfl (by kernel_rfl) (by kernel_rfl) (by kernel_rfl) (fun _ _ _ h => h) ⟨Or.inl ⟨by rfl, ?_⟩, fun _ => rfl⟩ ?_
                  rotate_left
                  · (intro w; go_simp; try with_reducible rfl)
                  try simp only [Act.put, List.setIfInBounds_toArray, List.set_cons_zero, List.set_cons_succ]
                  refine wpAnyIn_take (i := 15) (oi := { dst := Option.some 55, op := Go.Op.fieldAddr 54 (Go.Operand.tmp 54) 9, type := 0, pos := "lines.go:63", after := #[{ on := 14, ground := Go.Ground.data }, { on := 11, ground := Go.Ground.guard }], guard := Option.some (11, Bool.false) }) (v := ?_) rfl rfl (by kernel_rfl) (by kernel_rfl) (by kernel_rfl) (fun _ _ _ h => h) ⟨Or.inl ⟨by rfl, ?_⟩, fun _ => rfl⟩ ?_
                  rotate_left
                  · (intro w; go_simp; try with_reducible rfl)
                  try simp only [Act.put, List.setIfInBounds_toArray, List.set_cons_zero, List.set_cons_succ]
                  refine wpAnyIn_take (i := 17) (oi := { dst := Option.some 57, op := Go.Op.move (Go.Operand.tmp 1), type := 3, pos := "lines.go:63", after := #[{ on := 11, ground := Go.Ground.guard }], guard := Option.some (11, Bool.false) }) (v := ?_) rfl rfl (by kernel_rfl) (by kernel_rfl) (by kernel_rfl) (fun _ _ _ h => h) ⟨Or.inl ⟨by rfl, ?_⟩, fun _ => rfl⟩ ?_
                  rotate_left
                  · (intro w; go_simp; try with_reducible rfl)
                  try simp only [Act.put, List.setIfInBounds_toArray, List.set_cons_zero, List.set_cons_succ]
                  refine wpAnyIn_take (i := 18) (oi := { dst := Option.some 58, op := Go.Op.binOp Go.BinOp.add 3 (Go.Operand.tmp 57) (Go.Operand.const (Go.Value.int Go.IntKind.i64 1)) 3, type := 3, pos := "lines.go:63", after := #[{ on := 17, ground := Go.Ground.data }, { on := 11, ground := Go.Ground.guard }], guard := Option.some (11, Bool.false) }) (v := ?_) rfl rfl (by kernel_rfl) (by kernel_rfl) (by kernel_rfl) (fun _ _ _ h => h) ⟨Or.inl ⟨by rfl, ?_⟩, fun _ => rfl⟩ ?_
                  rotate_left
                  · (intro w; go_simp; try with_reducible rfl)
                  try simp only [Act.put, List.setIfInBounds_toArray, List.set_cons_zero, List.set_cons_succ]
                  refine wpAnyIn_ready (rs := [12, 16]) (by kernel_rfl) (by simp) ?_
                  refine AllReadyIn.cons (o := { dst := Option.some 52, op := Go.Op.load 55 (Go.Operand.tmp 4), type := 55, pos := "lines.go:63", after := #[{ on := 11, ground := Go.Ground.guard }], guard := Option.some (11, Bool.false) }) rfl (fun K hK => ?_) (AllReadyIn.cons (o := { dst := Option.some 56, op := Go.Op.load 47 (Go.Operand.tmp 55), type := 47, pos := "lines.go:63", after := #[{ on := 15, ground := Go.Ground.data }, { on := 11, ground := Go.Ground.guard }], guard := Option.some (11, Bool.false) }) rfl (fun K hK => ?_) AllReadyIn.nil)
                  · go_simp
                    refine hK _ _ ?_
                    clear hK K
                    try simp only [Act.put, List.setIfInBounds_toArray, List.set_cons_zero, List.set_cons_succ]
                    refine wpAnyIn_ready (rs := [16]) (by kernel_rfl) (by simp) ?_
                    refine AllReadyIn.cons (o := { dst := Option.some 56, op := Go.Op.load 47 (Go.Operand.tmp 55), type := 47, pos := "lines.go:63", after := #[{ on := 15, ground := Go.Ground.data }, { on := 11, ground := Go.Ground.guard }], guard := Option.some (11, Bool.false) }) rfl (fun K hK => ?_) AllReadyIn.nil
                    go_simp
                    refine hK _ _ ?_
                    clear hK K
                    try simp only [Act.put, List.setIfInBounds_toArray, List.set_cons_zero, List.set_cons_succ]
                    refine wpAnyIn_ready (rs := [19]) (by kernel_rfl) (by simp) ?_
                    refine AllReadyIn.cons (o := { dst := Option.some 59, op := Go.Op.call { callee := Go.Callee.value (Go.Operand.tmp 52), args := #[Go.Operand.tmp 56, Go.Operand.tmp 58], argTypes := #[47, 3] }, type := 4, pos := "lines.go:63", after := #[{ on := 12, ground := Go.Ground.data }, { on := 16, ground := Go.Ground.data }, { on := 18, ground := Go.Ground.data }, { on := 11, ground := Go.Ground.chain }, { on := 11, ground := Go.Ground.guard }], guard := Option.some (11, Bool.false) }) rfl (fun K hK => ?_) AllReadyIn.nil
                    go_simp
                    refine ⟨trivial, ?_⟩
                    refine (callsIn_wide.2 HC.out).mono ?_
                    rintro z w4 ⟨v4, rfl, hs4⟩
                    refine hK _ _ ?_
                    clear hK K
                    try simp only [Act.put, List.setIfInBounds_toArray, List.set_cons_zero, List.set_cons_succ]
                    refine wpAnyIn_take (i := 20) (oi := { dst := Option.some 60, op := Go.Op.unOp Go.UnOp.not 4 (Go.Operand.tmp 59), type := 4, pos := "lines.go:63", after := #[{ on := 19, ground := Go.Ground.data }, { on := 11, ground := Go.Ground.guard }], guard := Option.some (11, Bool.false) }) (v := ?_) rfl rfl (by kernel_rfl) (by kernel_rfl) (by kernel_rfl) (fun _ _ _ h => h) ⟨Or.inl ⟨by rfl, ?_⟩, fun _ => rfl⟩ ?_
                    rotate_left
                    · (intro w; go_simp; try with_reducible rfl)
                    try simp only [Act.put, List.setIfInBounds_toArray, List.set_cons_zero, List.set_cons_succ]
                    refine wpAnyIn_take (i := 21) (oi := { dst := Option.some 61, op := Go.Op.pick (Go.Operand.tmp 51) (Go.Operand.const (Go.Value.bool Bool.true)) (Go.Operand.tmp 60), type := 4, pos := "lines.go:63", after := #[{ on := 11, ground := Go.Ground.data }, { on := 20, ground := Go.Ground.data }, { on := 6, ground := Go.Ground.guard }], guard := Option.some (6, Bool.true) }) (v := ?_) rfl rfl (by kernel_rfl) (by kernel_rfl) (by kernel_rfl) (fun _ _ _ h => h) ⟨Or.inl ⟨by rfl, ?_⟩, fun _ => rfl⟩ ?_
                    rotate_left
                    · (intro w; go_simp; try with_reducible rfl)
                    try simp only [Act.put, List.setIfInBounds_toArray, List.set_cons_zero, List.set_cons_succ]
                    refine wpAnyIn_take (i := 22) (oi := { dst := Option.some 62, op := Go.Op.pick (Go.Operand.tmp 46) (Go.Operand.tmp 61) (Go.Operand.const (Go.Value.bool Bool.false)), type := 4, pos := "lines.go:63", after := #[{ on := 6, ground := Go.Ground.data }, { on := 21, ground := Go.Ground.data }], guard := Option.none }) (v := ?_) rfl rfl (by kernel_rfl) (by kernel_rfl) (by kernel_rfl) (fun _ _ _ h => h) ⟨Or.inl ⟨by rfl, ?_⟩, fun _ => rfl⟩ ?_
                    rotate_left
                    · (intro w; go_simp; try with_reducible rfl)
                    try simp only [Act.put, List.setIfInBounds_toArray, List.set_cons_zero, List.set_cons_succ]
                    refine wpAnyIn_done (by kernel_rfl) ?_ _
                    gi_wp2_with fail
                    go_meet
                    exact ⟨v4, rfl, Lib.hid (hs4)⟩
                  · go_simp
                    refine hK _ _ ?_
                    clear hK K
                    try simp only [Act.put, List.setIfInBounds_toArray, List.set_cons_zero, List.set_cons_succ]
                    refine wpAnyIn_ready (rs := [12]) (by kernel_rfl) (by simp) ?_
                    refine AllReadyIn.cons (o := { dst := Option.some 52, op := Go.Op.load 55 (Go.Operand.tmp 4), type := 55, pos := "lines.go:63", after := #[{ on := 11, ground := Go.Ground.guard }], guard := Option.some (11, Bool.false) }) rfl (fun K hK => ?_) AllReadyIn.nil
                    go_simp
                    refine hK _ _ ?_
                    clear hK K
                    try simp only [Act.put, List.setIfInBounds_toArray, List.set_cons_zero, List.set_cons_succ]
                    refine wpAnyIn_ready (rs := [19]) (by kernel_rfl) (by simp) ?_
                    refine AllReadyIn.cons (o := { dst := Option.some 59, op := Go.Op.call { callee := Go.Callee.value (Go.Operand.tmp 52), args := #[Go.Operand.tmp 56, Go.Operand.tmp 58], argTypes := #[47, 3] }, type := 4, pos := "lines.go:63", after := #[{ on := 12, ground := Go.Ground.data }, { on := 16, ground := Go.Ground.data }, { on := 18, ground := Go.Ground.data }, { on := 11, ground := Go.Ground.chain }, { on := 11, ground := Go.Ground.guard }], guard := Option.some (11, Bool.false) }) rfl (fun K hK => ?_) AllReadyIn.nil
                    go_simp
                    refine ⟨trivial, ?_⟩
                    refine (callsIn_wide.2 HC.out).mono ?_
                    rintro z w4 ⟨v4, rfl, hs4⟩
                    refine hK _ _ ?_
                    clear hK K
                    try simp only [Act.put, List.setIfInBounds_toArray, List.set_cons_zero, List.set_cons_succ]
                    refine wpAnyIn_take (i := 20) (oi := { dst := Option.some 60, op := Go.Op.unOp Go.UnOp.not 4 (Go.Operand.tmp 59), type := 4, pos := "lines.go:63", after := #[{ on := 19, ground := Go.Ground.data }, { on := 11, ground := Go.Ground.guard }], guard := Option.some (11, Bool.false) }) (v := ?_) rfl rfl (by kernel_rfl) (by kernel_rfl) (by kernel_rfl) (fun _ _ _ h => h) ⟨Or.inl ⟨by rfl, ?_⟩, fun _ => rfl⟩ ?_
                    rotate_left
                    · (intro w; go_simp; try with_reducible rfl)
                    try simp only [Act.put, List.setIfInBounds_toArray, List.set_cons_zero, List.set_cons_succ]
                    refine wpAnyIn_take (i := 21) (oi := { dst := Option.some 61, op := Go.Op.pick (Go.Operand.tmp 51) (Go.Operand.const (Go.Value.bool Bool.true)) (Go.Operand.tmp 60), type := 4, pos := "lines.go:63", after := #[{ on := 11, ground := Go.Ground.data }, { on := 20, ground := Go.Ground.data }, { on := 6, ground := Go.Ground.guard }], guard := Option.some (6, Bool.true) }) (v := ?_) rfl rfl (by kernel_rfl) (by kernel_rfl) (by kernel_rfl) (fun _ _ _ h => h) ⟨Or.inl ⟨by rfl, ?_⟩, fun _ => rfl⟩ ?_
                    rotate_left
                    · (intro w; go_simp; try with_reducible rfl)
                    try simp only [Act.put, List.setIfInBounds_toArray, List.set_cons_zero, List.set_cons_succ]
                    refine wpAnyIn_take (i := 22) (oi := { dst := Option.some 62, op := Go.Op.pick (Go.Operand.tmp 46) (Go.Operand.tmp 61) (Go.Operand.const (Go.Value.bool Bool.false)), type := 4, pos := "lines.go:63", after := #[{ on := 6, ground := Go.Ground.data }, { on := 21, ground := Go.Ground.data }], guard := Option.none }) (v := ?_) rfl rfl (by kernel_rfl) (by kernel_rfl) (by kernel_rfl) (fun _ _ _ h => h) ⟨Or.inl ⟨by rfl, ?_⟩, fun _ => rfl⟩ ?_
                    rotate_left
                    · (intro w; go_simp; try with_reducible rfl)
                    try simp only [Act.put, List.setIfInBounds_toArray, List.set_cons_zero, List.set_cons_succ]
                    refine wpAnyIn_done (by kernel_rfl) ?_ _
                    gi_wp2_with fail
                    go_meet
                    exact ⟨v4, rfl, Lib.hid (hs4)⟩
            case rest =>
              obtain ⟨q, rfl, hj⟩ := hcut
              clear z15 HJd2 HJ2 hB2
              rcases hj.out with ⟨rfl, hj1⟩ | ⟨rfl, hj1⟩
              rotate_left
              · have HX1 := Lib.hid hj1
                clear hj1 hj
                go_wp2_with fail
                go_ret
                exact ⟨false, rfl, .inr ⟨rfl, HX1.out⟩⟩
              have HJ3 := Lib.hid hj1
              clear hj1 hj
              have HS2 := Lib.hid (show Seg L (e3 + 1) (r.flatMap (fun x => x.lines t)) ∧ e3 + 1 + (r.flatMap (fun x => x.lines t)).length = tot ∧ ∀ y ∈ r.flatMap (fun x => x.lines t), y.2.length ≤ 1000000 from ⟨hsgR, hto, hll2⟩)
              have y1 : wc.cell? ⟨qy, 0, none⟩ = some (.func (.yield l) #[] #[]) := cell_of_one (HE.out.cl _ _ HJ3.out).ky
              have hyl := Lib.hid (HE.out.yl _ _ wc hlast HJ3.out)
              clear hsg2 hsgR hto hll2 hlast hie hE hle
              go_upto_region 12 with fail
              refine (wpIn_wide (n := M + 1)).1 ?_
              obtain ⟨fn, tmps, assign, body, hy, hR⟩ := hyl.out
              simp only [encL] at hy
              rw [show str [125] = ⟨#[125]⟩ from rfl] at hy
              gi_wp2_with fail
              refine hR.mono ?_
              rintro z w3 ⟨v, rfl, hj⟩
              clear hy hR y1
              rcases hj with ⟨rfl, hj1⟩ | ⟨rfl, hj1⟩
              · have HJ4 := Lib.hid hj1
                clear hj1
                gi_wp2_with fail
                go_wp2_with fail
                go_roundw
                case rel => exact ⟨k + 1, e3 + 1, r, by go_num, by omega, Lib.hid fun x hx => hmem.out x (List.mem_cons_of_mem _ hx), Lib.hid fun b' o' e' _ => by cases e'; rw [show o + (k + 1) * 16 = o + k * 16 + 16 by omega]; exact HR.out, HS2, HJ4⟩
                case measure => simp [intOf]; omega
              · have HX4 := Lib.hid hj1
                clear hj1
                gi_wp2_with fail
                go_wp2_with fail
                go_ret
                exact ⟨false, rfl, .inr ⟨rfl, e3 + 1, he3L, HX4.out⟩⟩
end Go.Proofs.YtlhbledakddbbaaGreatDoor
/- The lines of any statements, as an iterator hands them on. -/
namespace Go.Proofs.YtlhbledakddbbaaGreatDoor
open Go.RowKit
attribute [local go_sem] Oper.semAt_some

theorem stmtLines_any (p : Option Addr) (n c : Nat) (w : World) : Calls Tryz.prog 72 #[.slice p n c] w fun e w' => ∃ bx, e = .returned (.func (.func 107) #[] #[.pointer (some ⟨bx, 0, none⟩)]) ∧ w'.heap[bx]? = some (.cells #[.slice p n c] 47 (0, 0)) ∧ w.heap.size ≤ bx ∧ Below w.heap.size w w' := by
  go_enter Tryz.func72, Tryz.ntmps72
  go_wp2_with fail
  go_ret
  exact ⟨_, rfl, heap_alloc_new w _, Nat.le_refl _, (Below.refl _ w).alloc (Nat.le_refl _) _⟩
theorem shn_all {l M N qy qt qs m : Nat} {w0 : World} {L : List (Nat × List UInt8)} {J Jx : Nat → World → Prop} (E : ShEnv l M N qy qt qs m w0 L J Jx) : ∀ n, ShN qy qt qs w0 L J Jx n
  | 0 => fun _ h => by omega
  | n + 1 => shn_step E n (shn_all E n)
theorem buf_teller (c : Array Value) (fr : Nat × Nat) : ¬ isBuf (.cells c 68 fr) := by intro h; rcases h with h | h <;> exact absurd h (by decide)
theorem buf_show (c : Array Value) (fr : Nat × Nat) : ¬ isBuf (.cells c 55 fr) := by intro h; rcases h with h | h <;> exact absurd h (by decide)
theorem newTeller_new (w : World) : Calls Tryz.prog 36 #[] w fun e w' => ∃ m, e = .returned (.agg #[.map (some m)]) ∧ w'.heap[m]? = some (fmap signT) ∧ w.heap.size ≤ m ∧ Below w.heap.size w w' := by
  have HC := Lib.hid (signs_any (w.alloc (.cells #[.map none] 68)))
  go_enter Tryz.func36, Tryz.ntmps36
  go_wp2_with fail
  refine HC.out.mono ?_
  rintro e w2 ⟨m, rfl, hmp, hmb, hB2⟩
  have hg : w2.heap[w.heap.size]? = some (.cells #[.map none] 68 (0, 0)) := (hB2.block _ (by simp)).trans (heap_alloc_new w _)
  have c0 := cell_of_one hg
  have z0 := free_of_one hg
  have HM := Lib.hid (And.intro hmp hmb)
  have HB := Lib.hid (((Below.refl _ w).alloc (Nat.le_refl _) (.cells #[.map none] 68)).trans (hB2.mono (by simp)))
  clear hmp hmb hB2 hg
  go_wp2_with fail
  have hc := World.cell?_setCell_same w2 ⟨w.heap.size, 0, none⟩ (.map (some m)) c0
  refine bodyPost_ret (v := .agg #[.map (some m)]) (by simp [results, Tryz.results36, go_sem, hc]) rfl ⟨m, rfl, ?_, ?_, HB.out.setCell (Nat.le_refl _) _⟩
  · rw [Below.heap_setCell _ _ _ _ (by have := HM.out.2; simp at this; show m ≠ w.heap.size; omega)]
    exact HM.out.1
  · have := HM.out.2; simp at this; omega

set_option maxRecDepth 100000 in
set_option maxHeartbeats 3200000 in
theorem stmtLines1_all (ls : Sts) (p : Option Addr) (c bx n : Nat) (w0 wx : World) (hmay : ls.may = true) (hd : ls.deep ≤ 900) (hlen : ∀ y ∈ ls.lines 0, y.2.length ≤ 1000000) (hin : ls.In w0 w0.heap.size p) (hG0 : Glob w0)
    (hx : wx.heap[bx]? = some (.cells #[.slice p ls.len c] 47 (0, 0))) :
    SeqOwn (fun A => Below w0.heap.size w0 A) Fence.wide n Tryz.prog 107 #[.pointer (some ⟨bx, 0, none⟩)] encL (ls.lines 0) wx := by
  intro l J Jx W hW hJ hJx hG hY h0
  refine callsIn_wide.2 ?_
  have hbz := Nat.lt_of_lt_of_le (lt_of_block hx) hW.size
  have HX := Lib.hid ((hW.block _ (lt_of_block hx)).trans hx)
  have HT := Lib.hid (newTeller_new (W.alloc (.cells #[.func (.yield l) #[] #[]] 117)))
  have HJ := Lib.hid hJ
  have HY := Lib.hid (fun k x W1 hx hj => jj_of (hY k x W1 hx hj))
  have HG := Lib.hid hG
  have HJ0 := Lib.hid h0
  clear hJ hJx hG hY h0 hx hW
  show Calls Tryz.prog 107 #[.func (.yield l) #[] #[], .pointer (some ⟨bx, 0, none⟩)] W _
  go_enter Tryz.func107, Tryz.ntmps107
  go_wp2_with fail
  refine HT.out.mono ?_
  rintro e w2 ⟨m, rfl, hmp, hmW, hB2⟩
  have hzW : (W.alloc (.cells #[.func (.yield l) #[] #[]] 117)).heap.size = W.heap.size + 1 := by simp
  have HB2 := Lib.hid (((Below.refl _ W).alloc (Nat.le_refl _) _).trans (hB2.mono (by simp)))
  have hky : w2.heap[W.heap.size]? = some (.cells #[.func (.yield l) #[] #[]] 117 (0, 0)) := (hB2.block _ (by simp)).trans (heap_alloc_new W _)
  have cx := cell_of_one ((HB2.out.block bx hbz).trans HX.out)
  have hbz2 : bx < w2.heap.size := Nat.lt_of_lt_of_le hbz HB2.out.size
  have HK := Lib.hid (And.intro hky (And.intro hmp hmW))
  clear hB2 hky hmp hmW
  have cv : ((w2.alloc (.cells #[.map (some m)] 68)).alloc (.cells #[.nilFunc] 55)).cell? ⟨w2.heap.size + 1, 0, none⟩ = some .nilFunc := World.cell?_alloc2_new _ _ _ _
  have fv : ((w2.alloc (.cells #[.map (some m)] 68)).alloc (.cells #[.nilFunc] 55)).frozen? ⟨w2.heap.size + 1, 0, none⟩ = false := World.frozen?_alloc2_new _ _ _ _
  go_wp2_with fail
  obtain ⟨w3, hw3⟩ : ∃ w3, (w2.alloc (.cells #[.map (some m)] 68)).alloc (.cells #[.func (.func 108) #[] #[.pointer (some ⟨W.heap.size, 0, none⟩), .pointer (some ⟨w2.heap.size, 0, none⟩), .pointer (some ⟨w2.heap.size + 1, 0, none⟩)]] 55) = w3 := ⟨_, rfl⟩
  have kt : w3.heap[w2.heap.size]? = some (.cells #[.map (some m)] 68 (0, 0)) := by rw [← hw3, Below.heap_alloc _ _ _ (by simp)]; exact heap_alloc_new w2 _
  have ks : w3.heap[w2.heap.size + 1]? = some (.cells #[.func (.func 108) #[] #[.pointer (some ⟨W.heap.size, 0, none⟩), .pointer (some ⟨w2.heap.size, 0, none⟩), .pointer (some ⟨w2.heap.size + 1, 0, none⟩)]] 55 (0, 0)) := by
    rw [← hw3]; have := heap_alloc_new (w2.alloc (.cells #[.map (some m)] 68)) (.cells #[.func (.func 108) #[] #[.pointer (some ⟨W.heap.size, 0, none⟩), .pointer (some ⟨w2.heap.size, 0, none⟩), .pointer (some ⟨w2.heap.size + 1, 0, none⟩)]] 55); simpa using this
  have hB3 : Below w2.heap.size w2 w3 := by rw [← hw3]; exact ((Below.refl _ w2).alloc (Nat.le_refl _) _).alloc (by simp) _
  have hz3 : w3.heap.size = w2.heap.size + 2 := by rw [← hw3]; simp
  have hmz : m < w2.heap.size := lt_of_block HK.out.2.1
  have hmW : W.heap.size ≤ m := by have := HK.out.2.2; omega
  have hzz : W.heap.size < w2.heap.size := lt_of_block HK.out.1
  have ky := (hB3.block _ hzz).trans HK.out.1
  have km := (hB3.block _ hmz).trans HK.out.2.1
  rw [hw3]
  clear hw3
  have E : ShEnv l (n - 1) (w2.heap.size + 2) W.heap.size w2.heap.size (w2.heap.size + 1) m w0 (ls.lines 0) (fun k A => J k A ∧ ShC l W.heap.size w2.heap.size (w2.heap.size + 1) m A ∧ w2.heap.size + 2 ≤ A.heap.size) Jx :=
    { gl := hG0
      mv := fun k A B h hAB => ⟨HJ.out k A B h.1 (hAB.mono (by omega)), ⟨(hAB.bel.block _ (by omega)).trans h.2.1.ky, (hAB.bel.block _ (by omega)).trans h.2.1.kt, (hAB.bel.block _ (by omega)).trans h.2.1.ks, (hAB.bel.block _ (by omega)).trans h.2.1.km⟩, Nat.le_trans h.2.2 hAB.bel.size⟩
      bel := fun k A h => HG.out k A h.1
      hn := fun k A h => h.2.2
      cl := fun k A h => h.2.1
      yl := fun k x W1 hx hj => by
        obtain ⟨fn, tmps, assign, body, hy, hR⟩ := HY.out k x W1 hx hj.1
        refine ⟨fn, tmps, assign, body, hy, hR.mono ?_⟩
        rintro e w ⟨v, rfl, hjj, hU⟩
        refine ⟨v, rfl, ?_⟩
        rcases hjj with ⟨rfl, h⟩ | ⟨rfl, h⟩
        · exact .inl ⟨rfl, h, ⟨hU.same _ _ hj.2.1.ky (by omega) (buf_fn _ _), hU.same _ _ hj.2.1.kt (by omega) (buf_teller _ _), hU.same _ _ hj.2.1.ks (by omega) (buf_show _ _), hU.same _ _ hj.2.1.km hmW (fun h => h)⟩, Nat.le_trans hj.2.2 hU.size⟩
        · exact .inr ⟨rfl, h⟩ }
  have HC := shn_all E (ls.size + 1) ls (Nat.lt_succ_self _) 0 0 p c w3 hmay (by omega) hlen hin (Seg.all _) ⟨HJ.out 0 W w3 HJ0.out (Rn.of_below (HB2.out.trans (hB3.mono HB2.out.size)) (Nat.le_refl _)), ⟨ky, kt, ks, km⟩, by omega⟩
  rw [Nat.zero_add, show ((0 : Nat) : Int) = 0 from rfl] at HC
  refine HC.mono ?_
  rintro e w4 ⟨v, rfl, hs⟩
  have HS := Lib.hid hs
  clear E HC hs kt ks ky km hB3 hz3
  go_wp2_with fail
  go_end0
  refine ⟨⟨_, rfl⟩, ?_⟩
  rcases HS.out with ⟨_, h⟩ | ⟨_, h⟩
  · exact .inl h.1
  · exact .inr h
end Go.Proofs.YtlhbledakddbbaaGreatDoor
/- What a statement has besides is nothing: the program's isZeroStmt. -/
namespace Go.Proofs.YtlhbledakddbbaaGreatDoor
open Go.RowKit

set_option maxRecDepth 100000 in
set_option maxHeartbeats 6400000 in
theorem isZeroSt_any (x : St) (hk : x.kind = 0) (s : StP) (N : Nat) (w : World) (hN : N ≤ w.heap.size) (hx : x.Ok w N s) :
    Calls Tryz.prog 137 #[x.val s] w fun e w' => e = .returned (.bool x.isZero) ∧ Below w.heap.size w w' := by
  obtain ⟨A1, hA1⟩ : ∃ A1, x.cells s = A1 := ⟨_, rfl⟩
  obtain ⟨W1, hW1⟩ : ∃ W1, w.alloc (Obj.cells A1 54) = W1 := ⟨_, rfl⟩
  have hB1 : Below w.heap.size w W1 := by rw [← hW1]; exact (Below.refl _ w).alloc (Nat.le_refl _) _
  have hX : ∀ j z, (x.cells s)[j]? = some z → W1.cell? ⟨w.heap.size, j, none⟩ = some z := fun j z hz => by rw [← hW1]; exact cell_block (heap_alloc_new w _) (by rw [← hA1]; exact hz)
  have HB := Lib.hid hB1
  have ok := hx.later (hB1.mono hN) (Nat.le_refl N)
  unfold St.val
  rw [hA1]
  obtain ⟨kd, nm, ns, e, a, g, lo, hi, bd, el⟩ := x
  obtain rfl : kd = 0 := hk
  have HZe := Lib.hid (isZero_any e w.heap.size 3 N W1 (exAt_ofOk ok.2.1 (hX 3 _ rfl) (hX 4 _ rfl) (hX 5 _ rfl) (hX 6 _ rfl)))
  have HZa := Lib.hid (isZero_any a w.heap.size 7 N W1 (exAt_ofOk ok.2.2.1 (hX 7 _ rfl) (hX 8 _ rfl) (hX 9 _ rfl) (hX 10 _ rfl)))
  have c0 : W1.cell? ⟨w.heap.size, 0, none⟩ = some (.int .i64 0) := hX 0 _ rfl
  have c1 : W1.cell? ⟨w.heap.size, 1, none⟩ = some (.string (str nm)) := hX 1 _ rfl
  have c2 : W1.cell? ⟨w.heap.size, 2, none⟩ = some (.slice s.pn ns.length s.cn) := hX 2 _ rfl
  have c11 : W1.cell? ⟨w.heap.size, 11, none⟩ = some (.slice s.pg g.len s.cg) := hX 11 _ rfl
  have c12 : W1.cell? ⟨w.heap.size, 12, none⟩ = some (.int .u64 (lo : Int)) := hX 12 _ rfl
  have c13 : W1.cell? ⟨w.heap.size, 13, none⟩ = some (.int .u64 (hi : Int)) := hX 13 _ rfl
  have c14 : W1.cell? ⟨w.heap.size, 14, none⟩ = some (.slice s.pb bd.len s.cb) := hX 14 _ rfl
  have c15 : W1.cell? ⟨w.heap.size, 15, none⟩ = some (.slice s.pl el.len s.cl) := hX 15 _ rfl
  have hm2 := ok.1.2.1
  have hm11 := ok.2.2.2.1.1
  have hm14 := ok.2.2.2.2.1.1
  have hm15 := ok.2.2.2.2.2.1.1
  unfold St.isZero
  simp only []
  have es : (str nm).toList.isEmpty = nm.isEmpty := by rw [Lib.toList_data, str_data]
  clear ok hX hx hB1 hN hA1
  generalize ns.length = n2 at *
  generalize g.len = n11 at *
  generalize bd.len = n14 at *
  generalize el.len = n15 at *
  generalize e.none = ze at *
  generalize a.none = za at *
  go_enter Tryz.func137, Tryz.ntmps137
  cases hn : nm.isEmpty with
  | false =>
    rw [hn] at es
    have e0 : ¬ (str nm).toList = [] := by intro h; rw [h] at es; cases es
    go_wp2_with fail
    go_ret
    exact ⟨by simp, HB.out⟩
  | true =>
    rw [hn] at es
    have e0 : (str nm).toList = [] := by simpa using es
    by_cases hn2 : n2 = 0
    · subst hn2
      cases ze with
      | false =>
        go_wp2_with fail
        refine (HZe.out).mono ?_
        rintro z w2 ⟨rfl, rfl⟩
        go_wp2_with fail
        go_ret
        exact ⟨by simp, HB.out⟩
      | true =>
        cases za with
        | false =>
          go_wp2_with fail
          refine (HZe.out).mono ?_
          rintro z w2 ⟨rfl, rfl⟩
          go_wp2_with fail
          refine (HZa.out).mono ?_
          rintro z w2 ⟨rfl, rfl⟩
          go_wp2_with fail
          go_ret
          exact ⟨by simp, HB.out⟩
        | true =>
          by_cases hn11 : n11 = 0
          · subst hn11
            by_cases hlo : lo = 0
            · subst hlo
              by_cases hhi : hi = 0
              · subst hhi
                by_cases hn14 : n14 = 0
                · subst hn14
                  by_cases hn15 : n15 = 0
                  · subst hn15
                    go_wp2_with fail
                    refine (HZe.out).mono ?_
                    rintro z w2 ⟨rfl, rfl⟩
                    go_wp2_with fail
                    refine (HZa.out).mono ?_
                    rintro z w2 ⟨rfl, rfl⟩
                    go_wp2_with fail
                    go_ret
                    exact ⟨by simp, HB.out⟩
                  · have fn15 : ((n15 : Int) == 0) = false := by simp; omega
                    go_wp2_with fail
                    refine (HZe.out).mono ?_
                    rintro z w2 ⟨rfl, rfl⟩
                    go_wp2_with fail
                    refine (HZa.out).mono ?_
                    rintro z w2 ⟨rfl, rfl⟩
                    go_wp2_with fail
                    go_ret
                    exact ⟨by simp, HB.out⟩
                · have fn14 : ((n14 : Int) == 0) = false := by simp; omega
                  go_wp2_with fail
                  refine (HZe.out).mono ?_
                  rintro z w2 ⟨rfl, rfl⟩
                  go_wp2_with fail
                  refine (HZa.out).mono ?_
                  rintro z w2 ⟨rfl, rfl⟩
                  go_wp2_with fail
                  go_ret
                  exact ⟨by simp, HB.out⟩
              · have fhi : ((hi : Int) == 0) = false := by simp; omega
                go_wp2_with fail
                refine (HZe.out).mono ?_
                rintro z w2 ⟨rfl, rfl⟩
                go_wp2_with fail
                refine (HZa.out).mono ?_
                rintro z w2 ⟨rfl, rfl⟩
                go_wp2_with fail
                go_ret
                exact ⟨by simp, HB.out⟩
            · have flo : ((lo : Int) == 0) = false := by simp; omega
              go_wp2_with fail
              refine (HZe.out).mono ?_
              rintro z w2 ⟨rfl, rfl⟩
              go_wp2_with fail
              refine (HZa.out).mono ?_
              rintro z w2 ⟨rfl, rfl⟩
              go_wp2_with fail
              go_ret
              exact ⟨by simp, HB.out⟩
          · have fn11 : ((n11 : Int) == 0) = false := by simp; omega
            go_wp2_with fail
            refine (HZe.out).mono ?_
            rintro z w2 ⟨rfl, rfl⟩
            go_wp2_with fail
            refine (HZa.out).mono ?_
            rintro z w2 ⟨rfl, rfl⟩
            go_wp2_with fail
            go_ret
            exact ⟨by simp, HB.out⟩
    · have fn2 : ((n2 : Int) == 0) = false := by simp; omega
      go_wp2_with fail
      go_ret
      exact ⟨by simp [hn2], HB.out⟩
end Go.Proofs.YtlhbledakddbbaaGreatDoor
/- Which statements can be told: the program's mayStmt. -/
namespace Go.Proofs.YtlhbledakddbbaaGreatDoor
open Go.RowKit

theorem set_eq (A : Array Value) (o : Nat) (vs B : Array Value) (h : putA A o vs = B) : putA A o vs = B := h
theorem E0_ok {w : World} {N : Nat} : E0.Ok w N none := ⟨Exs.In.nil _ _ _, by decide⟩
theorem nilIn {w : World} {N : Nat} {p : Option Addr} : Sts.nil.In w N p := ⟨Nat.zero_le _, .inl rfl⟩
theorem nilExs {w : World} {N : Nat} {p : Option Addr} : Exs.nil.In w N p := Exs.In.nil _ _ _
theorem nilRow {w : World} {N : Nat} {p : Option Addr} : RowIn N (StrAt w) 1 [] p := ⟨Nat.zero_le _, .inl rfl⟩
/-- an every over statements, of a bound -/
def EvS (n : Nat) : Prop := ∀ (l : Sts), l.size ≤ n → ∀ (p : Option Addr) (c N : Nat) (w : World), N ≤ w.heap.size → l.In w N p →
    Calls Tryz.prog 105 #[.slice p l.len c, .func (.func 106) #[] #[]] w fun e w' => e = .returned (.bool l.may) ∧ Below w.heap.size w w'

set_option maxRecDepth 100000 in
set_option maxHeartbeats 6400000 in
theorem mayStmt_1 (n : Nat) (_hEv : EvS n) (nm : List UInt8) (ns : List (List UInt8)) (e a : Ex) (g : Exs) (lo hi : Nat) (bd el : Sts) (_hb : bd.size ≤ n) (_hl : el.size ≤ n) (s : StP) (N : Nat) (w : World) (hN : N ≤ w.heap.size) (hx : (St.mk 1 nm ns e a g lo hi bd el).Ok w N s) :
    Calls Tryz.prog 106 #[(St.mk 1 nm ns e a g lo hi bd el).val s] w fun z w' => z = .returned (.bool (St.mk 1 nm ns e a g lo hi bd el).may) ∧ Below w.heap.size w w' := by
  obtain ⟨A1, hA1⟩ : ∃ A1, A1 = (#[.int .i64 1, .string (str nm), .slice s.pn ns.length s.cn, .int .i64 e.op, .int .u64 (e.word : Int), .string (str e.name), .slice s.pe e.args.len s.ce, .int .i64 a.op, .int .u64 (a.word : Int), .string (str a.name), .slice s.pa a.args.len s.ca, .slice s.pg g.len s.cg, .int .u64 (lo : Int), .int .u64 (hi : Int), .slice s.pb bd.len s.cb, .slice s.pl el.len s.cl] : Array Value) := ⟨_, rfl⟩
  obtain ⟨W1, hW1⟩ : ∃ W1, w.alloc (Obj.cells A1 54) = W1 := ⟨_, rfl⟩
  obtain ⟨W2, hW2⟩ : ∃ W2, W1.alloc (Obj.cells A1 54) = W2 := ⟨_, rfl⟩
  have hB1 : Below w.heap.size w W1 := by rw [← hW1]; exact (Below.refl _ w).alloc (Nat.le_refl _) _
  have hz1 : W1.heap.size = w.heap.size + 1 := by rw [← hW1]; simp
  have HZ1 := Lib.hid (show A1.size = 16 by rw [hA1]; rfl)
  have HO1 := Lib.hid (show A1.all (·.oneCell') = true by rw [hA1]; simp [Value.oneCell'])
  have HI1 := Lib.hid (infoSt.trans (by rw [HZ1.out]) : (Tryz.prog.info? 54).map (·.size) = some A1.size)
  have F2 := Lib.hid (show W1.rangeAt w.heap.size 0 A1.toList by rw [← hW1]; exact range_new w A1 _)
  have k10 : W2.heap[w.heap.size]? = some (.cells A1 54 (0, 0)) := by rw [← hW2, Below.heap_alloc _ _ _ (by omega), ← hW1]; exact heap_alloc_new w _
  have k20 : W2.heap[W1.heap.size]? = some (.cells A1 54 (0, 0)) := by rw [← hW2]; exact heap_alloc_new W1 _
  have HB2 := Lib.hid (show Below w.heap.size w W2 by rw [← hW2]; exact hB1.alloc (by omega) _)
  have hz2 : W2.heap.size = W1.heap.size + 1 := by rw [← hW2]; simp
  have Hnm := Lib.hid (fun w => name_any (str nm) w)
  rw [str_data] at Hnm
  have He := Lib.hid (fun (w1 : World) (hB : Below w.heap.size w w1) => mayExpr_any e s.pe s.ce N w1 (Nat.le_trans hN hB.size) (hx.2.1.later (hB.mono hN) (Nat.le_refl N)))
  unfold Ex.val at He
  have HZr := Lib.hid (fun (w1 : World) (hB : Below w.heap.size w w1) => isZeroSt_any (St.mk 0 [] ns E0 a g lo hi bd el) rfl ⟨s.pn, none, s.pa, s.pg, s.pb, s.pl, s.cn, 0, s.ca, s.cg, s.cb, s.cl⟩ N w1 (Nat.le_trans hN hB.size) (St.Ok.later (x := St.mk 0 [] ns E0 a g lo hi bd el) (s := ⟨s.pn, none, s.pa, s.pg, s.pb, s.pl, s.cn, 0, s.ca, s.cg, s.cb, s.cl⟩) (show St.Ok w N (St.mk 0 [] ns E0 a g lo hi bd el) ⟨s.pn, none, s.pa, s.pg, s.pb, s.pl, s.cn, 0, s.ca, s.cg, s.cb, s.cl⟩ from ⟨hx.1, E0_ok, hx.2.2.1, hx.2.2.2.1, hx.2.2.2.2.1, hx.2.2.2.2.2.1, hx.2.2.2.2.2.2⟩) (hB.mono hN) (Nat.le_refl N)))
  unfold St.val at HZr
  rw [st_may_1]
  clear hx _hEv
  generalize nameB nm = znm at *
  generalize e.may = ze at *
  generalize (St.mk 0 [] ns E0 a g lo hi bd el).isZero = zz at *
  show Calls _ _ #[.agg #[.int .i64 1, .string (str nm), .slice s.pn ns.length s.cn, .int .i64 e.op, .int .u64 (e.word : Int), .string (str e.name), .slice s.pe e.args.len s.ce, .int .i64 a.op, .int .u64 (a.word : Int), .string (str a.name), .slice s.pa a.args.len s.ca, .slice s.pg g.len s.cg, .int .u64 (lo : Int), .int .u64 (hi : Int), .slice s.pb bd.len s.cb, .slice s.pl el.len s.cl]] w _
  rw [← hA1]
  have HA1 := Lib.hid hA1
  have HZz := Lib.hid hz1
  clear hB1 hA1 hz1 hz2
  go_enter Tryz.func106, Tryz.ntmps106
  go_upto_region 3 with (first | (refine wpl_load rfl 54 _ rfl w.heap.size 0 rfl A1 _ F2.out Tryz.underlying54 rfl HI1.out ?_) | (refine wpl_store_new rfl 54 _ _ rfl _ A1 _ rfl rfl (by rw [HZ1.out]; rfl) HI1.out HO1.out ?_; rw [hW2]))
  rw [HA1.out] at k10 k20
  clear HA1 hW1 hW2 HZ1 HO1 HI1 F2
  have K1 := Lib.hid k10
  have K2 := Lib.hid k20
  clear k10 k20
  go_upto_region 4 with (refine wpl_put rfl _ _ _ rfl rfl W1.heap.size _ _ rfl rfl _ _ K2.out (by exact Nat.le_of_ble_eq_true rfl) (by kernel_rfl) (by rfl) ?_; intro wq hk _hb; replace K1 := Lib.hid ((_hb.block _ (lt_of_block K1.out) (by have := HZz.out; omega)).trans K1.out); replace K2 := Lib.hid hk; replace HB2 := Lib.hid (_hb.below HB2.out (by have := HZz.out; omega) HB2.out.size); clear hk _hb)
  have d0 := cell_block K1.out (j := 0) (v := .int .i64 1) rfl
  have d1 := cell_block K1.out (j := 1) (v := .string (str nm)) rfl
  go_wp2_with fail
  refine (Hnm.out _).mono ?_
  rintro z w5 ⟨rfl, rfl⟩
  clear d1
  cases znm with
  | false =>
    go_wp2_with (refine wpl_put rfl _ _ _ rfl rfl W1.heap.size _ _ rfl rfl _ _ K2.out (by exact Nat.le_of_ble_eq_true rfl) (by kernel_rfl) (by rfl) ?_; intro wq hk _hb; replace K1 := Lib.hid ((_hb.block _ (lt_of_block K1.out) (by have := HZz.out; omega)).trans K1.out); replace K2 := Lib.hid hk; replace HB2 := Lib.hid (_hb.below HB2.out (by have := HZz.out; omega) HB2.out.size); clear hk _hb)
    go_ret
    exact ⟨by simp, HB2.out⟩
  | true =>
    have d3 := cell_block K1.out (j := 3) (v := .int .i64 e.op) rfl
    have d4 := cell_block K1.out (j := 4) (v := .int .u64 (e.word : Int)) rfl
    have d5 := cell_block K1.out (j := 5) (v := .string (str e.name)) rfl
    have d6 := cell_block K1.out (j := 6) (v := .slice s.pe e.args.len s.ce) rfl
    go_wp2_with fail
    refine (He.out _ HB2.out).mono ?_
    rintro z w5 ⟨rfl, hB⟩
    replace K1 := Lib.hid ((hB.block _ (lt_of_block K1.out)).trans K1.out)
    replace K2 := Lib.hid ((hB.block _ (lt_of_block K2.out)).trans K2.out)
    replace HB2 := Lib.hid (HB2.out.trans (hB.mono HB2.out.size))
    clear hB
    clear d3 d4 d5 d6
    cases ze with
    | false =>
      go_wp2_with (refine wpl_put rfl _ _ _ rfl rfl W1.heap.size _ _ rfl rfl _ _ K2.out (by exact Nat.le_of_ble_eq_true rfl) (by kernel_rfl) (by rfl) ?_; intro wq hk _hb; replace K1 := Lib.hid ((_hb.block _ (lt_of_block K1.out) (by have := HZz.out; omega)).trans K1.out); replace K2 := Lib.hid hk; replace HB2 := Lib.hid (_hb.below HB2.out (by have := HZz.out; omega) HB2.out.size); clear hk _hb)
      go_ret
      exact ⟨by simp, HB2.out⟩
    | true =>
      go_wp2_with (first | (refine wpl_load_if (by rfl) 54 _ rfl W1.heap.size 0 rfl ((St.mk 0 [] ns E0 a g lo hi bd el).cells ⟨s.pn, none, s.pa, s.pg, s.pb, s.pl, s.cn, 0, s.ca, s.cg, s.cb, s.cl⟩) _ (range_block K2.out) Tryz.underlying54 rfl (infoSt.trans rfl) ?_) | (refine wpl_put rfl _ _ _ rfl rfl W1.heap.size _ _ rfl rfl _ _ K2.out (by exact Nat.le_of_ble_eq_true rfl) (by kernel_rfl) (by rfl) ?_; intro wq hk _hb; replace K1 := Lib.hid ((_hb.block _ (lt_of_block K1.out) (by have := HZz.out; omega)).trans K1.out); replace K2 := Lib.hid hk; replace HB2 := Lib.hid (_hb.below HB2.out (by have := HZz.out; omega) HB2.out.size); clear hk _hb))
      refine (HZr.out _ HB2.out).mono ?_
      rintro z w5 ⟨rfl, hB⟩
      replace HB2 := Lib.hid (HB2.out.trans (hB.mono HB2.out.size))
      go_wp2_with fail
      go_ret
      exact ⟨by simp, HB2.out⟩
set_option maxRecDepth 100000 in
set_option maxHeartbeats 6400000 in
theorem mayStmt_2 (n : Nat) (_hEv : EvS n) (nm : List UInt8) (ns : List (List UInt8)) (e a : Ex) (g : Exs) (lo hi : Nat) (bd el : Sts) (_hb : bd.size ≤ n) (_hl : el.size ≤ n) (s : StP) (N : Nat) (w : World) (hN : N ≤ w.heap.size) (hx : (St.mk 2 nm ns e a g lo hi bd el).Ok w N s) :
    Calls Tryz.prog 106 #[(St.mk 2 nm ns e a g lo hi bd el).val s] w fun z w' => z = .returned (.bool (St.mk 2 nm ns e a g lo hi bd el).may) ∧ Below w.heap.size w w' := by
  obtain ⟨A1, hA1⟩ : ∃ A1, A1 = (#[.int .i64 2, .string (str nm), .slice s.pn ns.length s.cn, .int .i64 e.op, .int .u64 (e.word : Int), .string (str e.name), .slice s.pe e.args.len s.ce, .int .i64 a.op, .int .u64 (a.word : Int), .string (str a.name), .slice s.pa a.args.len s.ca, .slice s.pg g.len s.cg, .int .u64 (lo : Int), .int .u64 (hi : Int), .slice s.pb bd.len s.cb, .slice s.pl el.len s.cl] : Array Value) := ⟨_, rfl⟩
  obtain ⟨W1, hW1⟩ : ∃ W1, w.alloc (Obj.cells A1 54) = W1 := ⟨_, rfl⟩
  obtain ⟨W2, hW2⟩ : ∃ W2, W1.alloc (Obj.cells A1 54) = W2 := ⟨_, rfl⟩
  have hB1 : Below w.heap.size w W1 := by rw [← hW1]; exact (Below.refl _ w).alloc (Nat.le_refl _) _
  have hz1 : W1.heap.size = w.heap.size + 1 := by rw [← hW1]; simp
  have HZ1 := Lib.hid (show A1.size = 16 by rw [hA1]; rfl)
  have HO1 := Lib.hid (show A1.all (·.oneCell') = true by rw [hA1]; simp [Value.oneCell'])
  have HI1 := Lib.hid (infoSt.trans (by rw [HZ1.out]) : (Tryz.prog.info? 54).map (·.size) = some A1.size)
  have F2 := Lib.hid (show W1.rangeAt w.heap.size 0 A1.toList by rw [← hW1]; exact range_new w A1 _)
  have k10 : W2.heap[w.heap.size]? = some (.cells A1 54 (0, 0)) := by rw [← hW2, Below.heap_alloc _ _ _ (by omega), ← hW1]; exact heap_alloc_new w _
  have k20 : W2.heap[W1.heap.size]? = some (.cells A1 54 (0, 0)) := by rw [← hW2]; exact heap_alloc_new W1 _
  have HB2 := Lib.hid (show Below w.heap.size w W2 by rw [← hW2]; exact hB1.alloc (by omega) _)
  have hz2 : W2.heap.size = W1.heap.size + 1 := by rw [← hW2]; simp
  have Hnm := Lib.hid (fun w => name_any (str nm) w)
  rw [str_data] at Hnm
  have Ha := Lib.hid (fun (w1 : World) (hB : Below w.heap.size w w1) => mayExpr_any a s.pa s.ca N w1 (Nat.le_trans hN hB.size) (hx.2.2.1.later (hB.mono hN) (Nat.le_refl N)))
  have He := Lib.hid (fun (w1 : World) (hB : Below w.heap.size w w1) => mayExpr_any e s.pe s.ce N w1 (Nat.le_trans hN hB.size) (hx.2.1.later (hB.mono hN) (Nat.le_refl N)))
  unfold Ex.val at He
  unfold Ex.val at Ha
  have HZr := Lib.hid (fun (w1 : World) (hB : Below w.heap.size w w1) => isZeroSt_any (St.mk 0 [] ns E0 E0 g lo hi bd el) rfl ⟨s.pn, none, none, s.pg, s.pb, s.pl, s.cn, 0, 0, s.cg, s.cb, s.cl⟩ N w1 (Nat.le_trans hN hB.size) (St.Ok.later (x := St.mk 0 [] ns E0 E0 g lo hi bd el) (s := ⟨s.pn, none, none, s.pg, s.pb, s.pl, s.cn, 0, 0, s.cg, s.cb, s.cl⟩) (show St.Ok w N (St.mk 0 [] ns E0 E0 g lo hi bd el) ⟨s.pn, none, none, s.pg, s.pb, s.pl, s.cn, 0, 0, s.cg, s.cb, s.cl⟩ from ⟨hx.1, E0_ok, E0_ok, hx.2.2.2.1, hx.2.2.2.2.1, hx.2.2.2.2.2.1, hx.2.2.2.2.2.2⟩) (hB.mono hN) (Nat.le_refl N)))
  unfold St.val at HZr
  rw [st_may_2]
  clear hx _hEv
  generalize nameB nm = znm at *
  generalize a.may = za at *
  generalize e.may = ze at *
  generalize (St.mk 0 [] ns E0 E0 g lo hi bd el).isZero = zz at *
  show Calls _ _ #[.agg #[.int .i64 2, .string (str nm), .slice s.pn ns.length s.cn, .int .i64 e.op, .int .u64 (e.word : Int), .string (str e.name), .slice s.pe e.args.len s.ce, .int .i64 a.op, .int .u64 (a.word : Int), .string (str a.name), .slice s.pa a.args.len s.ca, .slice s.pg g.len s.cg, .int .u64 (lo : Int), .int .u64 (hi : Int), .slice s.pb bd.len s.cb, .slice s.pl el.len s.cl]] w _
  rw [← hA1]
  have HA1 := Lib.hid hA1
  have HZz := Lib.hid hz1
  clear hB1 hA1 hz1 hz2
  go_enter Tryz.func106, Tryz.ntmps106
  go_upto_region 3 with (first | (refine wpl_load rfl 54 _ rfl w.heap.size 0 rfl A1 _ F2.out Tryz.underlying54 rfl HI1.out ?_) | (refine wpl_store_new rfl 54 _ _ rfl _ A1 _ rfl rfl (by rw [HZ1.out]; rfl) HI1.out HO1.out ?_; rw [hW2]))
  rw [HA1.out] at k10 k20
  clear HA1 hW1 hW2 HZ1 HO1 HI1 F2
  have K1 := Lib.hid k10
  have K2 := Lib.hid k20
  clear k10 k20
  go_upto_region 4 with (refine wpl_put rfl _ _ _ rfl rfl W1.heap.size _ _ rfl rfl _ _ K2.out (by exact Nat.le_of_ble_eq_true rfl) (by kernel_rfl) (by rfl) ?_; intro wq hk _hb; replace K1 := Lib.hid ((_hb.block _ (lt_of_block K1.out) (by have := HZz.out; omega)).trans K1.out); replace K2 := Lib.hid hk; replace HB2 := Lib.hid (_hb.below HB2.out (by have := HZz.out; omega) HB2.out.size); clear hk _hb)
  have d0 := cell_block K1.out (j := 0) (v := .int .i64 2) rfl
  have d1 := cell_block K1.out (j := 1) (v := .string (str nm)) rfl
  go_wp2_with fail
  refine (Hnm.out _).mono ?_
  rintro z w5 ⟨rfl, rfl⟩
  clear d1
  cases znm with
  | false =>
    go_wp2_with (refine wpl_put rfl _ _ _ rfl rfl W1.heap.size _ _ rfl rfl _ _ K2.out (by exact Nat.le_of_ble_eq_true rfl) (by kernel_rfl) (by rfl) ?_; intro wq hk _hb; replace K1 := Lib.hid ((_hb.block _ (lt_of_block K1.out) (by have := HZz.out; omega)).trans K1.out); replace K2 := Lib.hid hk; replace HB2 := Lib.hid (_hb.below HB2.out (by have := HZz.out; omega) HB2.out.size); clear hk _hb)
    go_ret
    exact ⟨by simp, HB2.out⟩
  | true =>
    have d7 := cell_block K1.out (j := 7) (v := .int .i64 a.op) rfl
    have d8 := cell_block K1.out (j := 8) (v := .int .u64 (a.word : Int)) rfl
    have d9 := cell_block K1.out (j := 9) (v := .string (str a.name)) rfl
    have d10 := cell_block K1.out (j := 10) (v := .slice s.pa a.args.len s.ca) rfl
    go_wp2_with fail
    refine (Ha.out _ HB2.out).mono ?_
    rintro z w5 ⟨rfl, hB⟩
    replace K1 := Lib.hid ((hB.block _ (lt_of_block K1.out)).trans K1.out)
    replace K2 := Lib.hid ((hB.block _ (lt_of_block K2.out)).trans K2.out)
    replace HB2 := Lib.hid (HB2.out.trans (hB.mono HB2.out.size))
    clear hB
    clear d7 d8 d9 d10
    cases za with
    | false =>
      go_wp2_with (refine wpl_put rfl _ _ _ rfl rfl W1.heap.size _ _ rfl rfl _ _ K2.out (by exact Nat.le_of_ble_eq_true rfl) (by kernel_rfl) (by rfl) ?_; intro wq hk _hb; replace K1 := Lib.hid ((_hb.block _ (lt_of_block K1.out) (by have := HZz.out; omega)).trans K1.out); replace K2 := Lib.hid hk; replace HB2 := Lib.hid (_hb.below HB2.out (by have := HZz.out; omega) HB2.out.size); clear hk _hb)
      go_ret
      exact ⟨by simp, HB2.out⟩
    | true =>
      have d3 := cell_block K1.out (j := 3) (v := .int .i64 e.op) rfl
      have d4 := cell_block K1.out (j := 4) (v := .int .u64 (e.word : Int)) rfl
      have d5 := cell_block K1.out (j := 5) (v := .string (str e.name)) rfl
      have d6 := cell_block K1.out (j := 6) (v := .slice s.pe e.args.len s.ce) rfl
      go_wp2_with fail
      refine (He.out _ HB2.out).mono ?_
      rintro z w5 ⟨rfl, hB⟩
      replace K1 := Lib.hid ((hB.block _ (lt_of_block K1.out)).trans K1.out)
      replace K2 := Lib.hid ((hB.block _ (lt_of_block K2.out)).trans K2.out)
      replace HB2 := Lib.hid (HB2.out.trans (hB.mono HB2.out.size))
      clear hB
      clear d3 d4 d5 d6
      cases ze with
      | false =>
        go_wp2_with (refine wpl_put rfl _ _ _ rfl rfl W1.heap.size _ _ rfl rfl _ _ K2.out (by exact Nat.le_of_ble_eq_true rfl) (by kernel_rfl) (by rfl) ?_; intro wq hk _hb; replace K1 := Lib.hid ((_hb.block _ (lt_of_block K1.out) (by have := HZz.out; omega)).trans K1.out); replace K2 := Lib.hid hk; replace HB2 := Lib.hid (_hb.below HB2.out (by have := HZz.out; omega) HB2.out.size); clear hk _hb)
        go_ret
        exact ⟨by simp, HB2.out⟩
      | true =>
        go_wp2_with (first | (refine wpl_load_if (by rfl) 54 _ rfl W1.heap.size 0 rfl ((St.mk 0 [] ns E0 E0 g lo hi bd el).cells ⟨s.pn, none, none, s.pg, s.pb, s.pl, s.cn, 0, 0, s.cg, s.cb, s.cl⟩) _ (range_block K2.out) Tryz.underlying54 rfl (infoSt.trans rfl) ?_) | (refine wpl_put rfl _ _ _ rfl rfl W1.heap.size _ _ rfl rfl _ _ K2.out (by exact Nat.le_of_ble_eq_true rfl) (by kernel_rfl) (by rfl) ?_; intro wq hk _hb; replace K1 := Lib.hid ((_hb.block _ (lt_of_block K1.out) (by have := HZz.out; omega)).trans K1.out); replace K2 := Lib.hid hk; replace HB2 := Lib.hid (_hb.below HB2.out (by have := HZz.out; omega) HB2.out.size); clear hk _hb))
        refine (HZr.out _ HB2.out).mono ?_
        rintro z w5 ⟨rfl, hB⟩
        replace HB2 := Lib.hid (HB2.out.trans (hB.mono HB2.out.size))
        go_wp2_with fail
        go_ret
        exact ⟨by simp, HB2.out⟩
set_option maxRecDepth 100000 in
set_option maxHeartbeats 6400000 in
theorem mayStmt_3 (n : Nat) (hEv : EvS n) (nm : List UInt8) (ns : List (List UInt8)) (e a : Ex) (g : Exs) (lo hi : Nat) (bd el : Sts) (hb : bd.size ≤ n) (hl : el.size ≤ n) (s : StP) (N : Nat) (w : World) (hN : N ≤ w.heap.size) (hx : (St.mk 3 nm ns e a g lo hi bd el).Ok w N s) :
    Calls Tryz.prog 106 #[(St.mk 3 nm ns e a g lo hi bd el).val s] w fun z w' => z = .returned (.bool (St.mk 3 nm ns e a g lo hi bd el).may) ∧ Below w.heap.size w w' := by
  obtain ⟨A1, hA1⟩ : ∃ A1, A1 = (#[.int .i64 3, .string (str nm), .slice s.pn ns.length s.cn, .int .i64 e.op, .int .u64 (e.word : Int), .string (str e.name), .slice s.pe e.args.len s.ce, .int .i64 a.op, .int .u64 (a.word : Int), .string (str a.name), .slice s.pa a.args.len s.ca, .slice s.pg g.len s.cg, .int .u64 (lo : Int), .int .u64 (hi : Int), .slice s.pb bd.len s.cb, .slice s.pl el.len s.cl] : Array Value) := ⟨_, rfl⟩
  obtain ⟨W1, hW1⟩ : ∃ W1, w.alloc (Obj.cells A1 54) = W1 := ⟨_, rfl⟩
  obtain ⟨W2, hW2⟩ : ∃ W2, W1.alloc (Obj.cells A1 54) = W2 := ⟨_, rfl⟩
  have hB1 : Below w.heap.size w W1 := by rw [← hW1]; exact (Below.refl _ w).alloc (Nat.le_refl _) _
  have hz1 : W1.heap.size = w.heap.size + 1 := by rw [← hW1]; simp
  have HZ1 := Lib.hid (show A1.size = 16 by rw [hA1]; rfl)
  have HO1 := Lib.hid (show A1.all (·.oneCell') = true by rw [hA1]; simp [Value.oneCell'])
  have HI1 := Lib.hid (infoSt.trans (by rw [HZ1.out]) : (Tryz.prog.info? 54).map (·.size) = some A1.size)
  have F2 := Lib.hid (show W1.rangeAt w.heap.size 0 A1.toList by rw [← hW1]; exact range_new w A1 _)
  have k10 : W2.heap[w.heap.size]? = some (.cells A1 54 (0, 0)) := by rw [← hW2, Below.heap_alloc _ _ _ (by omega), ← hW1]; exact heap_alloc_new w _
  have k20 : W2.heap[W1.heap.size]? = some (.cells A1 54 (0, 0)) := by rw [← hW2]; exact heap_alloc_new W1 _
  have HB2 := Lib.hid (show Below w.heap.size w W2 by rw [← hW2]; exact hB1.alloc (by omega) _)
  have hz2 : W2.heap.size = W1.heap.size + 1 := by rw [← hW2]; simp
  have He := Lib.hid (fun (w1 : World) (hB : Below w.heap.size w w1) => mayExpr_any e s.pe s.ce N w1 (Nat.le_trans hN hB.size) (hx.2.1.later (hB.mono hN) (Nat.le_refl N)))
  have Hbd := Lib.hid (fun (w1 : World) (hB : Below w.heap.size w w1) => hEv bd hb s.pb s.cb N w1 (Nat.le_trans hN hB.size) (hx.2.2.2.2.1.later (hB.mono hN) (Nat.le_refl N)))
  have Hel := Lib.hid (fun (w1 : World) (hB : Below w.heap.size w w1) => hEv el hl s.pl s.cl N w1 (Nat.le_trans hN hB.size) (hx.2.2.2.2.2.1.later (hB.mono hN) (Nat.le_refl N)))
  unfold Ex.val at He
  have HZr := Lib.hid (fun (w1 : World) (hB : Below w.heap.size w w1) => isZeroSt_any (St.mk 0 nm ns E0 a g lo hi .nil .nil) rfl ⟨s.pn, none, s.pa, s.pg, none, none, s.cn, 0, s.ca, s.cg, 0, 0⟩ N w1 (Nat.le_trans hN hB.size) (St.Ok.later (x := St.mk 0 nm ns E0 a g lo hi .nil .nil) (s := ⟨s.pn, none, s.pa, s.pg, none, none, s.cn, 0, s.ca, s.cg, 0, 0⟩) (show St.Ok w N (St.mk 0 nm ns E0 a g lo hi .nil .nil) ⟨s.pn, none, s.pa, s.pg, none, none, s.cn, 0, s.ca, s.cg, 0, 0⟩ from ⟨hx.1, E0_ok, hx.2.2.1, hx.2.2.2.1, nilIn, nilIn, hx.2.2.2.2.2.2⟩) (hB.mono hN) (Nat.le_refl N)))
  unfold St.val at HZr
  rw [st_may_3]
  clear hx hEv
  generalize e.may = ze at *
  generalize bd.may = zbd at *
  generalize el.may = zel at *
  generalize (St.mk 0 nm ns E0 a g lo hi .nil .nil).isZero = zz at *
  show Calls _ _ #[.agg #[.int .i64 3, .string (str nm), .slice s.pn ns.length s.cn, .int .i64 e.op, .int .u64 (e.word : Int), .string (str e.name), .slice s.pe e.args.len s.ce, .int .i64 a.op, .int .u64 (a.word : Int), .string (str a.name), .slice s.pa a.args.len s.ca, .slice s.pg g.len s.cg, .int .u64 (lo : Int), .int .u64 (hi : Int), .slice s.pb bd.len s.cb, .slice s.pl el.len s.cl]] w _
  rw [← hA1]
  have HA1 := Lib.hid hA1
  have HZz := Lib.hid hz1
  clear hB1 hA1 hz1 hz2
  go_enter Tryz.func106, Tryz.ntmps106
  go_upto_region 3 with (first | (refine wpl_load rfl 54 _ rfl w.heap.size 0 rfl A1 _ F2.out Tryz.underlying54 rfl HI1.out ?_) | (refine wpl_store_new rfl 54 _ _ rfl _ A1 _ rfl rfl (by rw [HZ1.out]; rfl) HI1.out HO1.out ?_; rw [hW2]))
  rw [HA1.out] at k10 k20
  clear HA1 hW1 hW2 HZ1 HO1 HI1 F2
  have K1 := Lib.hid k10
  have K2 := Lib.hid k20
  clear k10 k20
  go_upto_region 4 with (refine wpl_put rfl _ _ _ rfl rfl W1.heap.size _ _ rfl rfl _ _ K2.out (by exact Nat.le_of_ble_eq_true rfl) (by kernel_rfl) (by rfl) ?_; intro wq hk hb; replace K1 := Lib.hid ((hb.block _ (lt_of_block K1.out) (by have := HZz.out; omega)).trans K1.out); replace K2 := Lib.hid hk; replace HB2 := Lib.hid (hb.below HB2.out (by have := HZz.out; omega) HB2.out.size); clear hk hb)
  have d0 := cell_block K1.out (j := 0) (v := .int .i64 3) rfl
  have d3 := cell_block K1.out (j := 3) (v := .int .i64 e.op) rfl
  have d4 := cell_block K1.out (j := 4) (v := .int .u64 (e.word : Int)) rfl
  have d5 := cell_block K1.out (j := 5) (v := .string (str e.name)) rfl
  have d6 := cell_block K1.out (j := 6) (v := .slice s.pe e.args.len s.ce) rfl
  go_wp2_with fail
  refine (He.out _ HB2.out).mono ?_
  rintro z w5 ⟨rfl, hB⟩
  replace K1 := Lib.hid ((hB.block _ (lt_of_block K1.out)).trans K1.out)
  replace K2 := Lib.hid ((hB.block _ (lt_of_block K2.out)).trans K2.out)
  replace HB2 := Lib.hid (HB2.out.trans (hB.mono HB2.out.size))
  clear hB
  clear d3 d4 d5 d6
  cases ze with
  | false =>
    go_wp2_with (refine wpl_put rfl _ _ _ rfl rfl W1.heap.size _ _ rfl rfl _ _ K2.out (by exact Nat.le_of_ble_eq_true rfl) (by kernel_rfl) (by rfl) ?_; intro wq hk hb; replace K1 := Lib.hid ((hb.block _ (lt_of_block K1.out) (by have := HZz.out; omega)).trans K1.out); replace K2 := Lib.hid hk; replace HB2 := Lib.hid (hb.below HB2.out (by have := HZz.out; omega) HB2.out.size); clear hk hb)
    go_ret
    exact ⟨by simp, HB2.out⟩
  | true =>
    have d14 := cell_block K1.out (j := 14) (v := .slice s.pb bd.len s.cb) rfl
    go_wp2_with fail
    refine (Hbd.out _ HB2.out).mono ?_
    rintro z w5 ⟨rfl, hB⟩
    replace K1 := Lib.hid ((hB.block _ (lt_of_block K1.out)).trans K1.out)
    replace K2 := Lib.hid ((hB.block _ (lt_of_block K2.out)).trans K2.out)
    replace HB2 := Lib.hid (HB2.out.trans (hB.mono HB2.out.size))
    clear hB
    clear d14
    cases zbd with
    | false =>
      go_wp2_with (refine wpl_put rfl _ _ _ rfl rfl W1.heap.size _ _ rfl rfl _ _ K2.out (by exact Nat.le_of_ble_eq_true rfl) (by kernel_rfl) (by rfl) ?_; intro wq hk hb; replace K1 := Lib.hid ((hb.block _ (lt_of_block K1.out) (by have := HZz.out; omega)).trans K1.out); replace K2 := Lib.hid hk; replace HB2 := Lib.hid (hb.below HB2.out (by have := HZz.out; omega) HB2.out.size); clear hk hb)
      go_ret
      exact ⟨by simp, HB2.out⟩
    | true =>
      have d15 := cell_block K1.out (j := 15) (v := .slice s.pl el.len s.cl) rfl
      go_wp2_with fail
      refine (Hel.out _ HB2.out).mono ?_
      rintro z w5 ⟨rfl, hB⟩
      replace K1 := Lib.hid ((hB.block _ (lt_of_block K1.out)).trans K1.out)
      replace K2 := Lib.hid ((hB.block _ (lt_of_block K2.out)).trans K2.out)
      replace HB2 := Lib.hid (HB2.out.trans (hB.mono HB2.out.size))
      clear hB
      clear d15
      cases zel with
      | false =>
        go_wp2_with (refine wpl_put rfl _ _ _ rfl rfl W1.heap.size _ _ rfl rfl _ _ K2.out (by exact Nat.le_of_ble_eq_true rfl) (by kernel_rfl) (by rfl) ?_; intro wq hk hb; replace K1 := Lib.hid ((hb.block _ (lt_of_block K1.out) (by have := HZz.out; omega)).trans K1.out); replace K2 := Lib.hid hk; replace HB2 := Lib.hid (hb.below HB2.out (by have := HZz.out; omega) HB2.out.size); clear hk hb)
        go_ret
        exact ⟨by simp, HB2.out⟩
      | true =>
        go_wp2_with (first | (refine wpl_load_if (by rfl) 54 _ rfl W1.heap.size 0 rfl ((St.mk 0 nm ns E0 a g lo hi .nil .nil).cells ⟨s.pn, none, s.pa, s.pg, none, none, s.cn, 0, s.ca, s.cg, 0, 0⟩) _ (range_block K2.out) Tryz.underlying54 rfl (infoSt.trans rfl) ?_) | (refine wpl_put rfl _ _ _ rfl rfl W1.heap.size _ _ rfl rfl _ _ K2.out (by exact Nat.le_of_ble_eq_true rfl) (by kernel_rfl) (by rfl) ?_; intro wq hk hb; replace K1 := Lib.hid ((hb.block _ (lt_of_block K1.out) (by have := HZz.out; omega)).trans K1.out); replace K2 := Lib.hid hk; replace HB2 := Lib.hid (hb.below HB2.out (by have := HZz.out; omega) HB2.out.size); clear hk hb))
        refine (HZr.out _ HB2.out).mono ?_
        rintro z w5 ⟨rfl, hB⟩
        replace HB2 := Lib.hid (HB2.out.trans (hB.mono HB2.out.size))
        go_wp2_with fail
        go_ret
        exact ⟨by simp, HB2.out⟩
set_option maxRecDepth 100000 in
set_option maxHeartbeats 6400000 in
theorem mayStmt_4 (n : Nat) (hEv : EvS n) (nm : List UInt8) (ns : List (List UInt8)) (e a : Ex) (g : Exs) (lo hi : Nat) (bd el : Sts) (hb : bd.size ≤ n) (_hl : el.size ≤ n) (s : StP) (N : Nat) (w : World) (hN : N ≤ w.heap.size) (hx : (St.mk 4 nm ns e a g lo hi bd el).Ok w N s) :
    Calls Tryz.prog 106 #[(St.mk 4 nm ns e a g lo hi bd el).val s] w fun z w' => z = .returned (.bool (St.mk 4 nm ns e a g lo hi bd el).may) ∧ Below w.heap.size w w' := by
  obtain ⟨A1, hA1⟩ : ∃ A1, A1 = (#[.int .i64 4, .string (str nm), .slice s.pn ns.length s.cn, .int .i64 e.op, .int .u64 (e.word : Int), .string (str e.name), .slice s.pe e.args.len s.ce, .int .i64 a.op, .int .u64 (a.word : Int), .string (str a.name), .slice s.pa a.args.len s.ca, .slice s.pg g.len s.cg, .int .u64 (lo : Int), .int .u64 (hi : Int), .slice s.pb bd.len s.cb, .slice s.pl el.len s.cl] : Array Value) := ⟨_, rfl⟩
  obtain ⟨W1, hW1⟩ : ∃ W1, w.alloc (Obj.cells A1 54) = W1 := ⟨_, rfl⟩
  obtain ⟨W2, hW2⟩ : ∃ W2, W1.alloc (Obj.cells A1 54) = W2 := ⟨_, rfl⟩
  have hB1 : Below w.heap.size w W1 := by rw [← hW1]; exact (Below.refl _ w).alloc (Nat.le_refl _) _
  have hz1 : W1.heap.size = w.heap.size + 1 := by rw [← hW1]; simp
  have HZ1 := Lib.hid (show A1.size = 16 by rw [hA1]; rfl)
  have HO1 := Lib.hid (show A1.all (·.oneCell') = true by rw [hA1]; simp [Value.oneCell'])
  have HI1 := Lib.hid (infoSt.trans (by rw [HZ1.out]) : (Tryz.prog.info? 54).map (·.size) = some A1.size)
  have F2 := Lib.hid (show W1.rangeAt w.heap.size 0 A1.toList by rw [← hW1]; exact range_new w A1 _)
  have k10 : W2.heap[w.heap.size]? = some (.cells A1 54 (0, 0)) := by rw [← hW2, Below.heap_alloc _ _ _ (by omega), ← hW1]; exact heap_alloc_new w _
  have k20 : W2.heap[W1.heap.size]? = some (.cells A1 54 (0, 0)) := by rw [← hW2]; exact heap_alloc_new W1 _
  have HB2 := Lib.hid (show Below w.heap.size w W2 by rw [← hW2]; exact hB1.alloc (by omega) _)
  have hz2 : W2.heap.size = W1.heap.size + 1 := by rw [← hW2]; simp
  have He := Lib.hid (fun (w1 : World) (hB : Below w.heap.size w w1) => mayExpr_any e s.pe s.ce N w1 (Nat.le_trans hN hB.size) (hx.2.1.later (hB.mono hN) (Nat.le_refl N)))
  have Hbd := Lib.hid (fun (w1 : World) (hB : Below w.heap.size w w1) => hEv bd hb s.pb s.cb N w1 (Nat.le_trans hN hB.size) (hx.2.2.2.2.1.later (hB.mono hN) (Nat.le_refl N)))
  unfold Ex.val at He
  have HZr := Lib.hid (fun (w1 : World) (hB : Below w.heap.size w w1) => isZeroSt_any (St.mk 0 nm ns E0 a g lo hi .nil el) rfl ⟨s.pn, none, s.pa, s.pg, none, s.pl, s.cn, 0, s.ca, s.cg, 0, s.cl⟩ N w1 (Nat.le_trans hN hB.size) (St.Ok.later (x := St.mk 0 nm ns E0 a g lo hi .nil el) (s := ⟨s.pn, none, s.pa, s.pg, none, s.pl, s.cn, 0, s.ca, s.cg, 0, s.cl⟩) (show St.Ok w N (St.mk 0 nm ns E0 a g lo hi .nil el) ⟨s.pn, none, s.pa, s.pg, none, s.pl, s.cn, 0, s.ca, s.cg, 0, s.cl⟩ from ⟨hx.1, E0_ok, hx.2.2.1, hx.2.2.2.1, nilIn, hx.2.2.2.2.2.1, hx.2.2.2.2.2.2⟩) (hB.mono hN) (Nat.le_refl N)))
  unfold St.val at HZr
  rw [st_may_4]
  clear hx hEv
  generalize e.may = ze at *
  generalize bd.may = zbd at *
  generalize (St.mk 0 nm ns E0 a g lo hi .nil el).isZero = zz at *
  show Calls _ _ #[.agg #[.int .i64 4, .string (str nm), .slice s.pn ns.length s.cn, .int .i64 e.op, .int .u64 (e.word : Int), .string (str e.name), .slice s.pe e.args.len s.ce, .int .i64 a.op, .int .u64 (a.word : Int), .string (str a.name), .slice s.pa a.args.len s.ca, .slice s.pg g.len s.cg, .int .u64 (lo : Int), .int .u64 (hi : Int), .slice s.pb bd.len s.cb, .slice s.pl el.len s.cl]] w _
  rw [← hA1]
  have HA1 := Lib.hid hA1
  have HZz := Lib.hid hz1
  clear hB1 hA1 hz1 hz2
  go_enter Tryz.func106, Tryz.ntmps106
  go_upto_region 3 with (first | (refine wpl_load rfl 54 _ rfl w.heap.size 0 rfl A1 _ F2.out Tryz.underlying54 rfl HI1.out ?_) | (refine wpl_store_new rfl 54 _ _ rfl _ A1 _ rfl rfl (by rw [HZ1.out]; rfl) HI1.out HO1.out ?_; rw [hW2]))
  rw [HA1.out] at k10 k20
  clear HA1 hW1 hW2 HZ1 HO1 HI1 F2
  have K1 := Lib.hid k10
  have K2 := Lib.hid k20
  clear k10 k20
  go_upto_region 4 with (refine wpl_put rfl _ _ _ rfl rfl W1.heap.size _ _ rfl rfl _ _ K2.out (by exact Nat.le_of_ble_eq_true rfl) (by kernel_rfl) (by rfl) ?_; intro wq hk hb; replace K1 := Lib.hid ((hb.block _ (lt_of_block K1.out) (by have := HZz.out; omega)).trans K1.out); replace K2 := Lib.hid hk; replace HB2 := Lib.hid (hb.below HB2.out (by have := HZz.out; omega) HB2.out.size); clear hk hb)
  have d0 := cell_block K1.out (j := 0) (v := .int .i64 4) rfl
  have d3 := cell_block K1.out (j := 3) (v := .int .i64 e.op) rfl
  have d4 := cell_block K1.out (j := 4) (v := .int .u64 (e.word : Int)) rfl
  have d5 := cell_block K1.out (j := 5) (v := .string (str e.name)) rfl
  have d6 := cell_block K1.out (j := 6) (v := .slice s.pe e.args.len s.ce) rfl
  go_wp2_with fail
  refine (He.out _ HB2.out).mono ?_
  rintro z w5 ⟨rfl, hB⟩
  replace K1 := Lib.hid ((hB.block _ (lt_of_block K1.out)).trans K1.out)
  replace K2 := Lib.hid ((hB.block _ (lt_of_block K2.out)).trans K2.out)
  replace HB2 := Lib.hid (HB2.out.trans (hB.mono HB2.out.size))
  clear hB
  clear d3 d4 d5 d6
  cases ze with
  | false =>
    go_wp2_with (refine wpl_put rfl _ _ _ rfl rfl W1.heap.size _ _ rfl rfl _ _ K2.out (by exact Nat.le_of_ble_eq_true rfl) (by kernel_rfl) (by rfl) ?_; intro wq hk hb; replace K1 := Lib.hid ((hb.block _ (lt_of_block K1.out) (by have := HZz.out; omega)).trans K1.out); replace K2 := Lib.hid hk; replace HB2 := Lib.hid (hb.below HB2.out (by have := HZz.out; omega) HB2.out.size); clear hk hb)
    go_ret
    exact ⟨by simp, HB2.out⟩
  | true =>
    have d14 := cell_block K1.out (j := 14) (v := .slice s.pb bd.len s.cb) rfl
    go_wp2_with fail
    refine (Hbd.out _ HB2.out).mono ?_
    rintro z w5 ⟨rfl, hB⟩
    replace K1 := Lib.hid ((hB.block _ (lt_of_block K1.out)).trans K1.out)
    replace K2 := Lib.hid ((hB.block _ (lt_of_block K2.out)).trans K2.out)
    replace HB2 := Lib.hid (HB2.out.trans (hB.mono HB2.out.size))
    clear hB
    clear d14
    cases zbd with
    | false =>
      go_wp2_with (refine wpl_put rfl _ _ _ rfl rfl W1.heap.size _ _ rfl rfl _ _ K2.out (by exact Nat.le_of_ble_eq_true rfl) (by kernel_rfl) (by rfl) ?_; intro wq hk hb; replace K1 := Lib.hid ((hb.block _ (lt_of_block K1.out) (by have := HZz.out; omega)).trans K1.out); replace K2 := Lib.hid hk; replace HB2 := Lib.hid (hb.below HB2.out (by have := HZz.out; omega) HB2.out.size); clear hk hb)
      go_ret
      exact ⟨by simp, HB2.out⟩
    | true =>
      go_wp2_with (first | (refine wpl_load_if (by rfl) 54 _ rfl W1.heap.size 0 rfl ((St.mk 0 nm ns E0 a g lo hi .nil el).cells ⟨s.pn, none, s.pa, s.pg, none, s.pl, s.cn, 0, s.ca, s.cg, 0, s.cl⟩) _ (range_block K2.out) Tryz.underlying54 rfl (infoSt.trans rfl) ?_) | (refine wpl_put rfl _ _ _ rfl rfl W1.heap.size _ _ rfl rfl _ _ K2.out (by exact Nat.le_of_ble_eq_true rfl) (by kernel_rfl) (by rfl) ?_; intro wq hk hb; replace K1 := Lib.hid ((hb.block _ (lt_of_block K1.out) (by have := HZz.out; omega)).trans K1.out); replace K2 := Lib.hid hk; replace HB2 := Lib.hid (hb.below HB2.out (by have := HZz.out; omega) HB2.out.size); clear hk hb))
      refine (HZr.out _ HB2.out).mono ?_
      rintro z w5 ⟨rfl, hB⟩
      replace HB2 := Lib.hid (HB2.out.trans (hB.mono HB2.out.size))
      go_wp2_with fail
      go_ret
      exact ⟨by simp, HB2.out⟩
set_option maxRecDepth 100000 in
set_option maxHeartbeats 6400000 in
theorem mayStmt_5 (n : Nat) (hEv : EvS n) (nm : List UInt8) (ns : List (List UInt8)) (e a : Ex) (g : Exs) (lo hi : Nat) (bd el : Sts) (hb : bd.size ≤ n) (_hl : el.size ≤ n) (s : StP) (N : Nat) (w : World) (hN : N ≤ w.heap.size) (hx : (St.mk 5 nm ns e a g lo hi bd el).Ok w N s) :
    Calls Tryz.prog 106 #[(St.mk 5 nm ns e a g lo hi bd el).val s] w fun z w' => z = .returned (.bool (St.mk 5 nm ns e a g lo hi bd el).may) ∧ Below w.heap.size w w' := by
  obtain ⟨A1, hA1⟩ : ∃ A1, A1 = (#[.int .i64 5, .string (str nm), .slice s.pn ns.length s.cn, .int .i64 e.op, .int .u64 (e.word : Int), .string (str e.name), .slice s.pe e.args.len s.ce, .int .i64 a.op, .int .u64 (a.word : Int), .string (str a.name), .slice s.pa a.args.len s.ca, .slice s.pg g.len s.cg, .int .u64 (lo : Int), .int .u64 (hi : Int), .slice s.pb bd.len s.cb, .slice s.pl el.len s.cl] : Array Value) := ⟨_, rfl⟩
  obtain ⟨W1, hW1⟩ : ∃ W1, w.alloc (Obj.cells A1 54) = W1 := ⟨_, rfl⟩
  obtain ⟨W2, hW2⟩ : ∃ W2, W1.alloc (Obj.cells A1 54) = W2 := ⟨_, rfl⟩
  have hB1 : Below w.heap.size w W1 := by rw [← hW1]; exact (Below.refl _ w).alloc (Nat.le_refl _) _
  have hz1 : W1.heap.size = w.heap.size + 1 := by rw [← hW1]; simp
  have HZ1 := Lib.hid (show A1.size = 16 by rw [hA1]; rfl)
  have HO1 := Lib.hid (show A1.all (·.oneCell') = true by rw [hA1]; simp [Value.oneCell'])
  have HI1 := Lib.hid (infoSt.trans (by rw [HZ1.out]) : (Tryz.prog.info? 54).map (·.size) = some A1.size)
  have F2 := Lib.hid (show W1.rangeAt w.heap.size 0 A1.toList by rw [← hW1]; exact range_new w A1 _)
  have k10 : W2.heap[w.heap.size]? = some (.cells A1 54 (0, 0)) := by rw [← hW2, Below.heap_alloc _ _ _ (by omega), ← hW1]; exact heap_alloc_new w _
  have k20 : W2.heap[W1.heap.size]? = some (.cells A1 54 (0, 0)) := by rw [← hW2]; exact heap_alloc_new W1 _
  have HB2 := Lib.hid (show Below w.heap.size w W2 by rw [← hW2]; exact hB1.alloc (by omega) _)
  have hz2 : W2.heap.size = W1.heap.size + 1 := by rw [← hW2]; simp
  have Hnm := Lib.hid (fun w => name_any (str nm) w)
  rw [str_data] at Hnm
  have Hbd := Lib.hid (fun (w1 : World) (hB : Below w.heap.size w w1) => hEv bd hb s.pb s.cb N w1 (Nat.le_trans hN hB.size) (hx.2.2.2.2.1.later (hB.mono hN) (Nat.le_refl N)))
  have HZr := Lib.hid (fun (w1 : World) (hB : Below w.heap.size w w1) => isZeroSt_any (St.mk 0 [] ns e a g 0 0 .nil el) rfl ⟨s.pn, s.pe, s.pa, s.pg, none, s.pl, s.cn, s.ce, s.ca, s.cg, 0, s.cl⟩ N w1 (Nat.le_trans hN hB.size) (St.Ok.later (x := St.mk 0 [] ns e a g 0 0 .nil el) (s := ⟨s.pn, s.pe, s.pa, s.pg, none, s.pl, s.cn, s.ce, s.ca, s.cg, 0, s.cl⟩) (show St.Ok w N (St.mk 0 [] ns e a g 0 0 .nil el) ⟨s.pn, s.pe, s.pa, s.pg, none, s.pl, s.cn, s.ce, s.ca, s.cg, 0, s.cl⟩ from ⟨hx.1, hx.2.1, hx.2.2.1, hx.2.2.2.1, nilIn, hx.2.2.2.2.2.1, (show (0 : Nat) < 18446744073709551616 by decide), (show (0 : Nat) < 18446744073709551616 by decide)⟩) (hB.mono hN) (Nat.le_refl N)))
  unfold St.val at HZr
  rw [st_may_5]
  clear hx hEv
  generalize nameB nm = znm at *
  generalize bd.may = zbd at *
  generalize (St.mk 0 [] ns e a g 0 0 .nil el).isZero = zz at *
  show Calls _ _ #[.agg #[.int .i64 5, .string (str nm), .slice s.pn ns.length s.cn, .int .i64 e.op, .int .u64 (e.word : Int), .string (str e.name), .slice s.pe e.args.len s.ce, .int .i64 a.op, .int .u64 (a.word : Int), .string (str a.name), .slice s.pa a.args.len s.ca, .slice s.pg g.len s.cg, .int .u64 (lo : Int), .int .u64 (hi : Int), .slice s.pb bd.len s.cb, .slice s.pl el.len s.cl]] w _
  rw [← hA1]
  have HA1 := Lib.hid hA1
  have HZz := Lib.hid hz1
  clear hB1 hA1 hz1 hz2
  go_enter Tryz.func106, Tryz.ntmps106
  go_upto_region 3 with (first | (refine wpl_load rfl 54 _ rfl w.heap.size 0 rfl A1 _ F2.out Tryz.underlying54 rfl HI1.out ?_) | (refine wpl_store_new rfl 54 _ _ rfl _ A1 _ rfl rfl (by rw [HZ1.out]; rfl) HI1.out HO1.out ?_; rw [hW2]))
  rw [HA1.out] at k10 k20
  clear HA1 hW1 hW2 HZ1 HO1 HI1 F2
  have K1 := Lib.hid k10
  have K2 := Lib.hid k20
  clear k10 k20
  go_upto_region 4 with (refine wpl_put rfl _ _ _ rfl rfl W1.heap.size _ _ rfl rfl _ _ K2.out (by exact Nat.le_of_ble_eq_true rfl) (by kernel_rfl) (by rfl) ?_; intro wq hk hb; replace K1 := Lib.hid ((hb.block _ (lt_of_block K1.out) (by have := HZz.out; omega)).trans K1.out); replace K2 := Lib.hid hk; replace HB2 := Lib.hid (hb.below HB2.out (by have := HZz.out; omega) HB2.out.size); clear hk hb)
  have d0 := cell_block K1.out (j := 0) (v := .int .i64 5) rfl
  have d1 := cell_block K1.out (j := 1) (v := .string (str nm)) rfl
  go_wp2_with fail
  refine (Hnm.out _).mono ?_
  rintro z w5 ⟨rfl, rfl⟩
  clear d1
  cases znm with
  | false =>
    go_wp2_with (refine wpl_put rfl _ _ _ rfl rfl W1.heap.size _ _ rfl rfl _ _ K2.out (by exact Nat.le_of_ble_eq_true rfl) (by kernel_rfl) (by rfl) ?_; intro wq hk hb; replace K1 := Lib.hid ((hb.block _ (lt_of_block K1.out) (by have := HZz.out; omega)).trans K1.out); replace K2 := Lib.hid hk; replace HB2 := Lib.hid (hb.below HB2.out (by have := HZz.out; omega) HB2.out.size); clear hk hb)
    go_ret
    exact ⟨by simp, HB2.out⟩
  | true =>
    have d14 := cell_block K1.out (j := 14) (v := .slice s.pb bd.len s.cb) rfl
    go_wp2_with fail
    refine (Hbd.out _ HB2.out).mono ?_
    rintro z w5 ⟨rfl, hB⟩
    replace K1 := Lib.hid ((hB.block _ (lt_of_block K1.out)).trans K1.out)
    replace K2 := Lib.hid ((hB.block _ (lt_of_block K2.out)).trans K2.out)
    replace HB2 := Lib.hid (HB2.out.trans (hB.mono HB2.out.size))
    clear hB
    clear d14
    cases zbd with
    | false =>
      go_wp2_with (refine wpl_put rfl _ _ _ rfl rfl W1.heap.size _ _ rfl rfl _ _ K2.out (by exact Nat.le_of_ble_eq_true rfl) (by kernel_rfl) (by rfl) ?_; intro wq hk hb; replace K1 := Lib.hid ((hb.block _ (lt_of_block K1.out) (by have := HZz.out; omega)).trans K1.out); replace K2 := Lib.hid hk; replace HB2 := Lib.hid (hb.below HB2.out (by have := HZz.out; omega) HB2.out.size); clear hk hb)
      go_ret
      exact ⟨by simp, HB2.out⟩
    | true =>
      go_wp2_with (first | (refine wpl_load_if (by rfl) 54 _ rfl W1.heap.size 0 rfl ((St.mk 0 [] ns e a g 0 0 .nil el).cells ⟨s.pn, s.pe, s.pa, s.pg, none, s.pl, s.cn, s.ce, s.ca, s.cg, 0, s.cl⟩) _ (range_block K2.out) Tryz.underlying54 rfl (infoSt.trans rfl) ?_) | (refine wpl_put rfl _ _ _ rfl rfl W1.heap.size _ _ rfl rfl _ _ K2.out (by exact Nat.le_of_ble_eq_true rfl) (by kernel_rfl) (by rfl) ?_; intro wq hk hb; replace K1 := Lib.hid ((hb.block _ (lt_of_block K1.out) (by have := HZz.out; omega)).trans K1.out); replace K2 := Lib.hid hk; replace HB2 := Lib.hid (hb.below HB2.out (by have := HZz.out; omega) HB2.out.size); clear hk hb))
      refine (HZr.out _ HB2.out).mono ?_
      rintro z w5 ⟨rfl, hB⟩
      replace HB2 := Lib.hid (HB2.out.trans (hB.mono HB2.out.size))
      go_wp2_with fail
      go_ret
      exact ⟨by simp, HB2.out⟩
set_option maxRecDepth 100000 in
set_option maxHeartbeats 6400000 in
theorem mayStmt_6 (n : Nat) (_hEv : EvS n) (nm : List UInt8) (ns : List (List UInt8)) (e a : Ex) (g : Exs) (lo hi : Nat) (bd el : Sts) (_hb : bd.size ≤ n) (_hl : el.size ≤ n) (s : StP) (N : Nat) (w : World) (hN : N ≤ w.heap.size) (hx : (St.mk 6 nm ns e a g lo hi bd el).Ok w N s) :
    Calls Tryz.prog 106 #[(St.mk 6 nm ns e a g lo hi bd el).val s] w fun z w' => z = .returned (.bool (St.mk 6 nm ns e a g lo hi bd el).may) ∧ Below w.heap.size w w' := by
  obtain ⟨A1, hA1⟩ : ∃ A1, A1 = (#[.int .i64 6, .string (str nm), .slice s.pn ns.length s.cn, .int .i64 e.op, .int .u64 (e.word : Int), .string (str e.name), .slice s.pe e.args.len s.ce, .int .i64 a.op, .int .u64 (a.word : Int), .string (str a.name), .slice s.pa a.args.len s.ca, .slice s.pg g.len s.cg, .int .u64 (lo : Int), .int .u64 (hi : Int), .slice s.pb bd.len s.cb, .slice s.pl el.len s.cl] : Array Value) := ⟨_, rfl⟩
  obtain ⟨W1, hW1⟩ : ∃ W1, w.alloc (Obj.cells A1 54) = W1 := ⟨_, rfl⟩
  obtain ⟨W2, hW2⟩ : ∃ W2, W1.alloc (Obj.cells A1 54) = W2 := ⟨_, rfl⟩
  have hB1 : Below w.heap.size w W1 := by rw [← hW1]; exact (Below.refl _ w).alloc (Nat.le_refl _) _
  have hz1 : W1.heap.size = w.heap.size + 1 := by rw [← hW1]; simp
  have HZ1 := Lib.hid (show A1.size = 16 by rw [hA1]; rfl)
  have HO1 := Lib.hid (show A1.all (·.oneCell') = true by rw [hA1]; simp [Value.oneCell'])
  have HI1 := Lib.hid (infoSt.trans (by rw [HZ1.out]) : (Tryz.prog.info? 54).map (·.size) = some A1.size)
  have F2 := Lib.hid (show W1.rangeAt w.heap.size 0 A1.toList by rw [← hW1]; exact range_new w A1 _)
  have k10 : W2.heap[w.heap.size]? = some (.cells A1 54 (0, 0)) := by rw [← hW2, Below.heap_alloc _ _ _ (by omega), ← hW1]; exact heap_alloc_new w _
  have k20 : W2.heap[W1.heap.size]? = some (.cells A1 54 (0, 0)) := by rw [← hW2]; exact heap_alloc_new W1 _
  have HB2 := Lib.hid (show Below w.heap.size w W2 by rw [← hW2]; exact hB1.alloc (by omega) _)
  have hz2 : W2.heap.size = W1.heap.size + 1 := by rw [← hW2]; simp
  have Hnm := Lib.hid (fun w => name_any (str nm) w)
  rw [str_data] at Hnm
  have Hns := Lib.hid (fun (w1 : World) (hB : Below w.heap.size w w1) => everyStr_any ns s.pn s.cn N w1 (hx.1.2.imp (Nat.le_refl N) (StrAt.later (hB.mono hN))))
  have Hg := Lib.hid (fun (w1 : World) (hB : Below w.heap.size w w1) => everyEx_any g s.pg s.cg N w1 (Nat.le_trans hN hB.size) (hx.2.2.2.1.later (hB.mono hN) (Nat.le_refl N)))
  have HZr := Lib.hid (fun (w1 : World) (hB : Below w.heap.size w w1) => isZeroSt_any (St.mk 0 [] [] e a .nil lo hi bd el) rfl ⟨none, s.pe, s.pa, none, s.pb, s.pl, 0, s.ce, s.ca, 0, s.cb, s.cl⟩ N w1 (Nat.le_trans hN hB.size) (St.Ok.later (x := St.mk 0 [] [] e a .nil lo hi bd el) (s := ⟨none, s.pe, s.pa, none, s.pb, s.pl, 0, s.ce, s.ca, 0, s.cb, s.cl⟩) (show St.Ok w N (St.mk 0 [] [] e a .nil lo hi bd el) ⟨none, s.pe, s.pa, none, s.pb, s.pl, 0, s.ce, s.ca, 0, s.cb, s.cl⟩ from ⟨⟨Nat.zero_le _, nilRow⟩, hx.2.1, hx.2.2.1, nilExs, hx.2.2.2.2.1, hx.2.2.2.2.2.1, hx.2.2.2.2.2.2⟩) (hB.mono hN) (Nat.le_refl N)))
  unfold St.val at HZr
  rw [st_may_6]
  clear hx _hEv
  generalize nameB nm = znm at *
  generalize namesB ns = zns at *
  generalize g.may = zg at *
  generalize (St.mk 0 [] [] e a .nil lo hi bd el).isZero = zz at *
  show Calls _ _ #[.agg #[.int .i64 6, .string (str nm), .slice s.pn ns.length s.cn, .int .i64 e.op, .int .u64 (e.word : Int), .string (str e.name), .slice s.pe e.args.len s.ce, .int .i64 a.op, .int .u64 (a.word : Int), .string (str a.name), .slice s.pa a.args.len s.ca, .slice s.pg g.len s.cg, .int .u64 (lo : Int), .int .u64 (hi : Int), .slice s.pb bd.len s.cb, .slice s.pl el.len s.cl]] w _
  rw [← hA1]
  have HA1 := Lib.hid hA1
  have HZz := Lib.hid hz1
  clear hB1 hA1 hz1 hz2
  go_enter Tryz.func106, Tryz.ntmps106
  go_upto_region 3 with (first | (refine wpl_load rfl 54 _ rfl w.heap.size 0 rfl A1 _ F2.out Tryz.underlying54 rfl HI1.out ?_) | (refine wpl_store_new rfl 54 _ _ rfl _ A1 _ rfl rfl (by rw [HZ1.out]; rfl) HI1.out HO1.out ?_; rw [hW2]))
  rw [HA1.out] at k10 k20
  clear HA1 hW1 hW2 HZ1 HO1 HI1 F2
  have K1 := Lib.hid k10
  have K2 := Lib.hid k20
  clear k10 k20
  go_upto_region 4 with (refine wpl_put rfl _ _ _ rfl rfl W1.heap.size _ _ rfl rfl _ _ K2.out (by exact Nat.le_of_ble_eq_true rfl) (by kernel_rfl) (by rfl) ?_; intro wq hk _hb; replace K1 := Lib.hid ((_hb.block _ (lt_of_block K1.out) (by have := HZz.out; omega)).trans K1.out); replace K2 := Lib.hid hk; replace HB2 := Lib.hid (_hb.below HB2.out (by have := HZz.out; omega) HB2.out.size); clear hk _hb)
  have d0 := cell_block K1.out (j := 0) (v := .int .i64 6) rfl
  have d1 := cell_block K1.out (j := 1) (v := .string (str nm)) rfl
  go_wp2_with fail
  refine (Hnm.out _).mono ?_
  rintro z w5 ⟨rfl, rfl⟩
  clear d1
  cases znm with
  | false =>
    go_wp2_with (refine wpl_put rfl _ _ _ rfl rfl W1.heap.size _ _ rfl rfl _ _ K2.out (by exact Nat.le_of_ble_eq_true rfl) (by kernel_rfl) (by rfl) ?_; intro wq hk _hb; replace K1 := Lib.hid ((_hb.block _ (lt_of_block K1.out) (by have := HZz.out; omega)).trans K1.out); replace K2 := Lib.hid hk; replace HB2 := Lib.hid (_hb.below HB2.out (by have := HZz.out; omega) HB2.out.size); clear hk _hb)
    go_ret
    exact ⟨by simp, HB2.out⟩
  | true =>
    have d2 := cell_block K1.out (j := 2) (v := .slice s.pn ns.length s.cn) rfl
    go_wp2_with fail
    refine (Hns.out _ HB2.out).mono ?_
    rintro z w5 ⟨rfl, rfl⟩
    clear d2
    cases zns with
    | false =>
      go_wp2_with (refine wpl_put rfl _ _ _ rfl rfl W1.heap.size _ _ rfl rfl _ _ K2.out (by exact Nat.le_of_ble_eq_true rfl) (by kernel_rfl) (by rfl) ?_; intro wq hk _hb; replace K1 := Lib.hid ((_hb.block _ (lt_of_block K1.out) (by have := HZz.out; omega)).trans K1.out); replace K2 := Lib.hid hk; replace HB2 := Lib.hid (_hb.below HB2.out (by have := HZz.out; omega) HB2.out.size); clear hk _hb)
      go_ret
      exact ⟨by simp, HB2.out⟩
    | true =>
      have d11 := cell_block K1.out (j := 11) (v := .slice s.pg g.len s.cg) rfl
      go_wp2_with fail
      refine (Hg.out _ HB2.out).mono ?_
      rintro z w5 ⟨rfl, hB⟩
      replace K1 := Lib.hid ((hB.block _ (lt_of_block K1.out)).trans K1.out)
      replace K2 := Lib.hid ((hB.block _ (lt_of_block K2.out)).trans K2.out)
      replace HB2 := Lib.hid (HB2.out.trans (hB.mono HB2.out.size))
      clear hB
      clear d11
      cases zg with
      | false =>
        go_wp2_with (refine wpl_put rfl _ _ _ rfl rfl W1.heap.size _ _ rfl rfl _ _ K2.out (by exact Nat.le_of_ble_eq_true rfl) (by kernel_rfl) (by rfl) ?_; intro wq hk _hb; replace K1 := Lib.hid ((_hb.block _ (lt_of_block K1.out) (by have := HZz.out; omega)).trans K1.out); replace K2 := Lib.hid hk; replace HB2 := Lib.hid (_hb.below HB2.out (by have := HZz.out; omega) HB2.out.size); clear hk _hb)
        go_ret
        exact ⟨by simp, HB2.out⟩
      | true =>
        go_wp2_with (first | (refine wpl_load_if (by rfl) 54 _ rfl W1.heap.size 0 rfl ((St.mk 0 [] [] e a .nil lo hi bd el).cells ⟨none, s.pe, s.pa, none, s.pb, s.pl, 0, s.ce, s.ca, 0, s.cb, s.cl⟩) _ (range_block K2.out) Tryz.underlying54 rfl (infoSt.trans rfl) ?_) | (refine wpl_put rfl _ _ _ rfl rfl W1.heap.size _ _ rfl rfl _ _ K2.out (by exact Nat.le_of_ble_eq_true rfl) (by kernel_rfl) (by rfl) ?_; intro wq hk _hb; replace K1 := Lib.hid ((_hb.block _ (lt_of_block K1.out) (by have := HZz.out; omega)).trans K1.out); replace K2 := Lib.hid hk; replace HB2 := Lib.hid (_hb.below HB2.out (by have := HZz.out; omega) HB2.out.size); clear hk _hb))
        refine (HZr.out _ HB2.out).mono ?_
        rintro z w5 ⟨rfl, hB⟩
        replace HB2 := Lib.hid (HB2.out.trans (hB.mono HB2.out.size))
        go_wp2_with fail
        go_ret
        exact ⟨by simp, HB2.out⟩
set_option maxRecDepth 100000 in
set_option maxHeartbeats 6400000 in
theorem mayStmt_no (kd : Int) (hno : kd < 1 ∨ 6 < kd) (nm : List UInt8) (ns : List (List UInt8)) (e a : Ex) (g : Exs) (lo hi : Nat) (bd el : Sts) (s : StP) (w : World) :
    Calls Tryz.prog 106 #[(St.mk kd nm ns e a g lo hi bd el).val s] w fun z w' => z = .returned (.bool (St.mk kd nm ns e a g lo hi bd el).may) ∧ Below w.heap.size w w' := by
  obtain ⟨A1, hA1⟩ : ∃ A1, A1 = (#[.int .i64 kd, .string (str nm), .slice s.pn ns.length s.cn, .int .i64 e.op, .int .u64 (e.word : Int), .string (str e.name), .slice s.pe e.args.len s.ce, .int .i64 a.op, .int .u64 (a.word : Int), .string (str a.name), .slice s.pa a.args.len s.ca, .slice s.pg g.len s.cg, .int .u64 (lo : Int), .int .u64 (hi : Int), .slice s.pb bd.len s.cb, .slice s.pl el.len s.cl] : Array Value) := ⟨_, rfl⟩
  obtain ⟨W1, hW1⟩ : ∃ W1, w.alloc (Obj.cells A1 54) = W1 := ⟨_, rfl⟩
  obtain ⟨W2, hW2⟩ : ∃ W2, W1.alloc (Obj.cells A1 54) = W2 := ⟨_, rfl⟩
  have hB1 : Below w.heap.size w W1 := by rw [← hW1]; exact (Below.refl _ w).alloc (Nat.le_refl _) _
  have hz1 : W1.heap.size = w.heap.size + 1 := by rw [← hW1]; simp
  have HZ1 := Lib.hid (show A1.size = 16 by rw [hA1]; rfl)
  have HO1 := Lib.hid (show A1.all (·.oneCell') = true by rw [hA1]; simp [Value.oneCell'])
  have HI1 := Lib.hid (infoSt.trans (by rw [HZ1.out]) : (Tryz.prog.info? 54).map (·.size) = some A1.size)
  have F2 := Lib.hid (show W1.rangeAt w.heap.size 0 A1.toList by rw [← hW1]; exact range_new w A1 _)
  have k10 : W2.heap[w.heap.size]? = some (.cells A1 54 (0, 0)) := by rw [← hW2, Below.heap_alloc _ _ _ (by omega), ← hW1]; exact heap_alloc_new w _
  have k20 : W2.heap[W1.heap.size]? = some (.cells A1 54 (0, 0)) := by rw [← hW2]; exact heap_alloc_new W1 _
  have HB2 := Lib.hid (show Below w.heap.size w W2 by rw [← hW2]; exact hB1.alloc (by omega) _)
  have hz2 : W2.heap.size = W1.heap.size + 1 := by rw [← hW2]; simp
  rw [st_may_no kd hno]
  have q1 : (kd == 1) = false := by simp; omega
  have q2 : (kd == 2) = false := by simp; omega
  have q3 : (kd == 3) = false := by simp; omega
  have q4 : (kd == 4) = false := by simp; omega
  have q5 : (kd == 5) = false := by simp; omega
  have q6 : (kd == 6) = false := by simp; omega
  show Calls _ _ #[.agg #[.int .i64 kd, .string (str nm), .slice s.pn ns.length s.cn, .int .i64 e.op, .int .u64 (e.word : Int), .string (str e.name), .slice s.pe e.args.len s.ce, .int .i64 a.op, .int .u64 (a.word : Int), .string (str a.name), .slice s.pa a.args.len s.ca, .slice s.pg g.len s.cg, .int .u64 (lo : Int), .int .u64 (hi : Int), .slice s.pb bd.len s.cb, .slice s.pl el.len s.cl]] w _
  rw [← hA1]
  have HA1 := Lib.hid hA1
  have HZz := Lib.hid hz1
  clear hB1 hA1 hz1 hz2
  go_enter Tryz.func106, Tryz.ntmps106
  go_upto_region 3 with (first | (refine wpl_load rfl 54 _ rfl w.heap.size 0 rfl A1 _ F2.out Tryz.underlying54 rfl HI1.out ?_) | (refine wpl_store_new rfl 54 _ _ rfl _ A1 _ rfl rfl (by rw [HZ1.out]; rfl) HI1.out HO1.out ?_; rw [hW2]))
  rw [HA1.out] at k10 k20
  clear HA1 hW1 hW2 HZ1 HO1 HI1 F2
  have K1 := Lib.hid k10
  have K2 := Lib.hid k20
  clear k10 k20
  go_upto_region 4 with (refine wpl_put rfl _ _ _ rfl rfl W1.heap.size _ _ rfl rfl _ _ K2.out (by exact Nat.le_of_ble_eq_true rfl) (by kernel_rfl) (by rfl) ?_; intro wq hk hb; replace K1 := Lib.hid ((hb.block _ (lt_of_block K1.out) (by have := HZz.out; omega)).trans K1.out); replace K2 := Lib.hid hk; replace HB2 := Lib.hid (hb.below HB2.out (by have := HZz.out; omega) HB2.out.size); clear hk hb)
  have d0 := cell_block K1.out (j := 0) (v := .int .i64 kd) rfl
  go_wp2_with fail
  go_ret
  exact ⟨rfl, HB2.out⟩
theorem mayS_step (n : Nat) (ih : MayS n) : MayS (n + 1) := by
  intro x hsz s N w hN hx
  obtain ⟨kd, nm, ns, e, a, g, lo, hi, bd, el⟩ := x
  simp only [St.size] at hsz
  have hEv : EvS n := fun l hl p c N w hN h => everyS_step n ih l hl p c N w hN h
  have hno : kd < 1 ∨ 6 < kd ∨ kd = 1 ∨ kd = 2 ∨ kd = 3 ∨ kd = 4 ∨ kd = 5 ∨ kd = 6 := by omega
  rcases hno with h | h | rfl | rfl | rfl | rfl | rfl | rfl
  · exact mayStmt_no kd (.inl h) nm ns e a g lo hi bd el s w
  · exact mayStmt_no kd (.inr h) nm ns e a g lo hi bd el s w
  · exact mayStmt_1 n hEv nm ns e a g lo hi bd el (by omega) (by omega) s N w hN hx
  · exact mayStmt_2 n hEv nm ns e a g lo hi bd el (by omega) (by omega) s N w hN hx
  · exact mayStmt_3 n hEv nm ns e a g lo hi bd el (by omega) (by omega) s N w hN hx
  · exact mayStmt_4 n hEv nm ns e a g lo hi bd el (by omega) (by omega) s N w hN hx
  · exact mayStmt_5 n hEv nm ns e a g lo hi bd el (by omega) (by omega) s N w hN hx
  · exact mayStmt_6 n hEv nm ns e a g lo hi bd el (by omega) (by omega) s N w hN hx
theorem mayS_to : ∀ n, MayS n
  | 0 => fun _ h => absurd h (Nat.not_lt_zero _)
  | n + 1 => mayS_step n (mayS_to n)
theorem everySt_any (l : Sts) (p : Option Addr) (c N : Nat) (w : World) (hN : N ≤ w.heap.size) (h : l.In w N p) :
    Calls Tryz.prog 105 #[.slice p l.len c, .func (.func 106) #[] #[]] w fun e w' => e = .returned (.bool l.may) ∧ Below w.heap.size w w' :=
  everyS_step _ (mayS_to _) l (Nat.le_refl _) p c N w hN h
set_option maxHeartbeats 1600000 in
theorem mayBody_any (l : Sts) (hl6 : l.wt ≤ 1000000) (p : Option Addr) (c N : Nat) (w : World) (hN : N ≤ w.heap.size) (h : l.In w N p) :
    Calls Tryz.prog 70 #[.slice p l.len c] w fun e w' => e = .returned (.bool l.can) ∧ Below w.heap.size w w' := by
  have HD := Lib.hid (deepS_any l hl6 p c N w h hN)
  have HE := Lib.hid (fun (w1 : World) (hB : Below w.heap.size w w1) => everySt_any l p c N w1 (Nat.le_trans hN hB.size) (h.later (hB.mono hN) (Nat.le_refl N)))
  have hd := Sts.deep_le l
  unfold Sts.can
  clear h
  generalize l.deep = d at *
  generalize l.may = m at *
  go_enter Tryz.func70, Tryz.ntmps70
  go_wp2_with fail
  refine HD.out.mono ?_
  rintro e w1 ⟨rfl, hB⟩
  have HB := Lib.hid hB
  clear hB
  by_cases hd64 : d ≤ 64
  · go_wp2_with fail
    refine (HE.out _ HB.out).mono ?_
    rintro e w2 ⟨rfl, hB2⟩
    have HB2 := Lib.hid (HB.out.trans (hB2.mono HB.out.size))
    clear hB2
    go_wp2_with fail
    go_ret
    exact ⟨by simp [hd64], HB2.out⟩
  · go_wp2_with fail
    go_ret
    exact ⟨by simp, HB.out⟩
end Go.Proofs.YtlhbledakddbbaaGreatDoor
/- A function's value: its cells. -/
namespace Go.Proofs.YtlhbledakddbbaaGreatDoor
open Go.RowKit

def Fnc.valP (x : Fnc) (s : FncP) : Value := x.val s
def Fnc.OkP (w : World) (N : Nat) (x : Fnc) (s : FncP) : Prop := x.Ok w N s
theorem Fnc.OkP.later {w w' : World} {N M : Nat} {x : Fnc} {s : FncP} (h : Fnc.OkP w N x s) (hw : Below N w w') (hM : N ≤ M) : Fnc.OkP w' M x s := Fnc.Ok.later h hw hM
theorem Fnc.At.openP {w : World} {N : Nat} {x : Fnc} {b o : Nat} (h : x.At w N b o) : ∃ s : FncP, (∀ j v, (x.cells s)[j]? = some v → w.cell? ⟨b, o + j, none⟩ = some v) ∧ Fnc.OkP w N x s := h.open
theorem infoFnc : (Tryz.prog.info? 49).map (·.size) = some 5 := by kernel_rfl
theorem oneFnc (x : Fnc) (s : FncP) : (x.cells s).all (·.oneCell') = true := by simp [Fnc.cells, Value.oneCell']
end Go.Proofs.YtlhbledakddbbaaGreatDoor
