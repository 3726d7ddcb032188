/- A call's line; a statement's first line, of any kind. -/
import Derived.Test.YtkjhofnkgcjcoaaDoorP26
namespace Go.Proofs.YtkjhofnkgcjcoaaDoor
open Go.RowKit

theorem row_cells {w : World} {_N b o : Nat} {ns : List (List UInt8)} (h : Row (StrAt w) 1 ns b o) : ∀ (j : Nat) x, (ns.map str)[j]? = some x → w.cell? ⟨b, o + j, none⟩ = some (.string x) := by
  intro j x hj
  rw [List.getElem?_map] at hj
  cases hn : ns[j]? with
  | none => rw [hn] at hj; cases hj
  | some y =>
    rw [hn] at hj
    cases hj
    have := Row.get h hn
    rw [Nat.mul_one] at this
    exact this
theorem map_data (ns : List (List UInt8)) : (ns.map str).map (·.data.toList) = ns := by
  rw [List.map_map]
  have : (fun x : ByteArray => x.data.toList) ∘ str = id := by funext x; rfl
  rw [this, List.map_id]
/-- texts joined -/
theorem join_any (ns : List (List UInt8)) (p : Option Addr) (c N : Nat) (w : World) (hN : N ≤ w.heap.size) (h : ns.length ≤ c ∧ RowIn N (StrAt w) 1 ns p) (hl : (Lib.join ns [44, 32]).length ≤ 1000000) :
    Calls Tryd.prog 83 #[.slice p ns.length c, .string ⟨#[44, 32]⟩] w fun e w' => e = .returned (.string (str (Lib.join ns [44, 32]))) ∧ Below w.heap.size w w' := by
  obtain ⟨hc, hm, h0 | ⟨b, o, rfl, hb, ha⟩⟩ := h
  · have : ns = [] := List.length_eq_zero_iff.1 h0
    subst this
    refine (Tryd.strings_Join_none p c ⟨#[44, 32]⟩ w).mono ?_
    rintro e w' ⟨rfl, rfl⟩
    exact ⟨rfl, Below.refl _ _⟩
  · have hd := map_data ns
    have hs : (⟨#[44, 32]⟩ : ByteArray).data.toList = [44, 32] := rfl
    have := Tryd.strings_Join b o c (ns.map str) ⟨#[44, 32]⟩ w (row_cells (_N := N) ha) (by omega) (by simpa using hm) (by simpa using hc) (by rw [hd, hs]; omega)
    rw [List.length_map, hd, hs] at this
    exact this

set_option maxRecDepth 100000 in
set_option maxHeartbeats 6400000 in
theorem first_6 (nm : List UInt8) (ns : List (List UInt8)) (e a : Ex) (g : Exs) (lo hi : Nat) (bd el : Sts) (hg : g.may = true) (b o m : Nat) (w : World) (hb : b < w.heap.size) (hx : (St.mk 6 nm ns e a g lo hi bd el).At w w.heap.size b o) (hmp : w.heap[m]? = some (fmap signT)) (hG : Glob w) (hl : (St.mk 6 nm ns e a g lo hi bd el).first.length ≤ 1000000) :
    Calls Tryd.prog 75 #[.agg #[.map (some m)], .pointer (some ⟨b, o, none⟩)] w fun z w' => z = .returned (.string (str (St.mk 6 nm ns e a g lo hi bd el).first)) ∧ Below w.heap.size w w' := by
  have hlen : nm.length + (Lib.join g.texts [44, 32]).length ≤ 1000000 ∧ (ns.length ≠ 0 → (Lib.join ns [44, 32]).length + nm.length + (Lib.join g.texts [44, 32]).length ≤ 1000000) := by
    rw [← first_eq, firstT, if_neg (by decide), if_neg (by decide), if_neg (by decide), if_neg (by decide), if_neg (by decide)] at hl
    split at hl
    · rename_i h0; simp only [List.length_append, List.length_cons, List.length_nil] at hl; exact ⟨by omega, fun h => absurd h0 h⟩
    · simp only [List.length_append, List.length_cons, List.length_nil] at hl; exact ⟨by omega, fun _ => by omega⟩
  obtain ⟨W1, hW1⟩ : ∃ W1, w.alloc (.cells #[.map (some m)] 58) = W1 := ⟨_, rfl⟩
  have hB1 : Below w.heap.size w W1 := by rw [← hW1]; exact (Below.refl _ _).alloc (Nat.le_refl _) _
  have hz1 : W1.heap.size = w.heap.size + 1 := by rw [← hW1]; simp
  have xt : W1.cell? ⟨w.heap.size, 0, none⟩ = some (.map (some m)) := cell_block (show W1.heap[w.heap.size]? = some (.cells #[.map (some m)] 58 (0, 0)) by rw [← hW1]; exact heap_alloc_new w _) rfl
  obtain ⟨y0, y1, ye, ya, ⟨pn, cn, y2, hcn, sn⟩, ⟨pg, cg, y11, sg⟩, y12, y13, hlo, hhi, _, _⟩ := hx.parts
  have x0 := (hB1.cell hb).trans y0
  have x1 := (hB1.cell hb).trans y1
  have x2 := (hB1.cell hb).trans y2
  have x11 := (hB1.cell hb).trans y11
  have x12 := (hB1.cell hb).trans y12
  have x13 := (hB1.cell hb).trans y13
  have hmp1 := (hB1.block m (lt_of_block hmp)).trans hmp
  have hb1 : b < W1.heap.size := by omega
  have ht1 : w.heap.size < W1.heap.size := by omega
  have hG1 := hG.later hB1
  have HB1 := Lib.hid hB1
  have ht0 : ns.length = 0 → (St.mk 6 nm ns e a g lo hi bd el).first = ((nm ++ ([40] ++ Lib.join g.texts [44, 32] ++ [41])) ++ [59]) := fun h => by rw [← first_eq, firstT, if_neg (by decide), if_neg (by decide), if_neg (by decide), if_neg (by decide), if_neg (by decide), if_pos h]
  have ht1 : ¬ ns.length = 0 → (St.mk 6 nm ns e a g lo hi bd el).first = (Lib.join ns [44, 32] ++ [32, 61, 32]) ++ ((nm ++ ([40] ++ Lib.join g.texts [44, 32] ++ [41])) ++ [59]) := fun h => by rw [← first_eq, firstT, if_neg (by decide), if_neg (by decide), if_neg (by decide), if_neg (by decide), if_neg (by decide), if_neg h]
  obtain ⟨v0, Wc, hcv0, hR0, hBc, hzc⟩ := conv_bytes (P := Tryd.prog) W1.drew 9 64 5 nm Tryd.underlying9 Tryd.underlying64 Tryd.underlying5 (by omega)
  have hBW : Below W1.heap.size W1 Wc := (Below.refl _ W1).drew.trans hBc
  have hE1 : TEnv W1.heap.size m Wc := ⟨(hBW.block m (lt_of_block hmp1)).trans hmp1, lt_of_block hmp1, fun w2 h2 => hG1 w2 (hBW.trans h2), hBW.size⟩
  have HLi := Lib.hid (list_step _ (tell_to _) g (Nat.lt_succ_self _) hg pg cg W1.heap.size W1.heap.size m v0 nm Wc (Nat.le_refl _) (sg.later ((hB1.trans (hBW.mono hB1.size))) hB1.size) hE1 hR0 (by simp only [List.length_append, List.length_cons, List.length_nil]; omega))
  have HJn := Lib.hid (fun (w1 : World) (hB : Below w.heap.size w w1) (hj : (Lib.join ns [44, 32]).length ≤ 1000000) => join_any ns pn cn w.heap.size w1 hB.size ⟨hcn, sn.imp (Nat.le_refl _) (StrAt.later hB)⟩ hj)
  have hmn := sn.1
  obtain ⟨NM, hNM⟩ : ∃ A, A = str (nm) := ⟨_, rfl⟩
  rw [← hNM] at x1
  have hcv0 : (convert 9 64 (.string NM)).run Tryd.prog W1.drew = .ok v0 Wc := by rw [hNM]; exact hcv0
  obtain ⟨PT, hPT⟩ : ∃ A, A = str (nm ++ ([40] ++ Lib.join g.texts [44, 32] ++ [41])) := ⟨_, rfl⟩
  obtain ⟨B12, hB12⟩ : ∃ B, B = str ((nm ++ ([40] ++ Lib.join g.texts [44, 32] ++ [41])) ++ [59]) := ⟨_, rfl⟩
  have qB12 : ∀ w : World, (Op.stringOp .add PT ⟨#[59]⟩).run Tryd.prog w = .ok (.string B12) w := fun w => by
    rw [hPT, hB12]; exact add_str (nm ++ ([40] ++ Lib.join g.texts [44, 32] ++ [41])) [59] (by simp only [List.length_append, List.length_cons, List.length_nil]; omega) w
  have HPT := Lib.hid hPT
  have HB12 := Lib.hid hB12
  have HL := Lib.hid hlen
  have HT0 := Lib.hid ht0
  have HT1 := Lib.hid ht1
  have HCV := Lib.hid hcv0
  have HBW := Lib.hid hBW
  clear hNM hPT hB12 hl hx y0 y1 y2 y11 y12 y13 ye ya sn sg hG hG1 hmp hmp1 hB1 hlo hhi hE1 hR0 hBc hzc hlen ht0 ht1 hcv0 hBW x12 x13
  go_enter Tryd.func75, Tryd.ntmps75
  go_wp2_with fail
  clear hW1 x0
  have HS : Below W1.heap.size W1 W1.drew := (Below.refl _ _).drew
  refine wp_region_held_drew (S := fun W => Below W1.heap.size W1 W ∧ W.cell? ⟨w.heap.size, 0, none⟩ = some (.map (some m)) ∧ W.cell? ⟨b, o + 1, none⟩ = some (.string NM) ∧ W.cell? ⟨b, o + 11, none⟩ = some (.slice pg g.len cg)) (by kernel_rfl) ?_ (fun hHeld => ?_)
  · exact ⟨HS, (HS.cell ht1).trans xt, (HS.cell hb1).trans x1, (HS.cell hb1).trans x11⟩
  refine wpAnyH_take (i := 0) (oi := { dst := Option.some 84, op := Go.Op.load 58 (Go.Operand.tmp 2), type := 58, pos := "lines.go:94", after := #[], guard := Option.none }) (v := ?_) rfl (by kernel_rfl) (by kernel_rfl) (by kernel_rfl) (fun _ _ _ h => h) (Or.inl ⟨by rfl, ?_⟩) (by assumption) ?_
  rotate_left
  · (intro w hSw; (try dsimp only at hSw); go_simp; try with_reducible rfl)
  try simp only [Act.put, List.setIfInBounds_toArray, List.set_cons_zero, List.set_cons_succ]
  refine wpAnyH_take (i := 1) (oi := { dst := Option.some 85, op := Go.Op.move (Go.Operand.tmp 1), type := 110, pos := "lines.go:94", after := #[], guard := Option.none }) (v := ?_) rfl (by kernel_rfl) (by kernel_rfl) (by kernel_rfl) (fun _ _ _ h => h) (Or.inl ⟨by rfl, ?_⟩) (by assumption) ?_
  rotate_left
  · (intro w hSw; (try dsimp only at hSw); go_simp; try with_reducible rfl)
  try simp only [Act.put, List.setIfInBounds_toArray, List.set_cons_zero, List.set_cons_succ]
  refine wpAnyH_take (i := 2) (oi := { dst := Option.some 86, op := Go.Op.nilCheck (Go.Operand.tmp 85), type := 0, pos := "lines.go:94", after := #[{ on := 1, ground := Go.Ground.data }], guard := Option.none }) (v := ?_) rfl (by kernel_rfl) (by kernel_rfl) (by kernel_rfl) (fun _ _ _ h => h) (Or.inl ⟨by rfl, ?_⟩) (by assumption) ?_
  rotate_left
  · (intro w hSw; (try dsimp only at hSw); go_simp; try with_reducible rfl)
  try simp only [Act.put, List.setIfInBounds_toArray, List.set_cons_zero, List.set_cons_succ]
  refine wpAnyH_take (i := 3) (oi := { dst := Option.some 87, op := Go.Op.fieldAddr 35 (Go.Operand.tmp 86) 1, type := 0, pos := "lines.go:94", after := #[{ on := 2, ground := Go.Ground.data }], guard := Option.none }) (v := ?_) rfl (by kernel_rfl) (by kernel_rfl) (by kernel_rfl) (fun _ _ _ h => h) (Or.inl ⟨by rfl, ?_⟩) (by assumption) ?_
  rotate_left
  · (intro w hSw; (try dsimp only at hSw); go_simp; try with_reducible rfl)
  try simp only [Act.put, List.setIfInBounds_toArray, List.set_cons_zero, List.set_cons_succ]
  refine wpAnyH_take (i := 4) (oi := { dst := Option.some 88, op := Go.Op.load 9 (Go.Operand.tmp 87), type := 9, pos := "lines.go:94", after := #[{ on := 3, ground := Go.Ground.data }], guard := Option.none }) (v := ?_) rfl (by kernel_rfl) (by kernel_rfl) (by kernel_rfl) (fun _ _ _ h => h) (Or.inl ⟨by rfl, ?_⟩) (by assumption) ?_
  rotate_left
  · (intro w hSw; (try dsimp only at hSw); go_simp; try with_reducible rfl)
  try simp only [Act.put, List.setIfInBounds_toArray, List.set_cons_zero, List.set_cons_succ]
  refine wpAnyH_take (i := 6) (oi := { dst := Option.some 90, op := Go.Op.move (Go.Operand.tmp 1), type := 110, pos := "lines.go:94", after := #[], guard := Option.none }) (v := ?_) rfl (by kernel_rfl) (by kernel_rfl) (by kernel_rfl) (fun _ _ _ h => h) (Or.inl ⟨by rfl, ?_⟩) (by assumption) ?_
  rotate_left
  · (intro w hSw; (try dsimp only at hSw); go_simp; try with_reducible rfl)
  try simp only [Act.put, List.setIfInBounds_toArray, List.set_cons_zero, List.set_cons_succ]
  refine wpAnyH_take (i := 7) (oi := { dst := Option.some 91, op := Go.Op.nilCheck (Go.Operand.tmp 90), type := 0, pos := "lines.go:94", after := #[{ on := 6, ground := Go.Ground.data }], guard := Option.none }) (v := ?_) rfl (by kernel_rfl) (by kernel_rfl) (by kernel_rfl) (fun _ _ _ h => h) (Or.inl ⟨by rfl, ?_⟩) (by assumption) ?_
  rotate_left
  · (intro w hSw; (try dsimp only at hSw); go_simp; try with_reducible rfl)
  try simp only [Act.put, List.setIfInBounds_toArray, List.set_cons_zero, List.set_cons_succ]
  refine wpAnyH_take (i := 8) (oi := { dst := Option.some 92, op := Go.Op.fieldAddr 35 (Go.Operand.tmp 91) 5, type := 0, pos := "lines.go:94", after := #[{ on := 7, ground := Go.Ground.data }], guard := Option.none }) (v := ?_) rfl (by kernel_rfl) (by kernel_rfl) (by kernel_rfl) (fun _ _ _ h => h) (Or.inl ⟨by rfl, ?_⟩) (by assumption) ?_
  rotate_left
  · (intro w hSw; (try dsimp only at hSw); go_simp; try with_reducible rfl)
  try simp only [Act.put, List.setIfInBounds_toArray, List.set_cons_zero, List.set_cons_succ]
  refine wpAnyH_take (i := 9) (oi := { dst := Option.some 93, op := Go.Op.load 27 (Go.Operand.tmp 92), type := 27, pos := "lines.go:94", after := #[{ on := 8, ground := Go.Ground.data }], guard := Option.none }) (v := ?_) rfl (by kernel_rfl) (by kernel_rfl) (by kernel_rfl) (fun _ _ _ h => h) (Or.inl ⟨by rfl, ?_⟩) (by assumption) ?_
  rotate_left
  · (intro w hSw; (try dsimp only at hSw); go_simp; try with_reducible rfl)
  try simp only [Act.put, List.setIfInBounds_toArray, List.set_cons_zero, List.set_cons_succ]
  refine wpAnyH_ready (rs := [5]) (by kernel_rfl) (by simp) ?_
  refine AllReadyH.cons (o := { dst := Option.some 89, op := Go.Op.convert 9 64 (Go.Operand.tmp 88), type := 64, pos := "lines.go:94", after := #[{ on := 4, ground := Go.Ground.data }], guard := Option.none }) rfl (fun K hK => ?_) AllReadyH.nil
  go_simp
  have hcv0 := HCV.out
  go_simp
  clear hcv0
  replace HS := HBW.out
  refine hK.out _ _ ?_ (fun hHeld => ?_)
  · exact ⟨HS, (HS.cell ht1).trans xt, (HS.cell hb1).trans x1, (HS.cell hb1).trans x11⟩
  clear hK K
  try simp only [Act.put, List.setIfInBounds_toArray, List.set_cons_zero, List.set_cons_succ]
  refine wpAnyH_ready (rs := [10]) (by kernel_rfl) (by simp) ?_
  refine AllReadyH.cons (o := { dst := Option.some 94, op := Go.Op.call { callee := Go.Callee.value (Go.Operand.func 61), args := #[Go.Operand.tmp 84, Go.Operand.tmp 89, Go.Operand.tmp 93], argTypes := #[58, 64, 27] }, type := 64, pos := "lines.go:94", after := #[{ on := 0, ground := Go.Ground.data }, { on := 5, ground := Go.Ground.data }, { on := 9, ground := Go.Ground.data }], guard := Option.none }) rfl (fun K hK => ?_) AllReadyH.nil
  go_simp
  refine HLi.out.mono ?_
  rintro z wa ⟨⟨v, rfl, hR⟩, hF'⟩
  have HR := Lib.hid hR
  replace HS := HS.trans hF'.1
  clear hR hF'
  refine hK.out _ _ ?_ (fun hHeld => ?_)
  · exact ⟨HS, (HS.cell ht1).trans xt, (HS.cell hb1).trans x1, (HS.cell hb1).trans x11⟩
  clear hK K
  try simp only [Act.put, List.setIfInBounds_toArray, List.set_cons_zero, List.set_cons_succ]
  refine wpAnyH_ready (rs := [11]) (by kernel_rfl) (by simp) ?_
  refine AllReadyH.cons (o := { dst := Option.some 95, op := Go.Op.convert 64 9 (Go.Operand.tmp 94), type := 9, pos := "lines.go:94", after := #[{ on := 10, ground := Go.Ground.data }], guard := Option.none }) rfl (fun K hK => ?_) AllReadyH.nil
  go_simp
  have hcv := BRow.conv HR.out
  rw [← HPT.out] at hcv
  go_simp
  clear hcv
  refine hK.out _ _ ?_ (fun hHeld => ?_)
  · exact ⟨HS, (HS.cell ht1).trans xt, (HS.cell hb1).trans x1, (HS.cell hb1).trans x11⟩
  clear hK K
  try simp only [Act.put, List.setIfInBounds_toArray, List.set_cons_zero, List.set_cons_succ]
  refine wpAnyH_take (i := 12) (oi := { dst := Option.some 96, op := Go.Op.binOp Go.BinOp.add 9 (Go.Operand.tmp 95) (Go.Operand.const (Go.Value.string { data := #[59] })) 9, type := 9, pos := "lines.go:94", after := #[{ on := 11, ground := Go.Ground.data }], guard := Option.none }) (v := .string B12) rfl (by kernel_rfl) (by kernel_rfl) (by kernel_rfl) (fun _ _ _ h => h) (Or.inl ⟨by rfl, ?_⟩) (by assumption) ?_
  · (intro w hSw; (try dsimp only at hSw); go_simp)
  try simp only [Act.put, List.setIfInBounds_toArray, List.set_cons_zero, List.set_cons_succ]
  refine wpAnyH_take (i := 13) (oi := { dst := Option.some 5, op := Go.Op.assign (Go.Operand.tmp 96), type := 9, pos := "lines.go:94", after := #[{ on := 12, ground := Go.Ground.data }, { on := 10, ground := Go.Ground.chain }, { on := 0, ground := Go.Ground.phase }, { on := 1, ground := Go.Ground.phase }, { on := 2, ground := Go.Ground.phase }, { on := 3, ground := Go.Ground.phase }, { on := 4, ground := Go.Ground.phase }, { on := 5, ground := Go.Ground.phase }, { on := 6, ground := Go.Ground.phase }, { on := 7, ground := Go.Ground.phase }, { on := 8, ground := Go.Ground.phase }, { on := 9, ground := Go.Ground.phase }, { on := 10, ground := Go.Ground.phase }, { on := 11, ground := Go.Ground.phase }, { on := 12, ground := Go.Ground.phase }], guard := Option.none }) (v := ?_) rfl (by kernel_rfl) (by kernel_rfl) (by kernel_rfl) (fun _ _ _ h => h) (Or.inl ⟨by rfl, ?_⟩) (by assumption) ?_
  rotate_left
  · (intro w hSw; (try dsimp only at hSw); go_simp; try with_reducible rfl)
  try simp only [Act.put, List.setIfInBounds_toArray, List.set_cons_zero, List.set_cons_succ]
  refine wpAnyH_done (by kernel_rfl) ?_ _
  have HSE := Lib.hid (HB1.out.trans (HS.mono HB1.out.size))
  have x2' := (HS.cell hb1).trans x2
  clear HS
  by_cases h0 : ns.length = 0
  · have HF := Lib.hid (show str (St.mk 6 nm ns e a g lo hi bd el).first = B12 by rw [HT0.out h0, HB12.out])
    rw [h0] at x2'
    go_wp2_with fail
    go_ret
    exact ⟨ret_strE HF.out.symm, HSE.out⟩
  · obtain ⟨JT, hJT⟩ : ∃ J, J = str (Lib.join ns [44, 32]) := ⟨_, rfl⟩
    obtain ⟨B13, hB13⟩ : ∃ B, B = str (Lib.join ns [44, 32] ++ [32, 61, 32]) := ⟨_, rfl⟩
    obtain ⟨B14, hB14⟩ : ∃ B, B = str ((Lib.join ns [44, 32] ++ [32, 61, 32]) ++ ((nm ++ ([40] ++ Lib.join g.texts [44, 32] ++ [41])) ++ [59])) := ⟨_, rfl⟩
    have hl2 := HL.out.2 h0
    have qB13 : ∀ w : World, (Op.stringOp .add JT ⟨#[32, 61, 32]⟩).run Tryd.prog w = .ok (.string B13) w := fun w => by
      rw [hJT, hB13]; exact add_str (Lib.join ns [44, 32]) [32, 61, 32] (by simp only [List.length_cons, List.length_nil]; omega) w
    have qB14 : ∀ w : World, (Op.stringOp .add B13 B12).run Tryd.prog w = .ok (.string B14) w := fun w => by
      rw [hB13, HB12.out, hB14]; exact add_str (Lib.join ns [44, 32] ++ [32, 61, 32]) ((nm ++ ([40] ++ Lib.join g.texts [44, 32] ++ [41])) ++ [59]) (by simp only [List.length_append, List.length_cons, List.length_nil]; omega) w
    have HF := Lib.hid (show str (St.mk 6 nm ns e a g lo hi bd el).first = B14 by rw [HT1.out h0, hB14])
    have HJ2 := Lib.hid (HJn.out _ HSE.out (by omega))
    rw [← hJT] at HJ2
    have hpos : 0 < ns.length := by omega
    have hne : ((ns.length : Int) == 0) = false := by rw [beq_eq_false_iff_ne]; omega
    clear hJT hB13 hB14 hl2 h0
    generalize ns.length = nn at *
    go_wp2_with fail
    refine HJ2.out.mono ?_
    rintro z wb ⟨rfl, hB'⟩
    have HSE2 := Lib.hid (HSE.out.trans (hB'.mono HSE.out.size))
    clear hB'
    go_wp2_with fail
    go_ret
    exact ⟨ret_strE HF.out.symm, HSE2.out⟩
theorem first_any (x : St) (hm : x.may = true) (b o m : Nat) (w : World) (hb : b < w.heap.size) (hx : x.At w w.heap.size b o) (hmp : w.heap[m]? = some (fmap signT)) (hG : Glob w) (hl : x.first.length ≤ 1000000) :
    Calls Tryd.prog 75 #[.agg #[.map (some m)], .pointer (some ⟨b, o, none⟩)] w fun z w' => z = .returned (.string (str x.first)) ∧ Below w.heap.size w w' := by
  obtain ⟨kd, nm, ns, e, a, g, lo, hi, bd, el⟩ := x
  have hno : kd < 1 ∨ 6 < kd ∨ kd = 1 ∨ kd = 2 ∨ kd = 3 ∨ kd = 4 ∨ kd = 5 ∨ kd = 6 := by omega
  rcases hno with h | h | rfl | rfl | rfl | rfl | rfl | rfl
  · rw [st_may_no kd (.inl h)] at hm; cases hm
  · rw [st_may_no kd (.inr h)] at hm; cases hm
  · rw [st_may_1] at hm; simp only [Bool.and_eq_true] at hm
    exact first_1 nm ns e a g lo hi bd el hm.1.2 b o m w hb hx hmp hG hl
  · rw [st_may_2] at hm; simp only [Bool.and_eq_true] at hm
    exact first_2 nm ns e a g lo hi bd el hm.1.2.2 hm.1.2.1 b o m w hb hx hmp hG hl
  · rw [st_may_3] at hm; simp only [Bool.and_eq_true] at hm
    exact first_3 nm ns e a g lo hi bd el hm.1.1 b o m w hb hx hmp hG hl
  · rw [st_may_4] at hm; simp only [Bool.and_eq_true] at hm
    exact first_4 nm ns e a g lo hi bd el hm.1.1 b o m w hb hx hmp hG hl
  · exact first_5 nm ns e a g lo hi bd el b o m w hb hx hmp hG hl
  · rw [st_may_6] at hm; simp only [Bool.and_eq_true] at hm
    exact first_6 nm ns e a g lo hi bd el hm.1.2.2 b o m w hb hx hmp hG hl
end Go.Proofs.YtkjhofnkgcjcoaaDoor
