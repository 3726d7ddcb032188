/- K9, KA, KB, KC as one. -/
import Derived.Test.YtchbnkepmeelkaaGreatDoorPB
import Derived.Deep.RegionHeld3
import Derived.Deep.RegionHeld
/- Does a statement begin; is it a name ahead of that text. -/
namespace Go.Proofs.YtchbnkepmeelkaaGreatDoor
open Go.RowKit

set_option maxRecDepth 100000 in
set_option maxHeartbeats 3200000 in
theorem isStmt_any (pb tb tf tc k d : Nat) (ts : List Tok) (t : Tok) (w : World) (h : Ps w pb tb tf tc ts k d) (hk : ts[k]? = some t) :
    Calls Tryz.prog 170 #[.pointer (some ⟨pb, 0, none⟩)] w fun e w' => e = .returned (.bool (beginsS t)) ∧ Below w.heap.size w w' := by
  have HH := Lib.hid (here_any pb tb tf tc k d ts t w h hk)
  have HI := Lib.hid (fun (s : List UInt8) (w' : World) (hB : Below w.heap.size w w') => is_any s pb tb tf tc k d ts t w' (h.later hB) hk)
  unfold Tok.val at HH
  have hfl := fld0 (t.kind : Int) (t.word : Int) (t.line : Int) (t.col : Int) (str t.text)
  have I1 := Lib.hid (HI.out [105, 102])
  have I2 := Lib.hid (HI.out [119, 104, 105, 108, 101])
  have I3 := Lib.hid (HI.out [102, 111, 114])
  unfold beginsS wIf wWhile wFor
  have q1 : ((t.kind : Int) == 1) = decide (t.kind = 1) := by by_cases h : t.kind = 1 <;> simp [h]; omega
  generalize decide (t.kind = 1) = a1 at *
  generalize decide (t.text = [105, 102]) = b1 at *
  generalize decide (t.text = [119, 104, 105, 108, 101]) = b2 at *
  generalize decide (t.text = [102, 111, 114]) = b3 at *
  clear h hk HI
  go_enter Tryz.func170, Tryz.ntmps170
  go_wp2_with fail
  refine HH.out.mono ?_
  rintro z w1 ⟨rfl, hB1⟩
  have HB1 := Lib.hid hB1
  clear hB1 HH
  cases a1
  rotate_left
  · go_wp2_with fail
    go_ret
    exact ⟨rfl, HB1.out⟩
  go_wp2_with fail
  refine (I1.out _ HB1.out).mono ?_
  rintro z w2 ⟨rfl, hB2⟩
  have HB2 := Lib.hid (HB1.out.trans (hB2.mono HB1.out.size))
  clear hB2 I1
  cases b1
  rotate_left
  · go_wp2_with fail
    go_ret
    exact ⟨rfl, HB2.out⟩
  go_wp2_with fail
  refine (I2.out _ HB2.out).mono ?_
  rintro z w3 ⟨rfl, hB3⟩
  have HB3 := Lib.hid (HB2.out.trans (hB3.mono HB2.out.size))
  clear hB3 I2
  cases b2
  rotate_left
  · go_wp2_with fail
    go_ret
    exact ⟨rfl, HB3.out⟩
  go_wp2_with fail
  refine (I3.out _ HB3.out).mono ?_
  rintro z w4 ⟨rfl, hB4⟩
  have HB4 := Lib.hid (HB3.out.trans (hB4.mono HB3.out.size))
  clear hB4 I3
  go_wp2_with fail
  go_ret
  exact ⟨by simp, HB4.out⟩
set_option maxRecDepth 100000 in
set_option maxHeartbeats 3200000 in
theorem ahead_no (s : List UInt8) (pb tb tf tc k d : Nat) (ts : List Tok) (t : Tok) (w : World) (h : Ps w pb tb tf tc ts k d) (hk : ts[k]? = some t) (hn : t.kind ≠ 1) :
    Calls Tryz.prog 164 #[.pointer (some ⟨pb, 0, none⟩), .string (str s)] w fun e w' => e = .returned (.bool false) ∧ Below w.heap.size w w' := by
  have HH := Lib.hid (fun (w' : World) (hB : Below w.heap.size w w') => here_any pb tb tf tc k d ts t w' (h.later hB) hk)
  unfold Tok.val at HH
  have hfl := fld0 (t.kind : Int) (t.word : Int) (t.line : Int) (t.col : Int) (str t.text)
  have e1 : ((t.kind : Int) == 1) = false := by simp; omega
  have n1 : ¬ (t.kind : Int) = 1 := by omega
  clear h hk hn
  go_enter Tryz.func164, Tryz.ntmps164
  go_wp2_with fail
  have HSB : Below w.heap.size w w.drew := (Below.refl _ _).drew
  refine wp_region_held_drew (S := fun W => Below w.heap.size w W) (by kernel_rfl) ?_ (fun hHeld => ?_)
  · exact HSB
  refine wpAnyH_take (i := 0) (oi := ⟨some 5, .move (.tmp 0), 73, "parser.go:45", #[], none⟩) (v := ?_) rfl (by kernel_rfl) (by kernel_rfl) (by kernel_rfl) (fun _ _ _ h => h) (Or.inl ⟨by rfl, ?_⟩) (by assumption) ?_
  rotate_left
  · (intro w hSw; (try dsimp only at hSw); go_simp; try with_reducible rfl)
  try simp only [Act.put, List.setIfInBounds_toArray, List.set_cons_zero, List.set_cons_succ]
  refine wpAnyH_ready (rs := [1]) (by kernel_rfl) (by simp) ?_
  refine AllReadyH.cons (o := ⟨some 6, .call { callee := .value (.func 148), args := #[.tmp 5], argTypes := #[73] }, 156, "parser.go:45", #[⟨0, .data⟩], none⟩) rfl (fun K hK => ?_) AllReadyH.nil
  go_simp
  refine (HH.out _ HSB).mono ?_
  rintro z w1 ⟨rfl, hB'⟩
  replace HSB := HSB.trans (hB'.mono HSB.size)
  clear hB'
  refine hK.out _ _ ?_ (fun hHeld => ?_)
  · exact HSB
  clear hK K
  try simp only [Act.put, List.setIfInBounds_toArray, List.set_cons_zero, List.set_cons_succ]
  refine wpAnyH_take (i := 2) (oi := ⟨some 7, .field 156 (.tmp 6) 0, 153, "parser.go:45", #[⟨1, .data⟩], none⟩) (v := .int .i64 (t.kind : Int)) rfl (by kernel_rfl) (by kernel_rfl) (by kernel_rfl) (fun _ _ _ h => h) (Or.inl ⟨by rfl, ?_⟩) (by assumption) ?_
  · (intro w hSw; (try dsimp only at hSw); go_simp)
  try simp only [Act.put, List.setIfInBounds_toArray, List.set_cons_zero, List.set_cons_succ]
  refine wpAnyH_take (i := 3) (oi := ⟨some 8, .binOp .eql 153 (.tmp 7) (.const (.int .i64 1)) 153, 4, "parser.go:45", #[⟨2, .data⟩], none⟩) (v := .bool false) rfl (by kernel_rfl) (by kernel_rfl) (by kernel_rfl) (fun _ _ _ h => h) (Or.inl ⟨by rfl, ?_⟩) (by assumption) ?_
  · (intro w hSw; (try dsimp only at hSw); go_simp)
  try simp only [Act.put, List.setIfInBounds_toArray, List.set_cons_zero, List.set_cons_succ]
  refine wpAnyH_take (i := 4) (oi := ⟨some 9, .move (.tmp 8), 4, "parser.go:45", #[⟨3, .data⟩, ⟨1, .chain⟩], none⟩) (v := ?_) rfl (by kernel_rfl) (by kernel_rfl) (by kernel_rfl) (fun _ _ _ h => h) (Or.inl ⟨by rfl, ?_⟩) (by assumption) ?_
  rotate_left
  · (intro w hSw; (try dsimp only at hSw); go_simp; try with_reducible rfl)
  try simp only [Act.put, List.setIfInBounds_toArray, List.set_cons_zero, List.set_cons_succ]
  refine wpAnyH_take (i := 5) (oi := ⟨some 10, .move (.tmp 0), 73, "parser.go:45", #[⟨4, .guard⟩], some (4, Bool.true)⟩) (v := undef) rfl (by kernel_rfl) (by kernel_rfl) (by kernel_rfl) (fun _ _ _ h => h) (Or.inr ⟨by rfl, rfl⟩) (by assumption) ?_
  try simp only [Act.put, List.setIfInBounds_toArray, List.set_cons_zero, List.set_cons_succ]
  refine wpAnyH_take (i := 6) (oi := ⟨some 11, .nilCheck (.tmp 10), 0, "parser.go:45", #[⟨5, .data⟩, ⟨4, .guard⟩], some (4, Bool.true)⟩) (v := undef) rfl (by kernel_rfl) (by kernel_rfl) (by kernel_rfl) (fun _ _ _ h => h) (Or.inr ⟨by rfl, rfl⟩) (by assumption) ?_
  try simp only [Act.put, List.setIfInBounds_toArray, List.set_cons_zero, List.set_cons_succ]
  refine wpAnyH_take (i := 7) (oi := ⟨some 12, .fieldAddr 201 (.tmp 11) 0, 0, "parser.go:45", #[⟨6, .data⟩, ⟨4, .guard⟩], some (4, Bool.true)⟩) (v := undef) rfl (by kernel_rfl) (by kernel_rfl) (by kernel_rfl) (fun _ _ _ h => h) (Or.inr ⟨by rfl, rfl⟩) (by assumption) ?_
  try simp only [Act.put, List.setIfInBounds_toArray, List.set_cons_zero, List.set_cons_succ]
  refine wpAnyH_take (i := 8) (oi := ⟨some 13, .load 85 (.tmp 12), 85, "parser.go:45", #[⟨7, .data⟩, ⟨4, .guard⟩], some (4, Bool.true)⟩) (v := undef) rfl (by kernel_rfl) (by kernel_rfl) (by kernel_rfl) (fun _ _ _ h => h) (Or.inr ⟨by rfl, rfl⟩) (by assumption) ?_
  try simp only [Act.put, List.setIfInBounds_toArray, List.set_cons_zero, List.set_cons_succ]
  refine wpAnyH_take (i := 9) (oi := ⟨some 14, .move (.tmp 0), 73, "parser.go:45", #[⟨4, .guard⟩], some (4, Bool.true)⟩) (v := undef) rfl (by kernel_rfl) (by kernel_rfl) (by kernel_rfl) (fun _ _ _ h => h) (Or.inr ⟨by rfl, rfl⟩) (by assumption) ?_
  try simp only [Act.put, List.setIfInBounds_toArray, List.set_cons_zero, List.set_cons_succ]
  refine wpAnyH_take (i := 10) (oi := ⟨some 15, .nilCheck (.tmp 14), 0, "parser.go:45", #[⟨9, .data⟩, ⟨4, .guard⟩], some (4, Bool.true)⟩) (v := undef) rfl (by kernel_rfl) (by kernel_rfl) (by kernel_rfl) (fun _ _ _ h => h) (Or.inr ⟨by rfl, rfl⟩) (by assumption) ?_
  try simp only [Act.put, List.setIfInBounds_toArray, List.set_cons_zero, List.set_cons_succ]
  refine wpAnyH_take (i := 11) (oi := ⟨some 16, .fieldAddr 201 (.tmp 15) 1, 0, "parser.go:45", #[⟨10, .data⟩, ⟨4, .guard⟩], some (4, Bool.true)⟩) (v := undef) rfl (by kernel_rfl) (by kernel_rfl) (by kernel_rfl) (fun _ _ _ h => h) (Or.inr ⟨by rfl, rfl⟩) (by assumption) ?_
  try simp only [Act.put, List.setIfInBounds_toArray, List.set_cons_zero, List.set_cons_succ]
  refine wpAnyH_take (i := 12) (oi := ⟨some 17, .load 3 (.tmp 16), 3, "parser.go:45", #[⟨11, .data⟩, ⟨4, .guard⟩], some (4, Bool.true)⟩) (v := undef) rfl (by kernel_rfl) (by kernel_rfl) (by kernel_rfl) (fun _ _ _ h => h) (Or.inr ⟨by rfl, rfl⟩) (by assumption) ?_
  try simp only [Act.put, List.setIfInBounds_toArray, List.set_cons_zero, List.set_cons_succ]
  refine wpAnyH_take (i := 13) (oi := ⟨some 18, .binOp .add 3 (.tmp 17) (.const (.int .i64 1)) 3, 3, "parser.go:45", #[⟨12, .data⟩, ⟨4, .guard⟩], some (4, Bool.true)⟩) (v := undef) rfl (by kernel_rfl) (by kernel_rfl) (by kernel_rfl) (fun _ _ _ h => h) (Or.inr ⟨by rfl, rfl⟩) (by assumption) ?_
  try simp only [Act.put, List.setIfInBounds_toArray, List.set_cons_zero, List.set_cons_succ]
  refine wpAnyH_take (i := 14) (oi := ⟨some 19, .indexAddr 85 (.tmp 13) (.tmp 18), 0, "parser.go:45", #[⟨8, .data⟩, ⟨13, .data⟩, ⟨4, .guard⟩], some (4, Bool.true)⟩) (v := undef) rfl (by kernel_rfl) (by kernel_rfl) (by kernel_rfl) (fun _ _ _ h => h) (Or.inr ⟨by rfl, rfl⟩) (by assumption) ?_
  try simp only [Act.put, List.setIfInBounds_toArray, List.set_cons_zero, List.set_cons_succ]
  refine wpAnyH_take (i := 15) (oi := ⟨some 20, .fieldAddr 156 (.tmp 19) 1, 0, "parser.go:45", #[⟨14, .data⟩, ⟨4, .guard⟩], some (4, Bool.true)⟩) (v := undef) rfl (by kernel_rfl) (by kernel_rfl) (by kernel_rfl) (fun _ _ _ h => h) (Or.inr ⟨by rfl, rfl⟩) (by assumption) ?_
  try simp only [Act.put, List.setIfInBounds_toArray, List.set_cons_zero, List.set_cons_succ]
  refine wpAnyH_take (i := 16) (oi := ⟨some 21, .load 9 (.tmp 20), 9, "parser.go:45", #[⟨15, .data⟩, ⟨4, .guard⟩], some (4, Bool.true)⟩) (v := undef) rfl (by kernel_rfl) (by kernel_rfl) (by kernel_rfl) (fun _ _ _ h => h) (Or.inr ⟨by rfl, rfl⟩) (by assumption) ?_
  try simp only [Act.put, List.setIfInBounds_toArray, List.set_cons_zero, List.set_cons_succ]
  refine wpAnyH_take (i := 17) (oi := ⟨some 22, .move (.tmp 1), 9, "parser.go:45", #[⟨4, .guard⟩], some (4, Bool.true)⟩) (v := undef) rfl (by kernel_rfl) (by kernel_rfl) (by kernel_rfl) (fun _ _ _ h => h) (Or.inr ⟨by rfl, rfl⟩) (by assumption) ?_
  try simp only [Act.put, List.setIfInBounds_toArray, List.set_cons_zero, List.set_cons_succ]
  refine wpAnyH_take (i := 18) (oi := ⟨some 23, .binOp .eql 9 (.tmp 21) (.tmp 22) 9, 4, "parser.go:45", #[⟨16, .data⟩, ⟨17, .data⟩, ⟨4, .guard⟩], some (4, Bool.true)⟩) (v := undef) rfl (by kernel_rfl) (by kernel_rfl) (by kernel_rfl) (fun _ _ _ h => h) (Or.inr ⟨by rfl, rfl⟩) (by assumption) ?_
  try simp only [Act.put, List.setIfInBounds_toArray, List.set_cons_zero, List.set_cons_succ]
  refine wpAnyH_take (i := 19) (oi := ⟨some 24, .pick (.tmp 9) (.tmp 23) (.const (.bool Bool.false)), 4, "parser.go:45", #[⟨4, .data⟩, ⟨18, .data⟩], none⟩) (v := .bool false) rfl (by kernel_rfl) (by kernel_rfl) (by kernel_rfl) (fun _ _ _ h => h) (Or.inl ⟨by rfl, ?_⟩) (by assumption) ?_
  · (intro w hSw; (try dsimp only at hSw); go_simp)
  try simp only [Act.put, List.setIfInBounds_toArray, List.set_cons_zero, List.set_cons_succ]
  refine wpAnyH_take (i := 20) (oi := ⟨some 4, .assign (.tmp 24), 4, "parser.go:45", #[⟨19, .data⟩, ⟨4, .chain⟩, ⟨0, .phase⟩, ⟨1, .phase⟩, ⟨2, .phase⟩, ⟨3, .phase⟩, ⟨4, .phase⟩, ⟨5, .phase⟩, ⟨6, .phase⟩, ⟨7, .phase⟩, ⟨8, .phase⟩, ⟨9, .phase⟩, ⟨10, .phase⟩, ⟨11, .phase⟩, ⟨12, .phase⟩, ⟨13, .phase⟩, ⟨14, .phase⟩, ⟨15, .phase⟩, ⟨16, .phase⟩, ⟨17, .phase⟩, ⟨18, .phase⟩, ⟨19, .phase⟩], none⟩) (v := ?_) rfl (by kernel_rfl) (by kernel_rfl) (by kernel_rfl) (fun _ _ _ h => h) (Or.inl ⟨by rfl, ?_⟩) (by assumption) ?_
  rotate_left
  · (intro w hSw; (try dsimp only at hSw); go_simp; try with_reducible rfl)
  try simp only [Act.put, List.setIfInBounds_toArray, List.set_cons_zero, List.set_cons_succ]
  refine wpAnyH_done (by kernel_rfl) ?_ _
  go_wp2_with fail
  go_ret
  exact ⟨rfl, HSB⟩
set_option maxRecDepth 100000 in
set_option maxHeartbeats 3200000 in
theorem ahead_name (s : List UInt8) (pb tb tf tc k d : Nat) (ts : List Tok) (t u : Tok) (w : World) (h : Ps w pb tb tf tc ts k d) (hk : ts[k]? = some t) (hu : ts[k + 1]? = some u) (hn : t.kind = 1) :
    Calls Tryz.prog 164 #[.pointer (some ⟨pb, 0, none⟩), .string (str s)] w fun e w' => e = .returned (.bool (decide (u.text = s))) ∧ Below w.heap.size w w' := by
  have hlt : k + 1 < ts.length := (List.getElem?_eq_some_iff.1 hu).1
  have hl := h.ln
  have HH := Lib.hid (fun (w' : World) (hB : Below w.heap.size w w') => here_any pb tb tf tc k d ts t w' (h.later hB) hk)
  unfold Tok.val at HH
  have HX := Lib.hid (fun (w' : World) (hB : Below w.heap.size w w') => show w'.cell? ⟨pb, 0, none⟩ = some (.slice (some ⟨tb, tf, none⟩) ts.length tc) ∧ w'.cell? ⟨pb, 1, none⟩ = some (.int .i64 (k : Int)) ∧ w'.cell? ⟨tb, tf + (k + 1) * 5 + 1, none⟩ = some (.string (str u.text)) from
    ⟨cell_blk (h.later hB).pr rfl, cell_blk (h.later hB).pr rfl, ((h.later hB).tk (k + 1) u hu).text⟩)
  have hfl := fld0 (t.kind : Int) (t.word : Int) (t.line : Int) (t.col : Int) (str t.text)
  have hfl' := fld0 1 (t.word : Int) (t.line : Int) (t.col : Int) (str t.text)
  rw [hn] at HH
  have hb0 : (0 : Int) ≤ (k : Int) + 1 := by omega
  have hb1 : ¬ (ts.length : Int) ≤ (k : Int) + 1 := by omega
  have hb2 : (k : Int) + 1 < (ts.length : Int) := by omega
  have hq := str_eqb u.text s
  obtain ⟨A, hA⟩ : ∃ A, str u.text = A := ⟨_, rfl⟩
  obtain ⟨B, hB⟩ : ∃ B, str s = B := ⟨_, rfl⟩
  rw [hA] at HX hq
  rw [hB] at hq ⊢
  generalize decide (u.text = s) = b at *
  have hw : IntKind.i64.wrap ((k : Int) + 1) = ((k + 1 : Nat) : Int) := by simp [IntKind.wrap, IntKind.bits, IntKind.signed]; omega
  clear h hk hu hA hB hfl hn
  go_enter Tryz.func164, Tryz.ntmps164
  go_wp2_with fail
  have HSB : Below w.heap.size w w.drew := (Below.refl _ _).drew
  refine wp_region_held_drew (S := fun W => W.cell? ⟨pb, 0, none⟩ = some (.slice (some ⟨tb, tf, none⟩) ts.length tc) ∧ W.cell? ⟨pb, 1, none⟩ = some (.int .i64 (k : Int)) ∧ W.cell? ⟨tb, tf + (k + 1) * 5 + 1, none⟩ = some (.string A)) (by kernel_rfl) ?_ (fun hHeld => ?_)
  · exact HX.out _ HSB
  refine wpAnyH_take (i := 0) (oi := ⟨some 5, .move (.tmp 0), 73, "parser.go:45", #[], none⟩) (v := ?_) rfl (by kernel_rfl) (by kernel_rfl) (by kernel_rfl) (fun _ _ _ h => h) (Or.inl ⟨by rfl, ?_⟩) (by assumption) ?_
  rotate_left
  · (intro w hSw; (try dsimp only at hSw); go_simp; try with_reducible rfl)
  try simp only [Act.put, List.setIfInBounds_toArray, List.set_cons_zero, List.set_cons_succ]
  refine wpAnyH_ready (rs := [1]) (by kernel_rfl) (by simp) ?_
  refine AllReadyH.cons (o := ⟨some 6, .call { callee := .value (.func 148), args := #[.tmp 5], argTypes := #[73] }, 156, "parser.go:45", #[⟨0, .data⟩], none⟩) rfl (fun K hK => ?_) AllReadyH.nil
  go_simp
  refine (HH.out _ HSB).mono ?_
  rintro z w1 ⟨rfl, hB'⟩
  replace HSB := HSB.trans (hB'.mono HSB.size)
  clear hB'
  refine hK.out _ _ ?_ (fun hHeld => ?_)
  · exact HX.out _ HSB
  clear hK K
  try simp only [Act.put, List.setIfInBounds_toArray, List.set_cons_zero, List.set_cons_succ]
  refine wpAnyH_take (i := 2) (oi := ⟨some 7, .field 156 (.tmp 6) 0, 153, "parser.go:45", #[⟨1, .data⟩], none⟩) (v := .int .i64 1) rfl (by kernel_rfl) (by kernel_rfl) (by kernel_rfl) (fun _ _ _ h => h) (Or.inl ⟨by rfl, ?_⟩) (by assumption) ?_
  · (intro w hSw; (try dsimp only at hSw); go_simp)
  try simp only [Act.put, List.setIfInBounds_toArray, List.set_cons_zero, List.set_cons_succ]
  refine wpAnyH_take (i := 3) (oi := ⟨some 8, .binOp .eql 153 (.tmp 7) (.const (.int .i64 1)) 153, 4, "parser.go:45", #[⟨2, .data⟩], none⟩) (v := .bool true) rfl (by kernel_rfl) (by kernel_rfl) (by kernel_rfl) (fun _ _ _ h => h) (Or.inl ⟨by rfl, ?_⟩) (by assumption) ?_
  · (intro w hSw; (try dsimp only at hSw); go_simp)
  try simp only [Act.put, List.setIfInBounds_toArray, List.set_cons_zero, List.set_cons_succ]
  refine wpAnyH_take (i := 4) (oi := ⟨some 9, .move (.tmp 8), 4, "parser.go:45", #[⟨3, .data⟩, ⟨1, .chain⟩], none⟩) (v := ?_) rfl (by kernel_rfl) (by kernel_rfl) (by kernel_rfl) (fun _ _ _ h => h) (Or.inl ⟨by rfl, ?_⟩) (by assumption) ?_
  rotate_left
  · (intro w hSw; (try dsimp only at hSw); go_simp; try with_reducible rfl)
  try simp only [Act.put, List.setIfInBounds_toArray, List.set_cons_zero, List.set_cons_succ]
  refine wpAnyH_take (i := 5) (oi := ⟨some 10, .move (.tmp 0), 73, "parser.go:45", #[⟨4, .guard⟩], some (4, Bool.true)⟩) (v := ?_) rfl (by kernel_rfl) (by kernel_rfl) (by kernel_rfl) (fun _ _ _ h => h) (Or.inl ⟨by rfl, ?_⟩) (by assumption) ?_
  rotate_left
  · (intro w hSw; (try dsimp only at hSw); go_simp; try with_reducible rfl)
  try simp only [Act.put, List.setIfInBounds_toArray, List.set_cons_zero, List.set_cons_succ]
  refine wpAnyH_take (i := 6) (oi := ⟨some 11, .nilCheck (.tmp 10), 0, "parser.go:45", #[⟨5, .data⟩, ⟨4, .guard⟩], some (4, Bool.true)⟩) (v := ?_) rfl (by kernel_rfl) (by kernel_rfl) (by kernel_rfl) (fun _ _ _ h => h) (Or.inl ⟨by rfl, ?_⟩) (by assumption) ?_
  rotate_left
  · (intro w hSw; (try dsimp only at hSw); go_simp; try with_reducible rfl)
  try simp only [Act.put, List.setIfInBounds_toArray, List.set_cons_zero, List.set_cons_succ]
  refine wpAnyH_take (i := 7) (oi := ⟨some 12, .fieldAddr 201 (.tmp 11) 0, 0, "parser.go:45", #[⟨6, .data⟩, ⟨4, .guard⟩], some (4, Bool.true)⟩) (v := ?_) rfl (by kernel_rfl) (by kernel_rfl) (by kernel_rfl) (fun _ _ _ h => h) (Or.inl ⟨by rfl, ?_⟩) (by assumption) ?_
  rotate_left
  · (intro w hSw; (try dsimp only at hSw); go_simp; try with_reducible rfl)
  try simp only [Act.put, List.setIfInBounds_toArray, List.set_cons_zero, List.set_cons_succ]
  refine wpAnyH_take (i := 8) (oi := ⟨some 13, .load 85 (.tmp 12), 85, "parser.go:45", #[⟨7, .data⟩, ⟨4, .guard⟩], some (4, Bool.true)⟩) (v := ?_) rfl (by kernel_rfl) (by kernel_rfl) (by kernel_rfl) (fun _ _ _ h => h) (Or.inl ⟨by rfl, ?_⟩) (by assumption) ?_
  rotate_left
  · (intro w hSw; (try dsimp only at hSw); go_simp; try with_reducible rfl)
  try simp only [Act.put, List.setIfInBounds_toArray, List.set_cons_zero, List.set_cons_succ]
  refine wpAnyH_take (i := 9) (oi := ⟨some 14, .move (.tmp 0), 73, "parser.go:45", #[⟨4, .guard⟩], some (4, Bool.true)⟩) (v := ?_) rfl (by kernel_rfl) (by kernel_rfl) (by kernel_rfl) (fun _ _ _ h => h) (Or.inl ⟨by rfl, ?_⟩) (by assumption) ?_
  rotate_left
  · (intro w hSw; (try dsimp only at hSw); go_simp; try with_reducible rfl)
  try simp only [Act.put, List.setIfInBounds_toArray, List.set_cons_zero, List.set_cons_succ]
  refine wpAnyH_take (i := 10) (oi := ⟨some 15, .nilCheck (.tmp 14), 0, "parser.go:45", #[⟨9, .data⟩, ⟨4, .guard⟩], some (4, Bool.true)⟩) (v := ?_) rfl (by kernel_rfl) (by kernel_rfl) (by kernel_rfl) (fun _ _ _ h => h) (Or.inl ⟨by rfl, ?_⟩) (by assumption) ?_
  rotate_left
  · (intro w hSw; (try dsimp only at hSw); go_simp; try with_reducible rfl)
  try simp only [Act.put, List.setIfInBounds_toArray, List.set_cons_zero, List.set_cons_succ]
  refine wpAnyH_take (i := 11) (oi := ⟨some 16, .fieldAddr 201 (.tmp 15) 1, 0, "parser.go:45", #[⟨10, .data⟩, ⟨4, .guard⟩], some (4, Bool.true)⟩) (v := ?_) rfl (by kernel_rfl) (by kernel_rfl) (by kernel_rfl) (fun _ _ _ h => h) (Or.inl ⟨by rfl, ?_⟩) (by assumption) ?_
  rotate_left
  · (intro w hSw; (try dsimp only at hSw); go_simp; try with_reducible rfl)
  try simp only [Act.put, List.setIfInBounds_toArray, List.set_cons_zero, List.set_cons_succ]
  refine wpAnyH_take (i := 12) (oi := ⟨some 17, .load 3 (.tmp 16), 3, "parser.go:45", #[⟨11, .data⟩, ⟨4, .guard⟩], some (4, Bool.true)⟩) (v := ?_) rfl (by kernel_rfl) (by kernel_rfl) (by kernel_rfl) (fun _ _ _ h => h) (Or.inl ⟨by rfl, ?_⟩) (by assumption) ?_
  rotate_left
  · (intro w hSw; (try dsimp only at hSw); go_simp; try with_reducible rfl)
  try simp only [Act.put, List.setIfInBounds_toArray, List.set_cons_zero, List.set_cons_succ]
  refine wpAnyH_take (i := 13) (oi := ⟨some 18, .binOp .add 3 (.tmp 17) (.const (.int .i64 1)) 3, 3, "parser.go:45", #[⟨12, .data⟩, ⟨4, .guard⟩], some (4, Bool.true)⟩) (v := .int .i64 ((k + 1 : Nat) : Int)) rfl (by kernel_rfl) (by kernel_rfl) (by kernel_rfl) (fun _ _ _ h => h) (Or.inl ⟨by rfl, ?_⟩) (by assumption) ?_
  · (intro w hSw; (try dsimp only at hSw); go_simp)
  try simp only [Act.put, List.setIfInBounds_toArray, List.set_cons_zero, List.set_cons_succ]
  refine wpAnyH_take (i := 14) (oi := ⟨some 19, .indexAddr 85 (.tmp 13) (.tmp 18), 0, "parser.go:45", #[⟨8, .data⟩, ⟨13, .data⟩, ⟨4, .guard⟩], some (4, Bool.true)⟩) (v := .pointer (some ⟨tb, tf + (k + 1) * 5, none⟩)) rfl (by kernel_rfl) (by kernel_rfl) (by kernel_rfl) (fun _ _ _ h => h) (Or.inl ⟨by rfl, ?_⟩) (by assumption) ?_
  · (intro w hSw; (try dsimp only at hSw); go_simp)
  try simp only [Act.put, List.setIfInBounds_toArray, List.set_cons_zero, List.set_cons_succ]
  refine wpAnyH_take (i := 15) (oi := ⟨some 20, .fieldAddr 156 (.tmp 19) 1, 0, "parser.go:45", #[⟨14, .data⟩, ⟨4, .guard⟩], some (4, Bool.true)⟩) (v := .pointer (some ⟨tb, tf + (k + 1) * 5 + 1, none⟩)) rfl (by kernel_rfl) (by kernel_rfl) (by kernel_rfl) (fun _ _ _ h => h) (Or.inl ⟨by rfl, ?_⟩) (by assumption) ?_
  · (intro w hSw; (try dsimp only at hSw); go_simp)
  try simp only [Act.put, List.setIfInBounds_toArray, List.set_cons_zero, List.set_cons_succ]
  refine wpAnyH_take (i := 16) (oi := ⟨some 21, .load 9 (.tmp 20), 9, "parser.go:45", #[⟨15, .data⟩, ⟨4, .guard⟩], some (4, Bool.true)⟩) (v := .string A) rfl (by kernel_rfl) (by kernel_rfl) (by kernel_rfl) (fun _ _ _ h => h) (Or.inl ⟨by rfl, ?_⟩) (by assumption) ?_
  · (intro w hSw; (try dsimp only at hSw); go_simp)
  try simp only [Act.put, List.setIfInBounds_toArray, List.set_cons_zero, List.set_cons_succ]
  refine wpAnyH_take (i := 17) (oi := ⟨some 22, .move (.tmp 1), 9, "parser.go:45", #[⟨4, .guard⟩], some (4, Bool.true)⟩) (v := ?_) rfl (by kernel_rfl) (by kernel_rfl) (by kernel_rfl) (fun _ _ _ h => h) (Or.inl ⟨by rfl, ?_⟩) (by assumption) ?_
  rotate_left
  · (intro w hSw; (try dsimp only at hSw); go_simp; try with_reducible rfl)
  try simp only [Act.put, List.setIfInBounds_toArray, List.set_cons_zero, List.set_cons_succ]
  refine wpAnyH_take (i := 18) (oi := ⟨some 23, .binOp .eql 9 (.tmp 21) (.tmp 22) 9, 4, "parser.go:45", #[⟨16, .data⟩, ⟨17, .data⟩, ⟨4, .guard⟩], some (4, Bool.true)⟩) (v := .bool b) rfl (by kernel_rfl) (by kernel_rfl) (by kernel_rfl) (fun _ _ _ h => h) (Or.inl ⟨by rfl, ?_⟩) (by assumption) ?_
  · (intro w hSw; (try dsimp only at hSw); go_simp)
  try simp only [Act.put, List.setIfInBounds_toArray, List.set_cons_zero, List.set_cons_succ]
  refine wpAnyH_take (i := 19) (oi := ⟨some 24, .pick (.tmp 9) (.tmp 23) (.const (.bool Bool.false)), 4, "parser.go:45", #[⟨4, .data⟩, ⟨18, .data⟩], none⟩) (v := .bool b) rfl (by kernel_rfl) (by kernel_rfl) (by kernel_rfl) (fun _ _ _ h => h) (Or.inl ⟨by rfl, ?_⟩) (by assumption) ?_
  · (intro w hSw; (try dsimp only at hSw); go_simp)
  try simp only [Act.put, List.setIfInBounds_toArray, List.set_cons_zero, List.set_cons_succ]
  refine wpAnyH_take (i := 20) (oi := ⟨some 4, .assign (.tmp 24), 4, "parser.go:45", #[⟨19, .data⟩, ⟨4, .chain⟩, ⟨0, .phase⟩, ⟨1, .phase⟩, ⟨2, .phase⟩, ⟨3, .phase⟩, ⟨4, .phase⟩, ⟨5, .phase⟩, ⟨6, .phase⟩, ⟨7, .phase⟩, ⟨8, .phase⟩, ⟨9, .phase⟩, ⟨10, .phase⟩, ⟨11, .phase⟩, ⟨12, .phase⟩, ⟨13, .phase⟩, ⟨14, .phase⟩, ⟨15, .phase⟩, ⟨16, .phase⟩, ⟨17, .phase⟩, ⟨18, .phase⟩, ⟨19, .phase⟩], none⟩) (v := ?_) rfl (by kernel_rfl) (by kernel_rfl) (by kernel_rfl) (fun _ _ _ h => h) (Or.inl ⟨by rfl, ?_⟩) (by assumption) ?_
  rotate_left
  · (intro w hSw; (try dsimp only at hSw); go_simp; try with_reducible rfl)
  try simp only [Act.put, List.setIfInBounds_toArray, List.set_cons_zero, List.set_cons_succ]
  refine wpAnyH_done (by kernel_rfl) ?_ _
  go_wp2_with fail
  go_ret
  exact ⟨rfl, HSB⟩
end Go.Proofs.YtchbnkepmeelkaaGreatDoor
/- An operation's expression; the end. -/
namespace Go.Proofs.YtchbnkepmeelkaaGreatDoor
open Go.RowKit

theorem set4 {w : World} {g : Nat} {a b c e : Value} {t : TypeId} {fz : Nat × Nat} (h : w.heap[g]? = some (.cells #[a, b, c, e] t fz)) (v0 v1 v2 v3 : Value) :
    ((((w.setCell ⟨g, 0, none⟩ v0).setCell ⟨g, 1, none⟩ v1).setCell ⟨g, 2, none⟩ v2).setCell ⟨g, 3, none⟩ v3).heap[g]? = some (.cells #[v0, v1, v2, v3] t fz) := by
  have h0 : (w.setCell ⟨g, 0, none⟩ v0).heap[g]? = some (.cells #[v0, b, c, e] t fz) := by rw [setCell_eq_setRow w g 0 _ t fz _ h]; exact setRow_heap w g _ _ t fz h
  have h1 : ((w.setCell ⟨g, 0, none⟩ v0).setCell ⟨g, 1, none⟩ v1).heap[g]? = some (.cells #[v0, v1, c, e] t fz) := by rw [setCell_eq_setRow _ g 1 _ t fz _ h0]; exact setRow_heap _ g _ _ t fz h0
  have h2 : (((w.setCell ⟨g, 0, none⟩ v0).setCell ⟨g, 1, none⟩ v1).setCell ⟨g, 2, none⟩ v2).heap[g]? = some (.cells #[v0, v1, v2, e] t fz) := by rw [setCell_eq_setRow _ g 2 _ t fz _ h1]; exact setRow_heap _ g _ _ t fz h1
  rw [setCell_eq_setRow _ g 3 _ t fz _ h2]; exact setRow_heap _ g _ _ t fz h2
set_option maxHeartbeats 1600000 in
theorem exprOf_any (op : Int) (p : Option Addr) (n c : Nat) (w : World) :
    Calls Tryz.prog 166 #[.int .i64 op, .slice p n c] w fun e w' => e = .returned (.agg #[.int .i64 op, .int .u64 0, .string ⟨#[]⟩, .slice p n c]) ∧ Below w.heap.size w w' := by
  obtain ⟨W0, hW0⟩ : ∃ W0, w.alloc (.cells #[.int .i64 0, .int .u64 0, .string ⟨#[]⟩, .slice none 0 0] 39) = W0 := ⟨_, rfl⟩
  have hB0 : Below w.heap.size w W0 := by rw [← hW0]; exact (Below.refl _ _).alloc (Nat.le_refl _) _
  have hk0 : W0.heap[w.heap.size]? = some (.cells #[.int .i64 0, .int .u64 0, .string ⟨#[]⟩, .slice none 0 0] 39 (0, 0)) := by rw [← hW0]; exact heap_alloc_new w _
  have z0 : W0.cell? ⟨w.heap.size, 0, none⟩ = some (.int .i64 0) := cell_blk hk0 rfl
  have z1 : W0.cell? ⟨w.heap.size, 1, none⟩ = some (.int .u64 0) := cell_blk hk0 rfl
  have z2 : W0.cell? ⟨w.heap.size, 2, none⟩ = some (.string ⟨#[]⟩) := cell_blk hk0 rfl
  have z3 : W0.cell? ⟨w.heap.size, 3, none⟩ = some (.slice none 0 0) := cell_blk hk0 rfl
  have hf : ∀ j, W0.frozen? ⟨w.heap.size, j, none⟩ = false := fun j => by simp [World.frozen?, hk0]
  have f0 := hf 0
  have f1 := hf 1
  have f2 := hf 2
  have f3 := hf 3
  have HR := Lib.hid (set4 hk0 (.int .i64 op) (.int .u64 0) (.string ⟨#[]⟩) (.slice p n c))
  have HB := Lib.hid hB0
  have HW0 := Lib.hid hW0
  clear hB0 hk0 hf hW0
  go_enter Tryz.func166, Tryz.ntmps166
  go_upto_region 1 with fail
  rw [HW0.out]
  go_wp2_with fail
  have hF := HR.out
  refine bodyPost_ret (v := .agg #[.int .i64 op, .int .u64 0, .string ⟨#[]⟩, .slice p n c]) ?_ rfl ⟨rfl, ?_⟩
  · have y0 := cell_blk hF (j := 0) rfl
    have y1 := cell_blk hF (j := 1) rfl
    have y2 := cell_blk hF (j := 2) rfl
    have y3 := cell_blk hF (j := 3) rfl
    generalize (((W0.setCell ⟨w.heap.size, 0, none⟩ (.int .i64 op)).setCell ⟨w.heap.size, 1, none⟩ (.int .u64 0)).setCell ⟨w.heap.size, 2, none⟩ (.string ⟨#[]⟩)).setCell ⟨w.heap.size, 3, none⟩ (.slice p n c) = F at *
    simp [results, Tryz.results166, go_sem, y0, y1, y2, y3]
  · exact (((HB.out.setCell (p := ⟨w.heap.size, 0, none⟩) (Nat.le_refl _) _).setCell (p := ⟨w.heap.size, 1, none⟩) (Nat.le_refl _) _).setCell (p := ⟨w.heap.size, 2, none⟩) (Nat.le_refl _) _).setCell (p := ⟨w.heap.size, 3, none⟩) (Nat.le_refl _) _
set_option maxHeartbeats 1600000 in
theorem wantEnd_yes (pb tb tf tc k d : Nat) (ts : List Tok) (t : Tok) (w : World) (h : Ps w pb tb tf tc ts k d) (hk : ts[k]? = some t) (hs : t.text = []) :
    Calls Tryz.prog 101 #[.pointer (some ⟨pb, 0, none⟩)] w fun e w' => e = .returned (.tuple #[]) ∧ Below w.heap.size w w' := by
  have HI := Lib.hid (show Calls Tryz.prog 87 #[.pointer (some ⟨pb, 0, none⟩), .string ⟨#[]⟩] w _ from is_any [] pb tb tf tc k d ts t w h hk)
  rw [decide_eq_true hs] at HI
  clear h hk hs
  go_enter Tryz.func101, Tryz.ntmps101
  go_wp2_with fail
  refine HI.out.mono ?_
  rintro z w1 ⟨rfl, hB1⟩
  have HB1 := Lib.hid hB1
  clear hB1
  go_wp2_with fail
  first | (go_end0; exact ⟨rfl, HB1.out⟩) | (refine bodyPost_ret (results_none rfl _ _ _) rfl ⟨rfl, HB1.out⟩)
set_option maxHeartbeats 1600000 in
theorem wantEnd_no (pb tb tf tc k d : Nat) (ts : List Tok) (t : Tok) (w : World) (h : Ps w pb tb tf tc ts k d) (hk : ts[k]? = some t) (hs : t.text ≠ []) :
    Calls Tryz.prog 101 #[.pointer (some ⟨pb, 0, none⟩)] w fun e w' => e = WrongIs 15 t ∧ Below w.heap.size w w' := by
  have HI := Lib.hid (show Calls Tryz.prog 87 #[.pointer (some ⟨pb, 0, none⟩), .string ⟨#[]⟩] w _ from is_any [] pb tb tf tc k d ts t w h hk)
  rw [decide_eq_false hs] at HI
  have HW := Lib.hid (fun (w' : World) (hB : Below w.heap.size w w') => wrong_any 15 pb tb tf tc k d ts t w' (h.later hB) hk)
  unfold WrongIs
  clear h hk hs
  go_enter Tryz.func101, Tryz.ntmps101
  go_wp2_with fail
  refine HI.out.mono ?_
  rintro z w1 ⟨rfl, hB1⟩
  have HB1 := Lib.hid hB1
  clear hB1
  go_wp2_with fail
  refine (HW.out w1 HB1.out).mono ?_
  rintro z w2 ⟨rfl, hB2⟩
  have HB2 := Lib.hid (HB1.out.trans (hB2.mono HB1.out.size))
  clear hB2
  go_wp2_with fail
  exact ⟨rfl, rfl, HB2.out⟩
end Go.Proofs.YtchbnkepmeelkaaGreatDoor
/- How a call of the parser ends: what is read, or what is wrong. -/
namespace Go.Proofs.YtchbnkepmeelkaaGreatDoor
open Go.RowKit

/-- worlds that agree from A on, below B -/
def Agr (A B : Nat) (w W : World) : Prop := B ≤ W.heap.size ∧ ∀ k, A ≤ k → k < B → W.heap[k]? = w.heap[k]?
theorem Agr.mono {A B A' B' : Nat} {w W : World} (h : Agr A B w W) (hA : A ≤ A') (hB : B' ≤ B) : Agr A' B' w W := ⟨Nat.le_trans hB h.1, fun k h1 h2 => h.2 k (by omega) (by omega)⟩
theorem Agr.trans {A B : Nat} {w v W : World} (h : Agr A B w v) (k : Agr A B v W) : Agr A B w W := ⟨k.1, fun i h1 h2 => (k.2 i h1 h2).trans (h.2 i h1 h2)⟩
theorem Agr.refl {A B : Nat} {w : World} (h : B ≤ w.heap.size) : Agr A B w w := ⟨h, fun _ _ _ => rfl⟩
theorem Agr.cell {A B : Nat} {w W : World} (h : Agr A B w W) {g o : Nat} (h1 : A ≤ g) (h2 : g < B) : W.cell? ⟨g, o, none⟩ = w.cell? ⟨g, o, none⟩ := World.cell?_of_block (h.2 g h1 h2)
theorem But.agr {g : Nat} {w W : World} (h : But g w W) {A B : Nat} (hA : g < A) (hB : B ≤ w.heap.size) : Agr A B w W :=
  ⟨Nat.le_trans hB h.size, fun k h1 h2 => h.block k (by omega) (by omega)⟩
theorem Agr.of_below {A B : Nat} {w W : World} (h : Below B w W) (hB : B ≤ w.heap.size) : Agr A B w W := ⟨Nat.le_trans hB h.size, fun k _ h2 => h.block k h2⟩

/-- it stays wherever the blocks from A to B are as they were -/
def Fresh (A B : Nat) (w : World) (Pp : World → Nat → Prop) : Prop := ∀ W, Agr A B w W → Pp W B
theorem Agr.set {A B : Nat} {w W : World} (h : Agr A B w W) {p : Addr} (hp : p.block < A) (v : Value) : Agr A B w (W.setCell p v) :=
  ⟨by simpa [World.setCell] using h.1, fun k h1 h2 => (Below.heap_setCell W _ _ _ (by omega)).trans (h.2 k h1 h2)⟩
theorem Fresh.to {A B : Nat} {w w' : World} {P : World → Nat → Prop} (h : Fresh A B w P) (hA : Agr A B w w') : Fresh A B w' P := fun W hW => h W (hA.trans hW)
theorem Fresh.but {A B g : Nat} {w w' : World} {P : World → Nat → Prop} (h : Fresh A B w P) (hb : But g w w') (hg : g < A) (hB : B ≤ w.heap.size) : Fresh A B w' P := h.to (hb.agr hg hB)
theorem Fresh.bel {A B : Nat} {w w' : World} {P : World → Nat → Prop} (h : Fresh A B w P) (hb : Below w.heap.size w w') (hB : B ≤ w.heap.size) : Fresh A B w' P := h.to (Agr.of_below (hb.mono hB) hB)
theorem Fresh.set {A B : Nat} {w : World} {P : World → Nat → Prop} (h : Fresh A B w P) {p : Addr} (hp : p.block < A) (hB : B ≤ w.heap.size) (v : Value) : Fresh A B (w.setCell p v) P := h.to ((Agr.refl hB).set hp v)
theorem Fresh.fin {A B A' B' : Nat} {w : World} {P : World → Nat → Prop} (h : Fresh A B w P) (hA : A' ≤ A) (hB : B ≤ B') (up : ∀ W, P W B → P W B') : Fresh A' B' w P := fun W hW => up W (h W (hW.mono hA hB))
theorem Fresh.imp {A B : Nat} {w : World} {P Q : World → Nat → Prop} (h : Fresh A B w P) (hpq : ∀ W, P W B → Q W B) : Fresh A B w Q := fun W hW => hpq W (h W hW)
theorem Ex.Ok.up {W : World} {x : Ex} {q : Option Addr} {N M : Nat} (h : x.Ok W N q) (hM : N ≤ M) : x.Ok W M q := h.later (Below.refl N W) hM
theorem Ex.At.of {W : World} {N g o c : Nat} {x : Ex} {q : Option Addr} (c0 : W.cell? ⟨g, o, none⟩ = some (.int .i64 x.op)) (c1 : W.cell? ⟨g, o + 1, none⟩ = some (.int .u64 (x.word : Int))) (c2 : W.cell? ⟨g, o + 2, none⟩ = some (.string (str x.name))) (c3 : W.cell? ⟨g, o + 3, none⟩ = some (.slice q x.args.len c)) (hk : x.Ok W N q) : x.At W N g o := by
  obtain ⟨op, wd, nm, ar⟩ := x
  exact ⟨⟨c0, c1, c2, hk.2⟩, ⟨q, c, c3, hk.1⟩⟩
theorem Res.bind_no {α β : Type} (e : Nat) (t : Tok) (f : α → List Tok → Res β) : (Res.no e t : Res α).bind f = .no e t := rfl

/-- the last token is the end's -/
def Ends (ts : List Tok) : Prop := ∃ e, ts[ts.length - 1]? = some e ∧ e.kind = 0 ∧ e.text = []
theorem Ends.next {ts : List Tok} (h : Ends ts) {k : Nat} {t : Tok} (hk : ts[k]? = some t) (ht : t.text ≠ [] ∨ t.kind ≠ 0) : k + 1 < ts.length := by
  obtain ⟨e, he, h0, h1⟩ := h
  have hl : k < ts.length := (List.getElem?_eq_some_iff.1 hk).1
  by_cases hn : k = ts.length - 1
  · subst hn
    rw [he] at hk
    cases hk
    rcases ht with ht | ht
    · exact absurd h1 ht
    · exact absurd h0 ht
  · omega
theorem drop_hd {ts : List Tok} {k : Nat} {t : Tok} (hk : ts[k]? = some t) : hdT (ts.drop k) = t := by
  unfold hdT
  rw [List.headD_eq_head?_getD, List.head?_drop, hk]
  rfl
theorem drop_tl (ts : List Tok) (k : Nat) : (ts.drop k).tail = ts.drop (k + 1) := by rw [List.tail_drop]
theorem tok_at {ts : List Tok} {k : Nat} (hk : k < ts.length) : ∃ t, ts[k]? = some t := ⟨ts[k], List.getElem?_eq_getElem hk⟩

/-- where the parser stands: at pb, its tokens in block tb -/
structure Pp where
  (pb tb tf tc : Nat) (ts : List Tok)
def Pp.At (p : Pp) (w : World) (k d : Nat) : Prop := Ps w p.pb p.tb p.tf p.tc p.ts k d
def Pp.rest (p : Pp) (k : Nat) : List Tok := p.ts.drop k
/-- how things are told as values: where their slices lie, the value, and that they lie there, below N -/
structure Rep (α : Type) where
  σ : Type
  val : α → σ → Value
  ok : World → Nat → α → σ → Prop
/-- how a call ends that reads: r is what the plain function says -/
inductive Post {α : Type} (R : Rep α) (r : Res α) (p : Pp) (d : Nat) (w : World) (z : Ending) (w' : World) : Prop where
  | ok (k : Nat) (a : α) (s : R.σ) (hr : r = .ok a (p.ts.drop k)) (hk : k < p.ts.length) (hp : Ps w' p.pb p.tb p.tf p.tc p.ts k d) (hb : But p.pb w w') (hz : z = .returned (R.val a s)) (hR : Fresh w.heap.size w'.heap.size w' (fun W N => R.ok W N a s))
  | no (k c : Nat) (t : Tok) (hr : r = .no c t) (hp : Ps w' p.pb p.tb p.tf p.tc p.ts k d) (hb : But p.pb w w') (hz : z = WrongIs (c : Int) t)
def RUnit : Rep Unit := ⟨Unit, fun _ _ => .tuple #[], fun _ _ _ _ => True⟩
def RName : Rep (List UInt8) := ⟨Unit, fun a _ => .string (str a), fun _ _ _ _ => True⟩
def RNum : Rep Nat := ⟨Unit, fun a _ => .int .u64 (a : Int), fun _ _ a _ => a < 18446744073709551616⟩
def RSize : Rep Nat := ⟨Unit, fun a _ => .int .i64 (a : Int), fun _ _ _ _ => True⟩
def RInt : Rep Int := ⟨Unit, fun a _ => .int .i64 a, fun _ _ _ _ => True⟩
def RExpr : Rep Ex := ⟨Option Addr × Nat, fun x s => x.val s.1 s.2, fun W N x s => x.Ok W N s.1⟩

theorem want_p (s : List UInt8) (p : Pp) (k d : Nat) (w : World) (h : Ps w p.pb p.tb p.tf p.tc p.ts k d) (hk : k < p.ts.length) (hE : Ends p.ts) (hs : s ≠ []) :
    Calls Tryz.prog 149 #[.pointer (some ⟨p.pb, 0, none⟩), .string (str s)] w (Post RUnit (wantP s (p.ts.drop k)) p d w) := by
  obtain ⟨t, ht⟩ := tok_at hk
  have hh := drop_hd ht
  by_cases he : t.text = s
  · refine (want_yes s p.pb p.tb p.tf p.tc k d p.ts t w h ht he).mono ?_
    rintro z w' ⟨rfl, h1, h2⟩
    refine .ok (k + 1) () () ?_ (hE.next ht (.inl (by rw [he]; exact hs))) h1 h2 rfl (fun _ _ => trivial)
    unfold wantP
    rw [hh, if_pos he, drop_tl]
  · refine (want_no s p.pb p.tb p.tf p.tc k d p.ts t w h ht he).mono ?_
    rintro z w' ⟨rfl, h1, h2⟩
    refine .no k 15 t ?_ h1 h2 rfl
    unfold wantP
    rw [hh, if_neg he]
theorem name_p (p : Pp) (k d : Nat) (w : World) (h : Ps w p.pb p.tb p.tf p.tc p.ts k d) (hk : k < p.ts.length) (hE : Ends p.ts) :
    Calls Tryz.prog 150 #[.pointer (some ⟨p.pb, 0, none⟩)] w (Post RName (nameP (p.ts.drop k)) p d w) := by
  obtain ⟨t, ht⟩ := tok_at hk
  have hh := drop_hd ht
  by_cases he : t.kind = 1
  · refine (name_yes p.pb p.tb p.tf p.tc k d p.ts t w h ht he).mono ?_
    rintro z w' ⟨rfl, h1, h2⟩
    refine .ok (k + 1) t.text () ?_ (hE.next ht (.inr (by omega))) h1 h2 rfl (fun _ _ => trivial)
    unfold nameP
    rw [hh, if_pos he, drop_tl]
  · refine (name_no p.pb p.tb p.tf p.tc k d p.ts t w h ht he).mono ?_
    rintro z w' ⟨rfl, h1, h2⟩
    refine .no k 15 t ?_ h1 h2 rfl
    unfold nameP
    rw [hh, if_neg he]
/-- every token's number is a word -/
def Words (ts : List Tok) : Prop := ∀ t ∈ ts, t.word < 18446744073709551616
theorem number_p (p : Pp) (k d : Nat) (w : World) (h : Ps w p.pb p.tb p.tf p.tc p.ts k d) (hk : k < p.ts.length) (hE : Ends p.ts) (hW : Words p.ts) :
    Calls Tryz.prog 163 #[.pointer (some ⟨p.pb, 0, none⟩)] w (Post RNum (numP (p.ts.drop k)) p d w) := by
  obtain ⟨t, ht⟩ := tok_at hk
  have hh := drop_hd ht
  by_cases he : t.kind = 3
  · refine (number_yes p.pb p.tb p.tf p.tc k d p.ts t w h ht he).mono ?_
    rintro z w' ⟨rfl, h1, h2⟩
    refine .ok (k + 1) t.word () ?_ (hE.next ht (.inr (by omega))) h1 h2 rfl (fun _ _ => hW t (List.mem_of_getElem? ht))
    unfold numP
    rw [hh, if_pos he, drop_tl]
  · refine (number_no p.pb p.tb p.tf p.tc k d p.ts t w h ht he).mono ?_
    rintro z w' ⟨rfl, h1, h2⟩
    refine .no k 15 t ?_ h1 h2 rfl
    unfold numP
    rw [hh, if_neg he]
theorem size_p (p : Pp) (k d : Nat) (w : World) (h : Ps w p.pb p.tb p.tf p.tc p.ts k d) (hk : k < p.ts.length) (hE : Ends p.ts) :
    Calls Tryz.prog 151 #[.pointer (some ⟨p.pb, 0, none⟩)] w (Post RSize (sizeP (p.ts.drop k)) p d w) := by
  obtain ⟨t, ht⟩ := tok_at hk
  have hh := drop_hd ht
  by_cases hg : 2147483647 < t.word
  · refine (size_great p.pb p.tb p.tf p.tc k d p.ts t w h ht hg).mono ?_
    rintro z w' ⟨rfl, h1, h2⟩
    refine .no k 15 t ?_ h1 h2 rfl
    unfold sizeP
    rw [hh, if_pos hg]
  by_cases he : t.kind = 3
  · refine (size_yes p.pb p.tb p.tf p.tc k d p.ts t w h ht he (by omega)).mono ?_
    rintro z w' ⟨rfl, h1, h2⟩
    refine .ok (k + 1) t.word () ?_ (hE.next ht (.inr (by omega))) h1 h2 rfl (fun _ _ => trivial)
    unfold sizeP numP
    rw [hh, if_neg hg, if_pos he, drop_tl]
  · refine (size_no p.pb p.tb p.tf p.tc k d p.ts t w h ht he (by omega)).mono ?_
    rintro z w' ⟨rfl, h1, h2⟩
    refine .no k 15 t ?_ h1 h2 rfl
    unfold sizeP numP
    rw [hh, if_neg hg, if_neg he]
end Go.Proofs.YtchbnkepmeelkaaGreatDoor
/- Expressions: what stands in brackets, an index. -/
namespace Go.Proofs.YtchbnkepmeelkaaGreatDoor
open Go.RowKit

/-- the contract of expr: n deep may it be, d deep it stands -/
def ExprC (p : Pp) (n d : Nat) : Prop := ∀ (k : Nat) (w : World), Ps w p.pb p.tb p.tf p.tc p.ts k d → k < p.ts.length → Calls Tryz.prog 100 #[.pointer (some ⟨p.pb, 0, none⟩)] w (Post RExpr (exprP n (p.ts.drop k)) p d w)
/-- what stands in brackets -/
def placeP (n : Nat) (l : List Tok) : Res Ex := (wantP [91] l).bind fun _ r => (exprP n r).bind fun e r => (wantP [93] r).bind fun _ r => .ok e r
def indexP (n : Nat) (l : List Tok) : Res Ex := (nameP l).bind fun nm r => (placeP n r).bind fun e r => .ok (Ex.mk 3 0 nm (.cons e .nil)) r
def twoP (n : Nat) (l : List Tok) : Res Ex := (exprP n l).bind fun a r => (signP r).bind fun o r => (exprP n r).bind fun b r => (wantP [41] r).bind fun _ r => .ok (Ex.mk o 0 [] (.cons a (.cons b .nil))) r
def pickP (n : Nat) (l : List Tok) : Res Ex := (wantP [40] l).bind fun _ r => (exprP n r).bind fun a r => (wantP [44] r).bind fun _ r => (exprP n r).bind fun b r => (wantP [44] r).bind fun _ r => (exprP n r).bind fun c r => (wantP [41] r).bind fun _ r => .ok (Ex.mk 21 0 [] (.cons a (.cons b (.cons c .nil)))) r
theorem size4 (W : World) (b : Nat) (v0 v1 v2 v3 : Value) : ((((W.setCell ⟨b, 0, none⟩ v0).setCell ⟨b, 1, none⟩ v1).setCell ⟨b, 2, none⟩ v2).setCell ⟨b, 3, none⟩ v3).heap.size = W.heap.size := by simp [World.setCell]
theorem Fresh.set4 {A B : Nat} {w : World} {P : World → Nat → Prop} (h : Fresh A B w P) {b : Nat} (hb : b < A) (hB : B ≤ w.heap.size) (v0 v1 v2 v3 : Value) : Fresh A B ((((w.setCell ⟨b, 0, none⟩ v0).setCell ⟨b, 1, none⟩ v1).setCell ⟨b, 2, none⟩ v2).setCell ⟨b, 3, none⟩ v3) P :=
  h.to (((((Agr.refl hB).set (p := ⟨b, 0, none⟩) hb v0).set (p := ⟨b, 1, none⟩) hb v1).set (p := ⟨b, 2, none⟩) hb v2).set (p := ⟨b, 3, none⟩) hb v3)

set_option maxRecDepth 100000 in
set_option maxHeartbeats 3200000 in
theorem place_p (n : Nat) (p : Pp) (k d : Nat) (w : World) (h : Ps w p.pb p.tb p.tf p.tc p.ts k d) (hk : k < p.ts.length) (hE : Ends p.ts) (HX : ExprC p n d) :
    Calls Tryz.prog 226 #[.pointer (some ⟨p.pb, 0, none⟩)] w (Post RExpr (placeP n (p.ts.drop k)) p d w) := by
  have hpb := h.lt_pb
  have C1 := Lib.hid (fun (k : Nat) (w : World) (h : Ps w p.pb p.tb p.tf p.tc p.ts k d) (hk : k < p.ts.length) => want_p [91] p k d w h hk hE (by decide))
  have C2 := Lib.hid (HX)
  have C3 := Lib.hid (fun (k : Nat) (w : World) (h : Ps w p.pb p.tb p.tf p.tc p.ts k d) (hk : k < p.ts.length) => want_p [93] p k d w h hk hE (by decide))
  obtain ⟨W0, hW0⟩ : ∃ W0, w.alloc (.cells #[.int .i64 0, .int .u64 0, .string ⟨#[]⟩, .slice none 0 0] 39) = W0 := ⟨_, rfl⟩
  have hB0 : Below w.heap.size w W0 := by rw [← hW0]; exact (Below.refl _ _).alloc (Nat.le_refl _) _
  have Kr := Lib.hid (show W0.heap[w.heap.size]? = some (.cells #[.int .i64 0, .int .u64 0, .string ⟨#[]⟩, .slice none 0 0] 39 (0, 0)) by rw [← hW0]; exact heap_alloc_new w _)
  have Nr := Lib.hid (Nat.ne_of_gt hpb)
  have Nr2 := Lib.hid (Nat.ne_of_gt h.lt)
  have BB := Lib.hid (But.of_below (g := p.pb) hB0)
  have SS := Lib.hid (And.intro (h.later hB0) hk)
  clear hB0
  have PB := Lib.hid hpb
  clear h hk hE hpb
  generalize hG : (placeP n (p.ts.drop k)) = G
  unfold placeP at hG
  have HG := Lib.hid hG
  clear hG
  go_enter Tryz.func226, Tryz.ntmps226
  go_wp2_with fail
  try rw [hW0]
  clear hW0
  refine (C1.out k W0 SS.out.1 SS.out.2).mono ?_
  intro z w1 hc
  rcases hc with ⟨k1, a1, s1, hr, hkk, hp, hb, hz, hR⟩ | ⟨k1, e1, t1, hr, hp, hb, hz⟩
  rotate_left
  · subst hz
    have HN := Lib.hid (show Post RExpr G p d w (WrongIs (e1 : Int) t1) w1 from .no k1 e1 t1 (by rw [← HG.out]; simp only [hr, Res.bind_no]) hp (BB.out.trans hb) rfl)
    clear hr hp hb
    unfold WrongIs
    go_wp2_with fail
    exact ⟨rfl, HN.out⟩
  replace Kr := Lib.hid ((hb.block _ (Array.getElem?_eq_some_iff.1 Kr.out).1 Nr.out).trans Kr.out)
  obtain rfl : z = .returned (.tuple #[]) := hz
  have R1 := Lib.hid hr
  replace SS := Lib.hid (And.intro hp hkk)
  replace BB := Lib.hid (BB.out.trans hb)
  clear hr hkk hp hb hR
  go_wp2_with fail
  have Va2 := Lib.hid (show w.heap.size < w1.heap.size from (Array.getElem?_eq_some_iff.1 Kr.out).1)
  refine (C2.out k1 w1 SS.out.1 SS.out.2).mono ?_
  intro z w2 hc
  rcases hc with ⟨k2, a2, s2, hr, hkk, hp, hb, hz, hR⟩ | ⟨k2, e2, t2, hr, hp, hb, hz⟩
  rotate_left
  · subst hz
    have HN := Lib.hid (show Post RExpr G p d w (WrongIs (e2 : Int) t2) w2 from .no k2 e2 t2 (by rw [← HG.out]; simp only [R1.out, hr, Res.bind_ok, Res.bind_no]) hp (BB.out.trans hb) rfl)
    clear hr hp hb
    unfold WrongIs
    go_wp2_with fail
    exact ⟨rfl, HN.out⟩
  replace Kr := Lib.hid ((hb.block _ (Array.getElem?_eq_some_iff.1 Kr.out).1 Nr.out).trans Kr.out)
  obtain ⟨qa2, ca2⟩ := s2
  obtain rfl : z = .returned (.agg #[.int .i64 a2.op, .int .u64 (a2.word : Int), .string (str a2.name), .slice qa2 a2.args.len ca2]) := hz
  have Fa2 := Lib.hid (show Fresh w1.heap.size w2.heap.size w2 (fun W N => a2.Ok W N qa2) from hR)
  have Ga2 := Lib.hid SS.out.1.lt_pb
  have Za2 := Lib.hid (Nat.le_refl w2.heap.size)
  have Ya2 := Lib.hid (show w.heap.size ≤ w1.heap.size from BB.out.size)
  have R2 := Lib.hid hr
  replace SS := Lib.hid (And.intro hp hkk)
  replace BB := Lib.hid (BB.out.trans hb)
  clear hr hkk hp hb hR
  obtain ⟨Ae, hAe⟩ : ∃ A, w2.alloc (.cells #[.int .i64 a2.op, .int .u64 (a2.word : Int), .string (str a2.name), .slice qa2 a2.args.len ca2] 39) = A := ⟨_, rfl⟩
  have VV := Lib.hid (show w.heap.size < w2.heap.size from (Array.getElem?_eq_some_iff.1 Kr.out).1)
  have Xa2 := Lib.hid Za2.out
  have hBA : Below w2.heap.size w2 Ae := by rw [← hAe]; exact (Below.refl _ _).alloc (Nat.le_refl _) _
  replace Kr := Lib.hid ((hBA.block _ (Array.getElem?_eq_some_iff.1 Kr.out).1).trans Kr.out)
  replace Fa2 := Lib.hid (Fa2.out.bel hBA Za2.out)
  replace Za2 := Lib.hid (Nat.le_trans Za2.out hBA.size)
  replace Ya2 := Lib.hid Ya2.out
  have Ke := Lib.hid (show Ae.heap[w2.heap.size]? = some (.cells #[.int .i64 a2.op, .int .u64 (a2.word : Int), .string (str a2.name), .slice qa2 a2.args.len ca2] 39 (0, 0)) by rw [← hAe]; exact heap_alloc_new w2 _)
  have Ne := Lib.hid (Nat.ne_of_gt SS.out.1.lt_pb)
  have Te := Lib.hid (Nat.ne_of_gt SS.out.1.lt)
  have Uea2 := Lib.hid (show _ ≤ w2.heap.size from Xa2.out)
  have Me := Lib.hid (show w.heap.size ≤ w2.heap.size from BB.out.size)
  have Ve := Lib.hid (show w.heap.size < w2.heap.size from VV.out)
  replace SS := Lib.hid (And.intro (SS.out.1.later hBA) SS.out.2)
  replace BB := Lib.hid (BB.out.trans (But.of_below hBA))
  clear hBA
  have HAe := Lib.hid hAe
  clear hAe
  go_wp2_with fail
  try rw [HAe.out]
  clear HAe
  refine (C3.out k2 Ae SS.out.1 SS.out.2).mono ?_
  intro z w3 hc
  rcases hc with ⟨k3, a3, s3, hr, hkk, hp, hb, hz, hR⟩ | ⟨k3, e3, t3, hr, hp, hb, hz⟩
  rotate_left
  · subst hz
    have HN := Lib.hid (show Post RExpr G p d w (WrongIs (e3 : Int) t3) w3 from .no k3 e3 t3 (by rw [← HG.out]; simp only [R1.out, R2.out, hr, Res.bind_ok, Res.bind_no]) hp (BB.out.trans hb) rfl)
    clear hr hp hb
    unfold WrongIs
    go_wp2_with fail
    exact ⟨rfl, HN.out⟩
  replace Kr := Lib.hid ((hb.block _ (Array.getElem?_eq_some_iff.1 Kr.out).1 Nr.out).trans Kr.out)
  replace Ke := Lib.hid ((hb.block _ (Array.getElem?_eq_some_iff.1 Ke.out).1 Ne.out).trans Ke.out)
  replace Fa2 := Lib.hid (Fa2.out.but hb Ga2.out Za2.out)
  replace Za2 := Lib.hid (Nat.le_trans Za2.out hb.size)
  replace Ya2 := Lib.hid Ya2.out
  obtain rfl : z = .returned (.tuple #[]) := hz
  have R3 := Lib.hid hr
  replace SS := Lib.hid (And.intro hp hkk)
  replace BB := Lib.hid (BB.out.trans hb)
  clear hr hkk hp hb hR
  have l0 := cell_blk Ke.out (j := 0) rfl
  have l1 := cell_blk Ke.out (j := 1) rfl
  have l2 := cell_blk Ke.out (j := 2) rfl
  have l3 := cell_blk Ke.out (j := 3) rfl
  have z0 := cell_blk Kr.out (j := 0) rfl
  have z1 := cell_blk Kr.out (j := 1) rfl
  have z2 := cell_blk Kr.out (j := 2) rfl
  have z3 := cell_blk Kr.out (j := 3) rfl
  have hf : ∀ j, w3.frozen? ⟨w.heap.size, j, none⟩ = false := fun j => by simp [World.frozen?, Kr.out]
  have f0 := hf 0
  have f1 := hf 1
  have f2 := hf 2
  have f3 := hf 3
  clear hf
  have HR := Lib.hid (set4 Kr.out (.int .i64 a2.op) (.int .u64 (a2.word : Int)) (.string (str a2.name)) (.slice qa2 a2.args.len ca2))
  go_wp2_with fail
  have hF := HR.out
  refine bodyPost_ret (v := .agg #[.int .i64 a2.op, .int .u64 (a2.word : Int), .string (str a2.name), .slice qa2 a2.args.len ca2]) ?_ rfl ?_
  · have y0 := cell_blk hF (j := 0) rfl
    have y1 := cell_blk hF (j := 1) rfl
    have y2 := cell_blk hF (j := 2) rfl
    have y3 := cell_blk hF (j := 3) rfl
    generalize (((w3.setCell ⟨w.heap.size, 0, none⟩ (.int .i64 a2.op)).setCell ⟨w.heap.size, 1, none⟩ (.int .u64 (a2.word : Int))).setCell ⟨w.heap.size, 2, none⟩ (.string (str a2.name))).setCell ⟨w.heap.size, 3, none⟩ (.slice qa2 a2.args.len ca2) = F at *
    simp [results, Tryz.results226, go_sem, y0, y1, y2, y3]
  · have hn1 : w.heap.size ≠ p.pb := Nr.out
    have hn2 : w.heap.size ≠ p.tb := Nr2.out
    refine .ok k3 a2 (qa2, ca2) (by rw [← HG.out]; first | rfl | simp only [R1.out, R2.out, R3.out, Res.bind_ok] | trace_state) SS.out.2 ?_ ?_ rfl ?_
    · exact (((SS.out.1.other (p := ⟨w.heap.size, 0, none⟩) hn1 hn2 _).other (p := ⟨w.heap.size, 1, none⟩) hn1 hn2 _).other (p := ⟨w.heap.size, 2, none⟩) hn1 hn2 _).other (p := ⟨w.heap.size, 3, none⟩) hn1 hn2 _
    · exact (((BB.out.putNew (p := ⟨w.heap.size, 0, none⟩) (Nat.le_refl _) _).putNew (p := ⟨w.heap.size, 1, none⟩) (Nat.le_refl _) _).putNew (p := ⟨w.heap.size, 2, none⟩) (Nat.le_refl _) _).putNew (p := ⟨w.heap.size, 3, none⟩) (Nat.le_refl _) _
    · rw [size4]
      exact (Fa2.out.set4 Va2.out Za2.out _ _ _ _).fin Ya2.out Za2.out (fun W h => Ex.Ok.up h Za2.out)
end Go.Proofs.YtchbnkepmeelkaaGreatDoor
