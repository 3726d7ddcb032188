/- Lists of nothing; a function without anything. -/
import Derived.Test.YtlhbledakddbbaaGreatDoorY1
namespace Go.Proofs.YtlhbledakddbbaaGreatDoor
open Go.RowKit

set_option maxHeartbeats 1600000 in
theorem ev_region (p : Option Addr) (c : Nat) (fv : Value) (w : World) : Calls Tryz.prog 50 #[.slice p 0 c, fv] w fun e w' => e = .returned (.bool true) ∧ w = w' := by
  go_enter Tryz.func50, Tryz.ntmps50
  go_wp2_with fail
  go_loopw [9] (fun i wr => i = .int .i64 0 ∧ wr = w) (fun _ _ => 0)
  case atStart => exact ⟨rfl, rfl⟩
  case round =>
    obtain ⟨rfl, rfl⟩ := hrel
    go_wp2_with fail
    go_ret
    exact ⟨rfl, rfl⟩

set_option maxHeartbeats 1600000 in
theorem ev_var (p : Option Addr) (c : Nat) (fv : Value) (w : World) : Calls Tryz.prog 91 #[.slice p 0 c, fv] w fun e w' => e = .returned (.bool true) ∧ w = w' := by
  go_enter Tryz.func91, Tryz.ntmps91
  go_wp2_with fail
  go_loopw [9] (fun i wr => i = .int .i64 0 ∧ wr = w) (fun _ _ => 0)
  case atStart => exact ⟨rfl, rfl⟩
  case round =>
    obtain ⟨rfl, rfl⟩ := hrel
    go_wp2_with fail
    go_ret
    exact ⟨rfl, rfl⟩

set_option maxHeartbeats 1600000 in
theorem ev_str (p : Option Addr) (c : Nat) (fv : Value) (w : World) : Calls Tryz.prog 94 #[.slice p 0 c, fv] w fun e w' => e = .returned (.bool true) ∧ w = w' := by
  go_enter Tryz.func94, Tryz.ntmps94
  go_wp2_with fail
  go_loopw [9] (fun i wr => i = .int .i64 0 ∧ wr = w) (fun _ _ => 0)
  case atStart => exact ⟨rfl, rfl⟩
  case round =>
    obtain ⟨rfl, rfl⟩ := hrel
    go_wp2_with fail
    go_ret
    exact ⟨rfl, rfl⟩

set_option maxHeartbeats 1600000 in
theorem ev_stmt (p : Option Addr) (c : Nat) (fv : Value) (w : World) : Calls Tryz.prog 105 #[.slice p 0 c, fv] w fun e w' => e = .returned (.bool true) ∧ w = w' := by
  go_enter Tryz.func105, Tryz.ntmps105
  go_wp2_with fail
  go_loopw [9] (fun i wr => i = .int .i64 0 ∧ wr = w) (fun _ _ => 0)
  case atStart => exact ⟨rfl, rfl⟩
  case round =>
    obtain ⟨rfl, rfl⟩ := hrel
    go_wp2_with fail
    go_ret
    exact ⟨rfl, rfl⟩

set_option maxHeartbeats 1600000 in
theorem deepest0 (p : Option Addr) (c : Nat) (fv : Value) (w : World) : Calls Tryz.prog 74 #[.slice p 0 c, fv] w fun e w' => e = .returned (.int .i64 0) ∧ w = w' := by
  go_enter Tryz.func74, Tryz.ntmps74
  go_wp2_with fail
  go_loopw [5, 9] (fun d i wr => d = .int .i64 0 ∧ i = .int .i64 0 ∧ wr = w) (fun _ _ _ => 0)
  case atStart => exact ⟨rfl, rfl, rfl⟩
  case round =>
    obtain ⟨rfl, rfl, rfl⟩ := hrel
    go_wp2_with fail
    go_ret
    exact ⟨rfl, rfl⟩
theorem deep0 (p : Option Addr) (c : Nat) (w : World) : Calls Tryz.prog 29 #[.slice p 0 c] w fun e w' => e = .returned (.int .i64 0) ∧ w = w' := by
  go_enter Tryz.func29, Tryz.ntmps29
  go_wp2_with fail
  refine (deepest0 _ _ _ _).mono ?_
  rintro e w' ⟨rfl, rfl⟩
  go_wp2_with fail
  go_ret
  exact ⟨rfl, rfl⟩
theorem mayBody0 (p : Option Addr) (c : Nat) (w : World) : Calls Tryz.prog 70 #[.slice p 0 c] w fun e w' => e = .returned (.bool true) ∧ w = w' := by
  go_enter Tryz.func70, Tryz.ntmps70
  go_wp2_with fail
  refine (deep0 _ _ _).mono ?_
  rintro e w' ⟨rfl, rfl⟩
  go_wp2_with fail
  refine (ev_stmt _ _ _ _).mono ?_
  rintro e w' ⟨rfl, rfl⟩
  go_wp2_with fail
  go_ret
  exact ⟨rfl, rfl⟩
theorem name_f : nameB [102] = true := by decide
/-- a function without anything, named f -/
def fnV : Value := .agg #[.string ⟨#[102]⟩, .slice none 0 0, .slice none 0 0, .slice none 0 0, .slice none 0 0]
set_option maxHeartbeats 1600000 in
theorem mayFunc_f (w : World) : Calls Tryz.prog 53 #[fnV] w fun e w' => e = .returned (.bool true) ∧ Below w.heap.size w w' := by
  have HN := Lib.hid (fun w => name_any ⟨#[102]⟩ w)
  have hn : nameB (⟨#[102]⟩ : ByteArray).data.toList = true := name_f
  rw [hn] at HN
  unfold fnV
  go_enter Tryz.func53, Tryz.ntmps53
  go_wp2_with fail
  refine (HN.out _).mono ?_
  rintro e w' ⟨rfl, rfl⟩
  go_wp2_with fail
  refine (ev_var _ _ _ _).mono ?_
  rintro e w' ⟨rfl, rfl⟩
  go_wp2_with fail
  refine (ev_var _ _ _ _).mono ?_
  rintro e w' ⟨rfl, rfl⟩
  go_wp2_with fail
  refine (ev_str _ _ _ _).mono ?_
  rintro e w' ⟨rfl, rfl⟩
  go_wp2_with fail
  refine (mayBody0 _ _ _).mono ?_
  rintro e w' ⟨rfl, rfl⟩
  go_wp2_with fail
  go_ret
  exact ⟨rfl, (Below.refl _ _).alloc (Nat.le_refl _) _⟩
/-- the function lies at b -/
def FnAt (w : World) (b : Nat) : Prop := w.heap[b]? = some (.cells #[.string ⟨#[102]⟩, .slice none 0 0, .slice none 0 0, .slice none 0 0, .slice none 0 0] 49 (0, 0))
theorem FnAt.later {w w' : World} {b n : Nat} (h : FnAt w b) (hb : b < n) (hB : Below n w w') : FnAt w' b := (hB.block b hb).trans h
theorem FnAt.cells {w : World} {b : Nat} (h : FnAt w b) : w.cell? ⟨b, 0, none⟩ = some (.string ⟨#[102]⟩) ∧ w.cell? ⟨b, 1, none⟩ = some (.slice none 0 0) ∧ w.cell? ⟨b, 2, none⟩ = some (.slice none 0 0) ∧ w.cell? ⟨b, 3, none⟩ = some (.slice none 0 0) ∧ w.cell? ⟨b, 4, none⟩ = some (.slice none 0 0) := by
  unfold FnAt at h
  refine ⟨?_, ?_, ?_, ?_, ?_⟩ <;> simp [World.cell?, h]

set_option maxHeartbeats 3200000 in
theorem everyFunc_f (b : Nat) (w : World) (h : FnAt w b) : Calls Tryz.prog 52 #[.slice (some ⟨b, 0, none⟩) 1 1, .func (.func 53) #[] #[]] w fun e w' => e = .returned (.bool true) ∧ Below w.heap.size w w' := by
  have hb := lt_of_block h
  have HF := Lib.hid h
  have HC := Lib.hid mayFunc_f
  unfold fnV at HC
  clear h
  go_enter Tryz.func52, Tryz.ntmps52
  go_wp2_with fail
  go_loopw [9] (fun i wr => ∃ k : Nat, i = .int .i64 k ∧ k ≤ 1 ∧ Hid (Below w.heap.size w wr)) (fun i _ => 1 - (intOf i).toNat)
  case atStart => exact ⟨0, rfl, by omega, Lib.hid (Below.refl _ _)⟩
  case round =>
    obtain ⟨k, rfl, hk, hB⟩ := hrel
    rcases k with _ | _ | k
    · obtain ⟨c0, c1, c2, c3, c4⟩ := (HF.out.later hb hB.out).cells
      go_wp2_with fail
      refine (HC.out _).mono ?_
      rintro e w2 ⟨rfl, hB2⟩
      have HB2 := Lib.hid ((hB.out.alloc hB.out.size _).trans (hB2.mono (by simp; exact Nat.le_succ_of_le hB.out.size)))
      clear hB2
      go_wp2_with fail
      go_roundw
      case rel => exact ⟨1, rfl, by omega, HB2⟩
      case measure => simp [intOf]
    · go_wp2_with fail
      go_ret
      exact ⟨rfl, hB.out⟩
    · omega

set_option maxHeartbeats 1600000 in
theorem may_f (b : Nat) (w : World) (h : FnAt w b) : Calls Tryz.prog 18 #[.agg #[.slice none 0 0, .slice (some ⟨b, 0, none⟩) 1 1]] w fun e w' => e = .returned (.bool true) ∧ Below w.heap.size w w' := by
  have HC := Lib.hid (everyFunc_f b (w.alloc (.cells #[.slice none 0 0, .slice (some ⟨b, 0, none⟩) 1 1] 39)) (h.later (lt_of_block h) ((Below.refl _ _).alloc (Nat.le_refl _) _)))
  go_enter Tryz.func18, Tryz.ntmps18
  go_wp2_with fail
  refine (ev_region _ _ _ _).mono ?_
  rintro e w' ⟨rfl, rfl⟩
  go_wp2_with fail
  refine HC.out.mono ?_
  rintro e w2 ⟨rfl, hB2⟩
  have HB2 := Lib.hid (((Below.refl _ w).alloc (Nat.le_refl _) _).trans (hB2.mono (by simp)))
  clear hB2
  go_wp2_with fail
  go_ret
  exact ⟨rfl, HB2.out⟩

theorem info_str : (Tryz.prog.info? 9).map (fun i => (i.zero, i.size, i.bytes)) = some (some (.string ⟨#[]⟩), 1, 16) := by kernel_rfl
theorem make_strs0 : ∃ Z : Array Value, (∀ w : World, (Instr.makeSlice 46 (.int .i64 0) (.int .i64 0)).run Tryz.prog w = .ok (.slice (some ⟨w.heap.size, 0, none⟩) 0 0) (w.alloc (.cells Z 9 (0, 0)))) := by
  obtain ⟨i0, hi, hz0, hz1, hz2⟩ := info_parts info_str
  refine ⟨madeCells #[.string ⟨#[]⟩] 0, fun w => ?_⟩
  have h := run_make (P := Tryz.prog) w 46 9 i0 (.string ⟨#[]⟩) Tryz.underlying46 hi hz0 .i64 .i64 0 0 (by omega) (by omega) (by rw [hz2]; omega) (by omega)
  rw [hz1, Nat.mul_one] at h
  exact h
set_option maxHeartbeats 3200000 in
theorem funcLine_f (b : Nat) (w : World) (h : FnAt w b) : Calls Tryz.prog 126 #[.pointer (some ⟨b, 0, none⟩)] w fun e w' => e = .returned (.string ⟨#[102, 110, 32, 102, 40, 41, 32, 123]⟩) ∧ Below w.heap.size w w' := by
  obtain ⟨c0, c1, c2, c3, c4⟩ := h.cells
  have hb := lt_of_block h
  obtain ⟨Z, hmk⟩ := make_strs0
  have HJn := Lib.hid (fun (a : Option Addr) (c : Nat) (w : World) => (Tryz.strings_Join_none a c ⟨#[44, 32]⟩ w).mono fun e w' h => (And.intro h.1 h.2.symm : _ ∧ w = w'))
  clear h
  go_enter Tryz.func126, Tryz.ntmps126
  go_wp2_with fail
  obtain ⟨w1, hw1⟩ : ∃ w1, w.alloc (.cells Z 9 (0, 0)) = w1 := ⟨_, rfl⟩
  have HB1 := Lib.hid (show Below w.heap.size w w1 by rw [← hw1]; exact (Below.refl _ _).alloc (Nat.le_refl _) _)
  have d0 := (HB1.out.cell (p := ⟨b, 0, none⟩) hb).trans c0
  have d1 := (HB1.out.cell (p := ⟨b, 1, none⟩) hb).trans c1
  have d3 := (HB1.out.cell (p := ⟨b, 3, none⟩) hb).trans c3
  rw [hw1]
  clear hw1 hmk c0 c1 c2 c3 c4
  go_loopw [18] (fun i wr => i = .int .i64 0 ∧ wr = w1) (fun _ _ => 0)
  case atStart => exact ⟨rfl, rfl⟩
  case round =>
    obtain ⟨rfl, rfl⟩ := hrel
    go_wp2_with fail
    go_quiet ((go_at_call 138; exact Calls.quiet_of_same ((HJn.out _ _ _).mono fun e w1 h => ⟨h.1, h.2.symm⟩)))
    go_wp2_with fail
    go_ret
    exact ⟨rfl, below_drewN HB1.out _⟩
end Go.Proofs.YtlhbledakddbbaaGreatDoor
