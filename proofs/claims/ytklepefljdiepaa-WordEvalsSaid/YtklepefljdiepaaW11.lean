import Derived.Test.YtklepefljdiepaaW10
namespace Go.Proofs.Ytklepefljdiepaa
open Go.RowKit

theorem bthen {w a b : World} (h : Below w.heap.size w a) (k : Below a.heap.size a b) : Below w.heap.size w b := h.trans (k.mono h.size)
theorem bnew {w a : World} (h : Below w.heap.size w a) (o : Obj) : Below w.heap.size w (a.alloc o) := h.alloc h.size o
set_option maxRecDepth 100000 in
set_option maxHeartbeats 4000000 in
/-- THE CHAPTER's ROWS. -/
theorem known_any (w : World) : Calls Try.prog 12 #[] w fun e w' => e = .returned (.bool true) ∧ Below w.heap.size w w' := by
  have h31 : ∀ wx, Calls Try.prog 31 #[.int .i64 12, .agg #[.bool false, .bool false, .bool true, .bool false, .bool false]] wx fun e w' => e = .returned (.tuple #[.bool true, .int .i64 0]) ∧ Below wx.heap.size wx w' := fun wx => (holds_any 12 false false true false false wx (by decide) (by decide)).mono fun e w' h => ⟨h.1.trans (by kernel_rfl), h.2⟩
  have h32 : ∀ wx, Calls Try.prog 32 #[.int .i64 2] wx fun e w' => e = .returned (.tuple #[.int .i64 3, .int .i64 0]) ∧ wx = w' := fun wx => (turned_any 2 wx).mono fun e w' h => ⟨h.1.trans (by kernel_rfl), h.2⟩
  have h19 : ∀ wx, Calls Try.prog 19 #[.int .i64 8, .int .u64 128] wx fun e w' => e = .returned (.tuple #[.int .u64 18446744073709551488, .int .i64 0]) ∧ wx = w' := fun wx => (sigE_any 8 128 wx (by decide)).mono fun e w' h => ⟨h.1.trans (by kernel_rfl), h.2⟩
  have H31 := Lib.hid h31
  have H32 := Lib.hid h32
  have H19 := Lib.hid h19
  clear h31 h32 h19
  go_enter Try.func12, Try.ntmps12
  go_wp2_with fail
  refine (bin_true 1 255 1 0 true true false false true _ (by decide) (by decide) (by decide) (by decide) (by decide) (by kernel_rfl)).mono ?_
  rintro e w1 ⟨rfl, hb1⟩
  go_wp2_with fail
  refine (bin_true 3 0 1 255 true false true false true _ (by decide) (by decide) (by decide) (by decide) (by decide) (by kernel_rfl)).mono ?_
  rintro e w2 ⟨rfl, hb2⟩
  go_wp2_with fail
  refine (bin_true 1 127 1 128 false false true true false _ (by decide) (by decide) (by decide) (by decide) (by decide) (by kernel_rfl)).mono ?_
  rintro e w3 ⟨rfl, hb3⟩
  go_wp2_with fail
  refine (shift_true 1 129 1 2 true false false true false _ (by decide) (by decide) (by decide) (by decide) (by decide) (by kernel_rfl)).mono ?_
  rintro e w4 ⟨rfl, hb4⟩
  go_wp2_with fail
  refine (shift_true 5 1 1 128 true false false true false _ (by decide) (by decide) (by decide) (by decide) (by decide) (by kernel_rfl)).mono ?_
  rintro e w5 ⟨rfl, hb5⟩
  go_wp2_with fail
  refine (shift_true 3 128 7 255 false false true false true _ (by decide) (by decide) (by decide) (by decide) (by decide) (by kernel_rfl)).mono ?_
  rintro e w6 ⟨rfl, hb6⟩
  go_wp2_with fail
  refine (shift_true 1 1 32 1 false false false false false _ (by decide) (by decide) (by decide) (by decide) (by decide) (by kernel_rfl)).mono ?_
  rintro e w7 ⟨rfl, hb7⟩
  go_wp2_with fail
  refine (eval_other 6 _ 2 1 1 _ rfl (by decide)).mono ?_
  rintro e w' ⟨rfl, rfl⟩
  go_wp2_with fail
  refine (H31.out _).mono ?_
  rintro e w8 ⟨rfl, hb8⟩
  go_wp2_with fail
  refine (H32.out _).mono ?_
  rintro e w' ⟨rfl, rfl⟩
  go_wp2_with fail
  refine (H19.out _).mono ?_
  rintro e w' ⟨rfl, rfl⟩
  go_wp2_with fail
  refine (holds_bad 16 _ _ _ _ _ _ rfl).mono ?_
  rintro e w9 ⟨rfl, hb9⟩
  go_wp2_with fail
  refine (eval_true 15 2 2 _ _ _ 1 65 0 _ rfl (by decide) (by decide) (by decide) (by decide) (by simp) (by go_simp) (fun _ => by go_simp) (fun h => by omega)).mono ?_
  rintro e w10 ⟨rfl, hb10⟩
  go_wp2_with fail
  refine (eval_true 19 1 2 _ _ _ 1 18446744073709551615 0 _ rfl (by decide) (by decide) (by decide) (by decide) (by simp) (by go_simp) (fun _ => by go_simp) (fun h => by omega)).mono ?_
  rintro e w11 ⟨rfl, hb11⟩
  go_wp2_with fail
  refine (eval_true 21 6 3 _ _ _ 0 5 6 _ rfl (by decide) (by decide) (by decide) (by decide) (by simp) (by go_simp) (fun _ => by go_simp) (fun _ => by go_simp)).mono ?_
  rintro e w12 ⟨rfl, hb12⟩
  go_wp2_with (go_at_call 16; refine (num_any _ _).mono ?_; rintro e w' ⟨rfl, rfl⟩)
  go_ret
  exact ⟨rfl, bthen (bnew (bthen (bnew (bthen (bnew (bthen (bthen (bnew (bthen (bthen (bthen (bthen (bthen (bthen hb1 hb2) hb3) hb4) hb5) hb6) hb7) _) hb8) hb9) _) hb10) _) hb11) _) hb12⟩
end Go.Proofs.Ytklepefljdiepaa
