/- A memory that is not there: what each call answers. -/
import Derived.Test.YtigkjmjkpjjjkaaBD
namespace Go.Proofs.Ytigkjmjkpjjjkaa
open Go.RowKit

/-- of this pointer the program says: it is none -/
def NoneIs (w : World) (pv : Value) : Prop := pv = .pointer none ∨ ∃ g, pv = .pointer (some ⟨g, 0, none⟩) ∧ g < w.heap.size ∧ w.cell? ⟨g, 1, none⟩ = some .nilFunc
theorem NoneIs.later {w w' : World} {pv : Value} (h : NoneIs w pv) (hB : Below w.heap.size w w') : NoneIs w' pv := by
  rcases h with h | ⟨g, h, hg, hc⟩
  · exact .inl h
  · exact .inr ⟨g, h, Nat.lt_of_lt_of_le hg hB.size, (hB.cell hg).trans hc⟩

set_option maxHeartbeats 400000 in
theorem isNone_nil (w : World) : Calls Try.prog 46 #[.pointer none] w fun e w' => e = .returned (.bool true) ∧ w = w' := by
  go_enter Try.func46, Try.ntmps46
  go_wp2_with fail
  go_ret
  exact ⟨rfl, rfl⟩
set_option maxHeartbeats 400000 in
theorem isNone_zero (g : Nat) (w : World) (h : w.cell? ⟨g, 1, none⟩ = some .nilFunc) : Calls Try.prog 46 #[.pointer (some ⟨g, 0, none⟩)] w fun e w' => e = .returned (.bool true) ∧ w = w' := by
  have q0 : ∀ w : World, (binOp .eql 73 .nilFunc .nilFunc).run Try.prog w = .ok (.bool true) w := fun _ => by kernel_rfl
  go_enter Try.func46, Try.ntmps46
  go_wp2_with fail
  go_ret
  exact ⟨rfl, rfl⟩
theorem isNone_none {w : World} {pv : Value} (h : NoneIs w pv) : Calls Try.prog 46 #[pv] w fun e w' => e = .returned (.bool true) ∧ w = w' := by
  rcases h with rfl | ⟨g, rfl, hg, hc⟩
  · exact isNone_nil w
  · exact isNone_zero g w hc
set_option maxHeartbeats 800000 in
theorem n_checkByte (pv : Value) (a : Nat) (w : World) (h : NoneIs w pv) :
    Calls Try.prog 58 #[pv, .int .u64 a] w fun e w' => e = .returned (.int .i64 1) ∧ w = w' := by
  have HI := Lib.hid (isNone_none h)
  have HP := Lib.hid h
  clear h
  go_enter Try.func58, Try.ntmps58
  go_wp2_with (first | (go_at_call 46; (with_reducible refine HI.out.mono ?_); rintro e w' ⟨rfl, rfl⟩))
  go_ret
  exact ⟨rfl, rfl⟩
set_option maxHeartbeats 800000 in
theorem n_checkWord (pv : Value) (a : Nat) (w : World) (h : NoneIs w pv) :
    Calls Try.prog 56 #[pv, .int .u64 a] w fun e w' => e = .returned (.int .i64 1) ∧ w = w' := by
  have HI := Lib.hid (isNone_none h)
  have HP := Lib.hid h
  clear h
  go_enter Try.func56, Try.ntmps56
  go_wp2_with (first | (go_at_call 46; (with_reducible refine HI.out.mono ?_); rintro e w' ⟨rfl, rfl⟩))
  go_ret
  exact ⟨rfl, rfl⟩
set_option maxHeartbeats 800000 in
theorem n_load (pv : Value) (a : Nat) (w : World) (h : NoneIs w pv) :
    Calls Try.prog 28 #[pv, .int .u64 a] w fun e w' => e = .returned (.tuple #[.int .u64 0, .int .i64 1]) ∧ w = w' := by
  have HI := Lib.hid (isNone_none h)
  have HP := Lib.hid h
  clear h
  go_enter Try.func28, Try.ntmps28
  go_wp2_with (first | (go_at_call 46; (with_reducible refine HI.out.mono ?_); rintro e w' ⟨rfl, rfl⟩) | (go_at_call 56; refine (n_checkWord pv a _ HP.out).mono ?_; rintro e w' ⟨rfl, rfl⟩))
  go_ret2
  exact ⟨rfl, rfl⟩
set_option maxHeartbeats 800000 in
theorem n_loadByte (pv : Value) (a : Nat) (w : World) (h : NoneIs w pv) :
    Calls Try.prog 30 #[pv, .int .u64 a] w fun e w' => e = .returned (.tuple #[.int .u8 0, .int .i64 1]) ∧ w = w' := by
  have HI := Lib.hid (isNone_none h)
  have HP := Lib.hid h
  clear h
  go_enter Try.func30, Try.ntmps30
  go_wp2_with (first | (go_at_call 46; (with_reducible refine HI.out.mono ?_); rintro e w' ⟨rfl, rfl⟩) | (go_at_call 58; refine (n_checkByte pv a _ HP.out).mono ?_; rintro e w' ⟨rfl, rfl⟩))
  go_ret2
  exact ⟨rfl, rfl⟩
set_option maxHeartbeats 800000 in
theorem n_store (pv : Value) (a x : Nat) (w : World) (h : NoneIs w pv) :
    Calls Try.prog 38 #[pv, .int .u64 a, .int .u64 x] w fun e w' => e = .returned (.int .i64 1) ∧ w = w' := by
  have HI := Lib.hid (isNone_none h)
  have HP := Lib.hid h
  clear h
  go_enter Try.func38, Try.ntmps38
  go_wp2_with (first | (go_at_call 46; (with_reducible refine HI.out.mono ?_); rintro e w' ⟨rfl, rfl⟩) | (go_at_call 56; refine (n_checkWord pv a _ HP.out).mono ?_; rintro e w' ⟨rfl, rfl⟩))
  go_ret
  exact ⟨rfl, rfl⟩
set_option maxHeartbeats 800000 in
theorem n_storeByte (pv : Value) (a x : Nat) (w : World) (h : NoneIs w pv) :
    Calls Try.prog 41 #[pv, .int .u64 a, .int .u8 x] w fun e w' => e = .returned (.int .i64 1) ∧ w = w' := by
  have HI := Lib.hid (isNone_none h)
  have HP := Lib.hid h
  clear h
  go_enter Try.func41, Try.ntmps41
  go_wp2_with (first | (go_at_call 46; (with_reducible refine HI.out.mono ?_); rintro e w' ⟨rfl, rfl⟩) | (go_at_call 58; refine (n_checkByte pv a _ HP.out).mono ?_; rintro e w' ⟨rfl, rfl⟩))
  go_ret
  exact ⟨rfl, rfl⟩
set_option maxHeartbeats 800000 in
theorem n_place (pv : Value) (a : Nat) (w : World) (h : NoneIs w pv) :
    Calls Try.prog 32 #[pv, .int .u64 a] w fun e w' => e = .returned (.tuple #[.int .i64 (-2), .int .i64 0]) ∧ w = w' := by
  have HI := Lib.hid (isNone_none h)
  have HP := Lib.hid h
  clear h
  go_enter Try.func32, Try.ntmps32
  go_wp2_with (first | (go_at_call 46; (with_reducible refine HI.out.mono ?_); rintro e w' ⟨rfl, rfl⟩))
  go_ret2
  exact ⟨rfl, rfl⟩
set_option maxHeartbeats 800000 in
theorem n_address (pv : Value) (nm : ByteArray) (i : Int) (w : World) (h : NoneIs w pv) :
    Calls Try.prog 34 #[pv, .string nm, .int .i64 i] w fun e w' => e = .returned (.tuple #[.int .u64 0, .bool false]) ∧ w = w' := by
  have HI := Lib.hid (isNone_none h)
  have HP := Lib.hid h
  clear h
  go_enter Try.func34, Try.ntmps34
  go_wp2_with (first | (go_at_call 46; (with_reducible refine HI.out.mono ?_); rintro e w' ⟨rfl, rfl⟩))
  go_ret2
  exact ⟨rfl, rfl⟩
set_option maxHeartbeats 800000 in
theorem n_words (pv : Value)  (w : World) (h : NoneIs w pv) :
    Calls Try.prog 21 #[pv] w fun e w' => e = .returned (.slice none 0 0) ∧ w = w' := by
  have HI := Lib.hid (isNone_none h)
  have HP := Lib.hid h
  clear h
  go_enter Try.func21, Try.ntmps21
  go_wp2_with (first | (go_at_call 46; (with_reducible refine HI.out.mono ?_); rintro e w' ⟨rfl, rfl⟩))
  go_ret
  exact ⟨rfl, rfl⟩
set_option maxHeartbeats 800000 in
theorem n_stack (pv : Value)  (w : World) (h : NoneIs w pv) :
    Calls Try.prog 23 #[pv] w fun e w' => e = .returned (.slice none 0 0) ∧ w = w' := by
  have HI := Lib.hid (isNone_none h)
  have HP := Lib.hid h
  clear h
  go_enter Try.func23, Try.ntmps23
  go_wp2_with (first | (go_at_call 46; (with_reducible refine HI.out.mono ?_); rintro e w' ⟨rfl, rfl⟩))
  go_ret
  exact ⟨rfl, rfl⟩
set_option maxHeartbeats 800000 in
theorem n_layout (pv : Value)  (w : World) (h : NoneIs w pv) :
    Calls Try.prog 19 #[pv] w fun e w' => e = .returned (.slice none 0 0) ∧ w = w' := by
  have HI := Lib.hid (isNone_none h)
  have HP := Lib.hid h
  clear h
  go_enter Try.func19, Try.ntmps19
  go_wp2_with (first | (go_at_call 46; (with_reducible refine HI.out.mono ?_); rintro e w' ⟨rfl, rfl⟩))
  go_ret
  exact ⟨rfl, rfl⟩
set_option maxHeartbeats 800000 in
theorem n_copy (pv : Value)  (w : World) (h : NoneIs w pv) :
    Calls Try.prog 60 #[pv] w fun e w' => e = .returned (.pointer none) ∧ w = w' := by
  have HI := Lib.hid (isNone_none h)
  have HP := Lib.hid h
  clear h
  go_enter Try.func60, Try.ntmps60
  go_wp2_with (first | (go_at_call 46; (with_reducible refine HI.out.mono ?_); rintro e w' ⟨rfl, rfl⟩))
  go_ret
  exact ⟨rfl, rfl⟩
set_option maxHeartbeats 800000 in
theorem n_filled (pv : Value)  (w : World) (h : NoneIs w pv) :
    Calls Try.prog 62 #[pv] w fun e w' => e = .returned (.slice none 0 0) ∧ w = w' := by
  have HI := Lib.hid (isNone_none h)
  have HP := Lib.hid h
  clear h
  go_enter Try.func62, Try.ntmps62
  go_wp2_with (first | (go_at_call 46; (with_reducible refine HI.out.mono ?_); rintro e w' ⟨rfl, rfl⟩))
  go_ret
  exact ⟨rfl, rfl⟩
set_option maxHeartbeats 800000 in
theorem n_all (pv : Value) (w : World) (h : NoneIs w pv) :
    Calls Try.prog 42 #[pv] w fun e w' => e = .returned (.func (.func 63) #[] #[.pointer (some ⟨w.heap.size, 0, none⟩)]) ∧ w'.cell? ⟨w.heap.size, 0, none⟩ = some (.slice none 0 0) ∧ Below w.heap.size w w' := by
  have HP := Lib.hid h
  clear h
  go_enter Try.func42, Try.ntmps42
  go_wp2_with fail
  refine (n_filled pv w HP.out).mono ?_
  rintro e w' ⟨rfl, rfl⟩
  go_wp2_with fail
  go_ret
  exact ⟨rfl, by simp [go_sem], (Below.refl _ _).alloc (Nat.le_refl _) _⟩
set_option maxHeartbeats 800000 in
theorem n_same (pv : Value) (w : World) (h : NoneIs w pv) :
    Calls Try.prog 36 #[pv, .pointer none] w fun e w' => e = .returned (.bool true) ∧ w = w' := by
  have HI := Lib.hid (isNone_none h)
  clear h
  go_enter Try.func36, Try.ntmps36
  go_wp2_with (first | (go_at_call 46; (with_reducible refine HI.out.mono ?_); rintro e w' ⟨rfl, rfl⟩) | (go_at_call 46; (with_reducible refine (isNone_nil _).mono ?_); rintro e w' ⟨rfl, rfl⟩))
  go_ret
  exact ⟨rfl, rfl⟩
set_option maxHeartbeats 800000 in
theorem same_none (l : List Rg) (f : Nat → Nat) (B g : Nat) (w : World) (h : MemIs w B g l f) :
    Calls Try.prog 36 #[.pointer (some ⟨g, 0, none⟩), .pointer none] w fun e w' => e = .returned (.bool false) ∧ w = w' := by
  have HI := Lib.hid h.isn
  clear h
  go_enter Try.func36, Try.ntmps36
  go_wp2_with (first | (go_at_call 46; (with_reducible refine HI.out.mono ?_); rintro e w' ⟨rfl, rfl⟩) | (go_at_call 46; (with_reducible refine (isNone_nil _).mono ?_); rintro e w' ⟨rfl, rfl⟩))
  go_ret
  exact ⟨rfl, rfl⟩
end Go.Proofs.Ytigkjmjkpjjjkaa
