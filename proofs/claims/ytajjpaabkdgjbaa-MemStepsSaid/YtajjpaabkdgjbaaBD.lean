/- The law's region, num; which of the chapter's regions may be. -/
import Derived.Test.YtajjpaabkdgjbaaBB
import Derived.Test.YtajjpaabkdgjbaaBC
namespace Go.Proofs.Ytajjpaabkdgjbaa
open Go.RowKit

set_option maxHeartbeats 400000 in
theorem num_any (z : Int) (w : World) :
    Calls Try.prog 11 #[.int .i64 z] w fun e w' => e = .returned (.int .i64 z) ∧ w = w' := by
  go_enter Try.func11, Try.ntmps11
  go_wp2_with fail
  go_ret
  exact ⟨rfl, rfl⟩
set_option maxHeartbeats 400000 in
theorem region_any (nm : ByteArray) (a s : Int) (w : World) :
    Calls Try.prog 29 #[.string nm, .int .i64 a, .int .i64 s] w fun e w' => e = .returned (.agg #[.string nm, .int .i64 a, .int .i64 s, .bool false]) ∧ Below w.heap.size w w' := by
  go_enter Try.func29, Try.ntmps29
  go_wp2_with fail
  exact bodyPost_ret (v := .agg #[.string nm, .int .i64 a, .int .i64 s, .bool false]) (by simp [results, Try.results29, go_sem]) rfl ⟨rfl, (Below.refl _ _).alloc (Nat.le_refl _) _⟩

abbrev kKey : ByteArray := ⟨#[107, 101, 121]⟩
abbrev kOut : ByteArray := ⟨#[111, 117, 116]⟩
abbrev kA : ByteArray := ⟨#[97]⟩
abbrev kB : ByteArray := ⟨#[98]⟩
def K2 : List Rg := [⟨kKey, 0, 2, false⟩, ⟨kOut, 64, 1, false⟩]
def KAB : List Rg := [⟨kA, 0, 1, false⟩, ⟨kB, 0, 1, false⟩]
def K4 : List Rg := [⟨kA, 4, 1, false⟩]
theorem may_K2 : mayB K2 = true := by decide +kernel
theorem may_KAB : mayB KAB = false := by decide +kernel
theorem may_K4 : mayB K4 = false := by decide +kernel
theorem ok_K2 : K2.all Rg.ok = true := by decide +kernel
/-- the memory behind the store -/
def F1 : Nat → Nat := upd (fun _ => 0) (8 / 8) 1
theorem k_w8 : errW K2 8 = 0 := by decide +kernel
theorem k_b8 : errB K2 8 = 0 ∧ loadB K2 F1 8 = 1 := by decide +kernel
theorem k_w4 : errW K2 4 = 2 ∧ loadV K2 F1 4 = 0 := by decide +kernel
theorem k_w16 : errW K2 16 = 14 ∧ loadV K2 F1 16 = 0 := by decide +kernel
theorem k_w65528 : errW K2 65528 = 0 ∧ loadV K2 F1 65528 = 0 := by decide +kernel
theorem k_w65536 : errW K2 65536 = 14 ∧ loadV K2 F1 65536 = 0 := by decide +kernel
theorem k_p9 : placeOf K2 9 = (0, 9) := by decide +kernel
theorem k_p49153 : placeOf K2 49153 = (-1, 1) := by decide +kernel
theorem k_p20 : placeOf K2 20 = (-2, 0) := by decide +kernel
theorem k_o0 : addrIn K2 kOut 0 = (64, true) := by decide +kernel
theorem k_o1 : addrIn K2 kOut 1 = (0, false) := by decide +kernel

/-- regions just laid -/
theorem in_2 (w : World) (r s : Rg) : RgIn (w.alloc (.cells #[.string r.name, .int .i64 r.addr, .int .i64 r.size, .bool r.sec, .string s.name, .int .i64 s.addr, .int .i64 s.size, .bool s.sec] 66 (0, 0))) (w.heap.size + 1) [r, s] (some ⟨w.heap.size, 0, none⟩) :=
  ⟨by simp, .inr ⟨_, _, rfl, by omega, by simp [RgAt, go_sem]⟩⟩
theorem in_1 (w : World) (r : Rg) : RgIn (w.alloc (.cells #[.string r.name, .int .i64 r.addr, .int .i64 r.size, .bool r.sec] 66 (0, 0))) (w.heap.size + 1) [r] (some ⟨w.heap.size, 0, none⟩) :=
  ⟨by simp, .inr ⟨_, _, rfl, by omega, by simp [RgAt, go_sem]⟩⟩
end Go.Proofs.Ytajjpaabkdgjbaa
