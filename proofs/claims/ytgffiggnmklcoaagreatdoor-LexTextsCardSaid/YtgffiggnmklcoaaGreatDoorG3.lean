/- Line and column of a place; what an error of a scan says. -/
import Derived.Test.YtgffiggnmklcoaaGreatDoorG2
import Derived.Test.YtgffiggnmklcoaaGreatDoorF4
import Derived.Outline
namespace Go.Proofs.YtgffiggnmklcoaaGreatDoor
open Go.RowKit

theorem lc_count (p : List UInt8) : (lc p).1 = Lib.countByte p 10 + 1 := by
  suffices h : ∀ (p : List UInt8) (a b : Nat), (p.foldl lcF (a, b)).1 = p.count 10 + a from h p 1 1
  intro p
  induction p with
  | nil => intro a b; simp
  | cons c r ih =>
    intro a b
    rw [List.foldl_cons]
    by_cases h : c.toNat = 10
    · have hc : c = 10 := UInt8.toNat_inj.1 (by rw [h]; rfl)
      rw [lcF, if_pos h, ih, hc, List.count_cons_self]; omega
    · have hc : c ≠ 10 := fun e => h (by rw [e]; rfl)
      rw [lcF, if_neg h, ih, List.count_cons_of_ne hc]
theorem lc_last (s : ByteArray) : ∀ k, k ≤ s.size → ((lc (s.data.toList.take k)).2 : Int) = (k : Int) - Lib.lastIdx s 10 k := by
  intro k
  induction k with
  | zero => intro _; rfl
  | succ k ih =>
    intro hk
    have hkl : k < s.data.toList.length := by rw [← size_len]; omega
    rw [lc_take_succ hkl, Lib.lastIdx]
    have e : s.data[k]! = s.data.toList[k] := by
      rw [getElem!_pos s.data k (by simpa using hkl)]; simp
    rw [e]
    by_cases h : s.data.toList[k].toNat = 10
    · rw [lcF, if_pos h, if_pos (by rw [h]; rfl)]; push_cast; omega
    · rw [lcF, if_neg h, if_neg (by omega)]
      have := ih (by omega)
      push_cast; omega

theorem ret_two {a b c d : Int} (h1 : a = c) (h2 : b = d) : Ending.returned (.tuple #[.int .i64 a, .int .i64 b]) = Ending.returned (.tuple #[.int .i64 c, .int .i64 d]) := by rw [h1, h2]
/-- the place that is nearest -/
def clampN (at' : Int) (n : Nat) : Nat := min at'.toNat n
theorem line_any (s : ByteArray) (at' : Int) (w : World) (hs : s.size ≤ 281474976710656) (_h1 : -9223372036854775808 ≤ at') (_h2 : at' ≤ 9223372036854775807) :
    Calls Tryz.prog 22 #[.string s, .int .i64 at'] w fun e w' => e = .returned (.tuple #[.int .i64 (lc (s.data.toList.take (clampN at' s.size))).1, .int .i64 (lc (s.data.toList.take (clampN at' s.size))).2]) ∧ Below w.heap.size w w' := by
  obtain ⟨k, hk⟩ : ∃ k, clampN at' s.size = k := ⟨_, rfl⟩
  have hks : k ≤ s.size := by rw [← hk]; exact Nat.min_le_right _ _
  have hm : min (max at' 0) (s.size : Int) = (k : Int) := by rw [← hk, clampN]; omega
  have hd : (s.extract 0 k).data.toList = s.data.toList.take k := extract_take s k
  have hz : (s.extract 0 k).size = k := by rw [size_len, hd, List.length_take, ← size_len]; omega
  have HC := Lib.hid (fun w => (Tryz.strings_Count_one (s.extract 0 k) 10 w).mono fun e w' h => (And.intro h.1 h.2.symm : _ ∧ w = w'))
  have HL := Lib.hid (fun w => (Tryz.strings_LastIndexByte (s.extract 0 k) 10 (by omega) w).mono fun e w' h => (And.intro h.1 h.2.symm : _ ∧ w = w'))
  have HE := Lib.hid (show (Lib.countByte (s.extract 0 k).data.toList 10 : Int) + 1 = ((lc (s.data.toList.take k)).1 : Int) by rw [lc_count, hd]; rfl)
  have hb := Lib.lastIndexByte_spec (s.extract 0 k) 10
  have HF := Lib.hid (show (k : Int) - Lib.lastIndexByte (s.extract 0 k) 10 = ((lc (s.data.toList.take k)).2 : Int) by
    have := lc_last (s.extract 0 k) k (by omega)
    rw [hd, List.take_take, Nat.min_self] at this
    rw [this, Lib.lastIndexByte, hz])
  rw [hk]
  have hi : -1 ≤ Lib.lastIndexByte (s.extract 0 k) 10 ∧ Lib.lastIndexByte (s.extract 0 k) 10 ≤ k := by
    rcases hb with ⟨h, _⟩ | ⟨i, h, h', _⟩ <;> omega
  have hcn : Lib.countByte (s.extract 0 k).data.toList 10 ≤ k := by
    have h0 := List.count_le_length (a := (10 : UInt8)) (l := (s.extract 0 k).data.toList)
    rw [← size_len, hz] at h0; exact h0
  clear hb hd hk
  generalize Lib.lastIndexByte (s.extract 0 k) 10 = j at HL HF hi
  generalize Lib.countByte (s.extract 0 k).data.toList 10 = n at HC HE hcn
  obtain ⟨hi1, hi2⟩ := hi
  go_enter Tryz.func22, Tryz.ntmps22
  go_wp2_with fail
  refine (HC.out _).mono ?_
  rintro e w' ⟨rfl, rfl⟩
  go_wp2_with fail
  refine (HL.out _).mono ?_
  rintro e w' ⟨rfl, rfl⟩
  go_wp2_with fail
  go_ret2
  exact ⟨ret_two HE.out HF.out, Below.refl _ _⟩
end Go.Proofs.YtgffiggnmklcoaaGreatDoor
