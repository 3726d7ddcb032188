/- Numbers, the program's. -/
import Derived.Test.YtgffiggnmklcoaaGreatDoorC2
import Derived.Test.YtgffiggnmklcoaaGreatDoorShelf
import Derived.Below
import Derived.Lib.SmallJoins
namespace Go.Proofs.YtgffiggnmklcoaaGreatDoor
open Go.RowKit

/-- what the library's own variables hold -/
def Glob (w : World) : Prop :=
  (∃ tp p, w.cell? ⟨2, 0, none⟩ = some (.iface tp p)) ∧ (∃ tp p, w.cell? ⟨3, 0, none⟩ = some (.iface tp p)) ∧ w.cell? ⟨0, 0, none⟩ = some (.iface 118 (.agg #[.pointer (some ⟨7, 59, none⟩)])) ∧ 3 < w.heap.size
theorem Glob.later {w w' : World} {n : Nat} (h : Glob w) (hn : 3 < n) (hB : Below n w w') : Glob w' := by
  obtain ⟨⟨t1, p1, h1⟩, ⟨t2, p2, h2⟩, h3, h4⟩ := h
  exact ⟨⟨t1, p1, (hB.cell (p := ⟨2, 0, none⟩) (by show 2 < n; omega)).trans h1⟩, ⟨t2, p2, (hB.cell (p := ⟨3, 0, none⟩) (by show 3 < n; omega)).trans h2⟩, (hB.cell (p := ⟨0, 0, none⟩) (by show 0 < n; omega)).trans h3, Nat.lt_of_lt_of_le h4 hB.size⟩

theorem ret_num {a b c d : Int} (h1 : a = c) (h2 : b = d) : Ending.returned (.tuple #[.int .u64 a, .int .i64 b]) = Ending.returned (.tuple #[.int .u64 c, .int .i64 d]) := by rw [h1, h2]
theorem numE_no {l : List UInt8} (h : numB l = false) : (numE l : Int) = 15 := by simp [numE, h]
theorem numV_no {l : List UInt8} (h : numB l = false) : (numV l : Int) = 0 := by simp [numV, h]
theorem numE_yes {l : List UInt8} (h : numB l = true) : (numE l : Int) = 0 := by simp [numE, h]
theorem numV_yes {l : List UInt8} (h : numB l = true) : (numV l : Int) = decN l := by simp [numV, h]
theorem num_nought {l : List UInt8} (h : (decide (1 < l.length) && decide (l.headD 0 = 48)) = true) : numB l = false := by
  simp only [numB, h, Bool.not_true, Bool.and_false, Bool.false_and]

theorem below_bytes {w w' : World} {T : TypeId} {s : ByteArray} (h : w' = w ∨ w' = Lib.bytesWorld w T s) : Below w.heap.size w w' := by
  rcases h with rfl | rfl
  · exact Below.refl _ _
  · exact Joins.below_bytesWorld _ _ _ _ (Nat.le_refl _)
set_option maxHeartbeats 1600000 in
theorem number_any (s : ByteArray) (w : World) (hs : s.size ≤ 281474976710656) (hG : Glob w) : Calls Tryz.prog 15 #[.string s] w fun e w' => e = .returned (.tuple #[.int .u64 (numV s.data.toList), .int .i64 (numE s.data.toList)]) ∧ Below w.heap.size w w' := by
  have HG := Lib.hid hG
  clear hG
  have key : ∀ b, (decide (1 < s.data.toList.length) && decide (s.data.toList.headD 0 = 48)) = b → (decide (1 < s.size) && decide (s.data.toList.headD 0 = 48)) = b := fun b h => by rw [size_len]; exact h
  by_cases h1 : 1 < s.size
  · have hlen : 0 < s.data.toList.length := by rw [← size_len]; omega
    have hhd : s.data.toList.headD 0 = s[0]'(by omega) := head_get _ hlen
    clear hlen
    by_cases h48 : ((s[0]'(by omega)).toNat : Int) = 48
    · have HF := Lib.hid (num_nought (l := s.data.toList) (by
        rw [← size_len, decide_eq_true h1, hhd]
        have : s[0]'(by omega) = 48 := UInt8.toNat_inj.1 (by show _ = 48; omega)
        rw [this]; rfl))
      have e48 : (((s[0]'(by omega)).toNat : Int) == 48) = true := by rw [h48]; rfl
      clear hhd h48 key
      go_enter Tryz.func15, Tryz.ntmps15
      go_wp2
      go_ret2
      exact ⟨ret_num (numV_no HF.out).symm (numE_no HF.out).symm, Below.refl _ _⟩
    · have e48 : (((s[0]'(by omega)).toNat : Int) == 48) = false := by simpa using h48
      have hne : (s.data.toList.headD 0) ≠ 48 := fun h => h48 (by rw [hhd] at h; rw [h]; rfl)
      have HF0 := Lib.hid (show (decide (1 < s.data.toList.length) && decide (s.data.toList.headD 0 = 48)) = false by rw [decide_eq_false hne, Bool.and_false])
      clear hhd h48 key hne
      cases hb : numB s.data.toList
      · rcases parse_no _ hb HF0.out with hp | hp
        · have HF := Lib.hid hb
          have HC := Lib.hid (Tryz.strconv_ParseUint_10_at64_syntax s hs hp)
          have HGw := Lib.hid HG.out
          obtain ⟨⟨tp, p, hv⟩, _⟩ := HGw.out
          have HP := Lib.hid (HC.out _ w hv (.inr ⟨tp, p, rfl⟩))
          clear hb hp HF0 HC hv
          go_enter Tryz.func15, Tryz.ntmps15
          go_wp2_with (go_at_call 38; refine HP.out.mono ?_; rintro e w1 ⟨N, rfl, hN, hO, hB1⟩)
          go_ret2
          exact ⟨ret_num (numV_no HF.out).symm (numE_no HF.out).symm, hB1⟩
        · have HF := Lib.hid hb
          have HC := Lib.hid (Tryz.strconv_ParseUint_10_at64_range s hs hp)
          have HGw := Lib.hid HG.out
          obtain ⟨_, ⟨tp, p, hv⟩, _⟩ := HGw.out
          have HP := Lib.hid (HC.out _ w hv (.inr ⟨tp, p, rfl⟩))
          clear hb hp HF0 HC hv
          go_enter Tryz.func15, Tryz.ntmps15
          go_wp2_with (go_at_call 38; refine HP.out.mono ?_; rintro e w1 ⟨N, rfl, hN, hO, hB1⟩)
          go_ret2
          exact ⟨ret_num (numV_no HF.out).symm (numE_no HF.out).symm, hB1⟩
      · have HF := Lib.hid hb
        have HP := Lib.hid (Tryz.strconv_ParseUint_10_at64_ok s (by omega) (decN s.data.toList) (parse_yes _ hb) w)
        clear hb HF0
        go_enter Tryz.func15, Tryz.ntmps15
        go_wp2_with (go_at_call 38; refine HP.out.mono ?_; rintro e w1 ⟨rfl, hw⟩)
        go_ret2
        exact ⟨ret_num (numV_yes HF.out).symm (numE_yes HF.out).symm, below_bytes hw⟩
  · have HF0 := Lib.hid (show (decide (1 < s.data.toList.length) && decide (s.data.toList.headD 0 = 48)) = false by rw [← size_len, decide_eq_false h1, Bool.false_and])
    clear key
    cases hb : numB s.data.toList
    · rcases parse_no _ hb HF0.out with hp | hp
      · have HF := Lib.hid hb
        have HC := Lib.hid (Tryz.strconv_ParseUint_10_at64_syntax s hs hp)
        have HGw := Lib.hid HG.out
        obtain ⟨⟨tp, p, hv⟩, _⟩ := HGw.out
        have HP := Lib.hid (HC.out _ w hv (.inr ⟨tp, p, rfl⟩))
        clear hb hp HF0 HC hv
        go_enter Tryz.func15, Tryz.ntmps15
        go_wp2_with (go_at_call 38; refine HP.out.mono ?_; rintro e w1 ⟨N, rfl, hN, hO, hB1⟩)
        go_ret2
        exact ⟨ret_num (numV_no HF.out).symm (numE_no HF.out).symm, hB1⟩
      · have HF := Lib.hid hb
        have HC := Lib.hid (Tryz.strconv_ParseUint_10_at64_range s hs hp)
        have HGw := Lib.hid HG.out
        obtain ⟨_, ⟨tp, p, hv⟩, _⟩ := HGw.out
        have HP := Lib.hid (HC.out _ w hv (.inr ⟨tp, p, rfl⟩))
        clear hb hp HF0 HC hv
        go_enter Tryz.func15, Tryz.ntmps15
        go_wp2_with (go_at_call 38; refine HP.out.mono ?_; rintro e w1 ⟨N, rfl, hN, hO, hB1⟩)
        go_ret2
        exact ⟨ret_num (numV_no HF.out).symm (numE_no HF.out).symm, hB1⟩
    · have HF := Lib.hid hb
      have HP := Lib.hid (Tryz.strconv_ParseUint_10_at64_ok s (by omega) (decN s.data.toList) (parse_yes _ hb) w)
      clear hb HF0
      go_enter Tryz.func15, Tryz.ntmps15
      go_wp2_with (go_at_call 38; refine HP.out.mono ?_; rintro e w1 ⟨rfl, hw⟩)
      go_ret2
      exact ⟨ret_num (numV_yes HF.out).symm (numE_yes HF.out).symm, below_bytes hw⟩
end Go.Proofs.YtgffiggnmklcoaaGreatDoor
