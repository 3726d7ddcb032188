/- Own words, the program's and the document's. -/
import Derived.Test.YtgffiggnmklcoaaGreatDoorB1
import Derived.Lib.IndexBytes
namespace Go.Proofs.YtgffiggnmklcoaaGreatDoor
open Go.RowKit

theorem own_split (l : List UInt8) : ownB l = ((l == [97, 114, 114, 97, 121]) || ((l == [101, 108, 115, 101]) || ((l == [102, 110]) || ((l == [102, 111, 114]) || ((l == [105, 102]) || ((l == [112, 105, 99, 107]) || ((l == [114, 101, 103, 105, 111, 110]) || ((l == [115, 101, 99, 114, 101, 116]) || ((l == [115, 116, 97, 99, 107]) || ((l == [118, 97, 114]) || ((l == [119, 104, 105, 108, 101])))))))))))  ) := by
  rw [Bool.eq_iff_iff]
  simp only [ownB, ownWords, List.mem_cons, List.not_mem_nil, or_false, decide_eq_true_eq, Bool.or_eq_true, beq_iff_eq]
theorem own_any (s : ByteArray) (w : World) : Calls Tryz.prog 19 #[.string s] w fun e w' => e = .returned (.bool (ownB s.data.toList)) ∧ w = w' := by
  rw [own_split, ← Go.Lib.toList_data]
  generalize e0 : (s.toList == [97, 114, 114, 97, 121]) = x0
  generalize e1 : (s.toList == [101, 108, 115, 101]) = x1
  generalize e2 : (s.toList == [102, 110]) = x2
  generalize e3 : (s.toList == [102, 111, 114]) = x3
  generalize e4 : (s.toList == [105, 102]) = x4
  generalize e5 : (s.toList == [112, 105, 99, 107]) = x5
  generalize e6 : (s.toList == [114, 101, 103, 105, 111, 110]) = x6
  generalize e7 : (s.toList == [115, 101, 99, 114, 101, 116]) = x7
  generalize e8 : (s.toList == [115, 116, 97, 99, 107]) = x8
  generalize e9 : (s.toList == [118, 97, 114]) = x9
  generalize e10 : (s.toList == [119, 104, 105, 108, 101]) = x10
  cases x0
  case true =>
    go_enter Tryz.func19, Tryz.ntmps19
    go_wp2
    go_ret
    exact ⟨rfl, rfl⟩
  cases x1
  case true =>
    go_enter Tryz.func19, Tryz.ntmps19
    go_wp2
    go_ret
    exact ⟨rfl, rfl⟩
  cases x2
  case true =>
    go_enter Tryz.func19, Tryz.ntmps19
    go_wp2
    go_ret
    exact ⟨rfl, rfl⟩
  cases x3
  case true =>
    go_enter Tryz.func19, Tryz.ntmps19
    go_wp2
    go_ret
    exact ⟨rfl, rfl⟩
  cases x4
  case true =>
    go_enter Tryz.func19, Tryz.ntmps19
    go_wp2
    go_ret
    exact ⟨rfl, rfl⟩
  cases x5
  case true =>
    go_enter Tryz.func19, Tryz.ntmps19
    go_wp2
    go_ret
    exact ⟨rfl, rfl⟩
  cases x6
  case true =>
    go_enter Tryz.func19, Tryz.ntmps19
    go_wp2
    go_ret
    exact ⟨rfl, rfl⟩
  cases x7
  case true =>
    go_enter Tryz.func19, Tryz.ntmps19
    go_wp2
    go_ret
    exact ⟨rfl, rfl⟩
  cases x8
  case true =>
    go_enter Tryz.func19, Tryz.ntmps19
    go_wp2
    go_ret
    exact ⟨rfl, rfl⟩
  cases x9
  case true =>
    go_enter Tryz.func19, Tryz.ntmps19
    go_wp2
    go_ret
    exact ⟨rfl, rfl⟩
  cases x10
  case true =>
    go_enter Tryz.func19, Tryz.ntmps19
    go_wp2
    go_ret
    exact ⟨rfl, rfl⟩
  go_enter Tryz.func19, Tryz.ntmps19
  go_wp2
  go_ret
  exact ⟨rfl, rfl⟩

def noneOf (l : List UInt8) (k : Nat) : Prop := ∀ x ∈ ownWords.take k, (x == l) = false
theorem noneOf.step {l : List UInt8} {k : Nat} (h : noneOf l k) (x : List UInt8) (hx : ownWords[k]? = some x) (he : (x == l) = false) : noneOf l (k + 1) := by
  intro y hy
  rw [List.take_add_one, hx] at hy
  rcases List.mem_append.1 hy with h1 | h1
  · exact h y h1
  · simp at h1; subst h1; exact he
theorem noneOf.no {l : List UInt8} (h : noneOf l 11) : ownB l = false := by
  refine decide_eq_false fun hm => ?_
  have := h l hm
  simp at this
theorem own_yes {l : List UInt8} {x : List UInt8} (k : Nat) (hx : ownWords[k]? = some x) (he : (x == l) = true) : ownB l = true := by
  refine decide_eq_true ?_
  rw [← beq_iff_eq.1 he]
  exact List.mem_of_getElem? hx
set_option maxHeartbeats 1600000 in
theorem rown_any (s : ByteArray) (w : World) : Calls Tryz.prog 20 #[.string s] w fun e w' => e = .returned (.bool (ownB s.data.toList)) ∧ Below w.heap.size w w' := by
  rw [← Go.Lib.toList_data]
  go_enter Tryz.func20, Tryz.ntmps20
  go_wp2
  go_loop [4] (fun i => ∃ k : Nat, i = .int .i64 k ∧ k ≤ 11 ∧ Hid (noneOf s.toList k)) (fun i => 11 - (intOf i).toNat)
  case atStart => exact ⟨0, rfl, by omega, Lib.hid (fun y hy => by simp at hy)⟩
  case round =>
    obtain ⟨k, rfl, hk, hN⟩ := hrel
    rcases k with _|_|_|_|_|_|_|_|_|_|_|_|k
    · cases e : ([97, 114, 114, 97, 121] == s.toList)
      · have HS := Lib.hid (hN.out.step [97, 114, 114, 97, 121] rfl e)
        go_wp2
        go_round
        case rel => exact ⟨1, rfl, by omega, HS⟩
        case measure => simp [intOf]
      · have HS := Lib.hid (own_yes 0 rfl e)
        go_wp2
        go_ret
        exact ⟨ret_bool HS.out.symm, (Below.refl _ _).alloc (Nat.le_refl _) _⟩
    · cases e : ([101, 108, 115, 101] == s.toList)
      · have HS := Lib.hid (hN.out.step [101, 108, 115, 101] rfl e)
        go_wp2
        go_round
        case rel => exact ⟨2, rfl, by omega, HS⟩
        case measure => simp [intOf]
      · have HS := Lib.hid (own_yes 1 rfl e)
        go_wp2
        go_ret
        exact ⟨ret_bool HS.out.symm, (Below.refl _ _).alloc (Nat.le_refl _) _⟩
    · cases e : ([102, 110] == s.toList)
      · have HS := Lib.hid (hN.out.step [102, 110] rfl e)
        go_wp2
        go_round
        case rel => exact ⟨3, rfl, by omega, HS⟩
        case measure => simp [intOf]
      · have HS := Lib.hid (own_yes 2 rfl e)
        go_wp2
        go_ret
        exact ⟨ret_bool HS.out.symm, (Below.refl _ _).alloc (Nat.le_refl _) _⟩
    · cases e : ([102, 111, 114] == s.toList)
      · have HS := Lib.hid (hN.out.step [102, 111, 114] rfl e)
        go_wp2
        go_round
        case rel => exact ⟨4, rfl, by omega, HS⟩
        case measure => simp [intOf]
      · have HS := Lib.hid (own_yes 3 rfl e)
        go_wp2
        go_ret
        exact ⟨ret_bool HS.out.symm, (Below.refl _ _).alloc (Nat.le_refl _) _⟩
    · cases e : ([105, 102] == s.toList)
      · have HS := Lib.hid (hN.out.step [105, 102] rfl e)
        go_wp2
        go_round
        case rel => exact ⟨5, rfl, by omega, HS⟩
        case measure => simp [intOf]
      · have HS := Lib.hid (own_yes 4 rfl e)
        go_wp2
        go_ret
        exact ⟨ret_bool HS.out.symm, (Below.refl _ _).alloc (Nat.le_refl _) _⟩
    · cases e : ([112, 105, 99, 107] == s.toList)
      · have HS := Lib.hid (hN.out.step [112, 105, 99, 107] rfl e)
        go_wp2
        go_round
        case rel => exact ⟨6, rfl, by omega, HS⟩
        case measure => simp [intOf]
      · have HS := Lib.hid (own_yes 5 rfl e)
        go_wp2
        go_ret
        exact ⟨ret_bool HS.out.symm, (Below.refl _ _).alloc (Nat.le_refl _) _⟩
    · cases e : ([114, 101, 103, 105, 111, 110] == s.toList)
      · have HS := Lib.hid (hN.out.step [114, 101, 103, 105, 111, 110] rfl e)
        go_wp2
        go_round
        case rel => exact ⟨7, rfl, by omega, HS⟩
        case measure => simp [intOf]
      · have HS := Lib.hid (own_yes 6 rfl e)
        go_wp2
        go_ret
        exact ⟨ret_bool HS.out.symm, (Below.refl _ _).alloc (Nat.le_refl _) _⟩
    · cases e : ([115, 101, 99, 114, 101, 116] == s.toList)
      · have HS := Lib.hid (hN.out.step [115, 101, 99, 114, 101, 116] rfl e)
        go_wp2
        go_round
        case rel => exact ⟨8, rfl, by omega, HS⟩
        case measure => simp [intOf]
      · have HS := Lib.hid (own_yes 7 rfl e)
        go_wp2
        go_ret
        exact ⟨ret_bool HS.out.symm, (Below.refl _ _).alloc (Nat.le_refl _) _⟩
    · cases e : ([115, 116, 97, 99, 107] == s.toList)
      · have HS := Lib.hid (hN.out.step [115, 116, 97, 99, 107] rfl e)
        go_wp2
        go_round
        case rel => exact ⟨9, rfl, by omega, HS⟩
        case measure => simp [intOf]
      · have HS := Lib.hid (own_yes 8 rfl e)
        go_wp2
        go_ret
        exact ⟨ret_bool HS.out.symm, (Below.refl _ _).alloc (Nat.le_refl _) _⟩
    · cases e : ([118, 97, 114] == s.toList)
      · have HS := Lib.hid (hN.out.step [118, 97, 114] rfl e)
        go_wp2
        go_round
        case rel => exact ⟨10, rfl, by omega, HS⟩
        case measure => simp [intOf]
      · have HS := Lib.hid (own_yes 9 rfl e)
        go_wp2
        go_ret
        exact ⟨ret_bool HS.out.symm, (Below.refl _ _).alloc (Nat.le_refl _) _⟩
    · cases e : ([119, 104, 105, 108, 101] == s.toList)
      · have HS := Lib.hid (hN.out.step [119, 104, 105, 108, 101] rfl e)
        go_wp2
        go_round
        case rel => exact ⟨11, rfl, by omega, HS⟩
        case measure => simp [intOf]
      · have HS := Lib.hid (own_yes 10 rfl e)
        go_wp2
        go_ret
        exact ⟨ret_bool HS.out.symm, (Below.refl _ _).alloc (Nat.le_refl _) _⟩
    · have HS := Lib.hid hN.out.no
      go_wp2
      go_ret
      exact ⟨ret_bool HS.out.symm, (Below.refl _ _).alloc (Nat.le_refl _) _⟩
    · omega
end Go.Proofs.YtgffiggnmklcoaaGreatDoor
