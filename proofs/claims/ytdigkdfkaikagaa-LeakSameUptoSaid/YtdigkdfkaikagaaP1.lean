/- The program's: two slices of words are the same. -/
import Derived.Test.YtdigkdfkaikagaaF4
import Derived.Test.YtdigkdfkaikagaaF2
namespace Go.Proofs.Ytdigkdfkaikagaa
open Go.RowKit

set_option maxHeartbeats 3200000 in
theorem eqU_any (xs ys : List Int) (p p' : Option Addr) (ca cb N : Nat) (w : World) (h1 : Sl N p xs.length (Ints w xs)) (h2 : Sl N p' ys.length (Ints w ys)) (hN : N ≤ w.heap.size) :
    Calls Try.prog 43 #[.slice p xs.length ca, .slice p' ys.length cb] w fun e w' => e = .returned (.bool (decide (xs = ys))) ∧ Below w.heap.size w w' := by
  have S1 := Lib.hid h1
  have S2 := Lib.hid h2
  have hm1 := h1.1
  have hm2 := h2.1
  clear h1 h2
  by_cases hl : xs.length = ys.length
  · have HL := Lib.hid hl
    have hl' : ((xs.length : Int) != (ys.length : Int)) = false := by simp [hl]
    clear hl
    go_enter Try.func43, Try.ntmps43
    go_wp2_with fail
    go_loopw [13] (fun i wr => ∃ (ds rs rs' : List Int), i = .int .i64 ds.length ∧ Hid (xs = ds ++ rs) ∧ Hid (ys = ds ++ rs') ∧ ds.length + rs.length = xs.length ∧ rs'.length = rs.length ∧ Hid (Below w.heap.size w wr)) (fun i _ => xs.length - (intOf i).toNat)
    case atStart => exact ⟨[], xs, ys, rfl, Lib.hid rfl, Lib.hid rfl, by simp, by have := HL.out; omega, Lib.hid (Below.refl _ _)⟩
    case round =>
      obtain ⟨ds, rs, rs', rfl, E1, E2, hd1, hd2, hB⟩ := hrel
      cases rs with
      | nil =>
        cases rs' with
        | cons _ _ => simp at hd2
        | nil =>
          simp only [List.length_nil] at hd1
          have hge : ¬ ds.length < xs.length := by omega
          have EQ := Lib.hid (show true = decide (xs = ys) by rw [E1.out, E2.out]; simp)
          go_wp2_with fail
          go_ret
          exact ⟨ret_bool EQ.out, hB.out⟩
      | cons y1 rs =>
        cases rs' with
        | nil => simp at hd2
        | cons y2 rs' =>
          simp only [List.length_cons] at hd1 hd2
          have hlt1 : ds.length < xs.length := by omega
          have hlt2 : ds.length < ys.length := by have := HL.out; omega
          rcases S1.out.2 with h30 | ⟨b1, o1, rfl, hb1, ha1⟩
          · omega
          rcases S2.out.2 with h30 | ⟨b2, o2, rfl, hb2, ha2⟩
          · omega
          rw [E1.out] at ha1
          rw [E2.out] at ha2
          have u1 := (hB.out.cell (show b1 < w.heap.size by omega)).trans (Ints.drop _ _ _ _ ha1).1
          have u2 := (hB.out.cell (show b2 < w.heap.size by omega)).trans (Ints.drop _ _ _ _ ha2).1
          have HD := Lib.hid hB.out.drew
          clear ha1 ha2
          go_wp2_with fail
          go_region
          all_goals go_wp2_with fail
          · have h : (y1 != y2) = true := by assumption
            go_ret
            exact ⟨ret_bool (by
              symm; rw [decide_eq_false_iff_not]; intro e
              rw [E1.out, E2.out] at e
              have := List.append_cancel_left e
              injection this with e6 _
              rw [e6] at h; simp at h), HD.out⟩
          · have h : (y1 != y2) = false := by assumption
            have hy : y1 = y2 := by simpa using h
            go_roundw
            case rel => exact ⟨ds ++ [y1], rs, rs', by rw [List.length_append]; go_num, Lib.hid (by rw [E1.out]; simp), Lib.hid (by rw [E2.out, hy]; simp), by simp; omega, by omega, HD⟩
            case measure => simp [intOf]; omega
  · have HB := Lib.hid (show false = decide (xs = ys) by symm; rw [decide_eq_false_iff_not]; intro e; exact hl (by rw [e]))
    have hl' : ((xs.length : Int) != (ys.length : Int)) = true := by simp; omega
    clear hl
    go_enter Try.func43, Try.ntmps43
    go_wp2_with fail
    go_ret
    exact ⟨ret_bool HB.out, Below.refl _ _⟩
end Go.Proofs.Ytdigkdfkaikagaa
