/- Two rows of regions are the same. -/
import Derived.Test.YtajjpaabkdgjbaaB3
namespace Go.Proofs.Ytajjpaabkdgjbaa
open Go.RowKit

noncomputable def eqB {α : Type} (l m : α) : Bool := @decide (l = m) (Classical.propDecidable _)
theorem eqB_true {α : Type} {l m : α} (h : l = m) : true = eqB l m := by unfold eqB; exact (@decide_eq_true _ (Classical.propDecidable _) h).symm
theorem eqB_false {α : Type} {l m : α} (h : ¬ l = m) : false = eqB l m := by unfold eqB; exact (@decide_eq_false _ (Classical.propDecidable _) h).symm
theorem eqB_of_true {α : Type} {a b : α} (h : eqB a b = true) : a = b := by unfold eqB at h; exact @of_decide_eq_true _ (Classical.propDecidable _) h
theorem eqB_of_false {α : Type} {a b : α} (h : eqB a b = false) : ¬ a = b := by unfold eqB at h; exact @of_decide_eq_false _ (Classical.propDecidable _) h
theorem neq_rg_eq (x : Rg) (w : World) : (binOp .neq 66 (.agg #[.string x.name, .int .i64 x.addr, .int .i64 x.size, .bool x.sec]) (.agg #[.string x.name, .int .i64 x.addr, .int .i64 x.size, .bool x.sec])).run Try.prog w = .ok (.bool false) w := by
  simp [go_sem]
theorem neq_rg_ne {x y : Rg} (h : ¬ x = y) (w : World) : (binOp .neq 66 (.agg #[.string x.name, .int .i64 x.addr, .int .i64 x.size, .bool x.sec]) (.agg #[.string y.name, .int .i64 y.addr, .int .i64 y.size, .bool y.sec])).run Try.prog w = .ok (.bool true) w := by
  obtain ⟨a, b, c, d⟩ := x
  obtain ⟨a', b', c', d'⟩ := y
  by_cases h1 : a = a'
  · by_cases h2 : b = b'
    · by_cases h3 : c = c'
      · have h4 : ¬ d = d' := fun h4 => h (by rw [h1, h2, h3, h4])
        subst h1; subst h2; subst h3
        simp [go_sem, h4]
      · simp [go_sem, h1, h2, h3]
    · simp [go_sem, h1, h2]
  · have : (a.toList == a'.toList) = false := by rw [name_eq]; exact decide_eq_false h1
    simp [go_sem, h1, this]

set_option maxHeartbeats 3200000 in
theorem eqRg_any (xs ys : List Rg) (p p' : Option Addr) (ca cb N : Nat) (w : World) (h1 : RgIn w N xs p) (h2 : RgIn w N ys p') (hN : N ≤ w.heap.size) :
    Calls Try.prog 46 #[.slice p xs.length ca, .slice p' ys.length cb] w fun e w' => e = .returned (.bool (eqB xs ys)) ∧ Below w.heap.size w w' := by
  have S1 := Lib.hid h1
  have S2 := Lib.hid h2
  have hm1 := h1.1
  have hm2 := h2.1
  clear h1 h2
  by_cases hl : xs.length = ys.length
  · have HL := Lib.hid hl
    have hl' : ((xs.length : Int) != (ys.length : Int)) = false := by simp [hl]
    clear hl
    go_enter Try.func46, Try.ntmps46
    go_wp2_with fail
    go_loopw [13] (fun i wr => ∃ (ds rs rs' : List Rg), i = .int .i64 ds.length ∧ Hid (xs = ds ++ rs) ∧ Hid (ys = ds ++ rs') ∧ ds.length + rs.length = xs.length ∧ rs'.length = rs.length ∧ Hid (Below w.heap.size w wr)) (fun i _ => xs.length - (intOf i).toNat)
    case atStart => exact ⟨[], xs, ys, rfl, Lib.hid rfl, Lib.hid rfl, by simp, by have := HL.out; omega, Lib.hid (Below.refl _ _)⟩
    case round =>
      obtain ⟨ds, rs, rs', rfl, E1, E2, hd1, hd2, hB⟩ := hrel
      cases rs with
      | nil =>
        cases rs' with
        | cons _ _ => simp at hd2
        | nil =>
          simp only [List.length_nil] at hd1
          have hge : ¬ ds.length < xs.length := by omega
          have EQ := Lib.hid (eqB_true (show xs = ys by rw [E1.out, E2.out]))
          go_wp2_with fail
          go_ret
          exact ⟨ret_bool EQ.out, hB.out⟩
      | cons y1 rs =>
        cases rs' with
        | nil => simp at hd2
        | cons y2 rs' =>
          simp only [List.length_cons] at hd1 hd2
          have hlt1 : ds.length < xs.length := by omega
          have hlt2 : ds.length < ys.length := by have := HL.out; omega
          rcases S1.out.2 with h30 | ⟨b1, o1, rfl, hb1, ha1⟩
          · omega
          rcases S2.out.2 with h30 | ⟨b2, o2, rfl, hb2, ha2⟩
          · omega
          rw [E1.out] at ha1
          rw [E2.out] at ha2
          obtain ⟨⟨u10', u11', u12', u13'⟩, _⟩ := RgAt.drop _ _ _ _ ha1
          obtain ⟨⟨u20', u21', u22', u23'⟩, _⟩ := RgAt.drop _ _ _ _ ha2
          have u10 := (hB.out.cell (show b1 < w.heap.size by omega)).trans u10'
          have u11 := (hB.out.cell (show b1 < w.heap.size by omega)).trans u11'
          have u12 := (hB.out.cell (show b1 < w.heap.size by omega)).trans u12'
          have u13 := (hB.out.cell (show b1 < w.heap.size by omega)).trans u13'
          have u20 := (hB.out.cell (show b2 < w.heap.size by omega)).trans u20'
          have u21 := (hB.out.cell (show b2 < w.heap.size by omega)).trans u21'
          have u22 := (hB.out.cell (show b2 < w.heap.size by omega)).trans u22'
          have u23 := (hB.out.cell (show b2 < w.heap.size by omega)).trans u23'
          have HD := Lib.hid hB.out.drew
          clear ha1 ha2 u10' u11' u12' u13' u20' u21' u22' u23'
          by_cases hy : y1 = y2
          · subst hy
            have e1 := neq_rg_eq y1
            go_wp2_with fail
            go_region
            all_goals
              go_wp2_with fail
              go_roundw
              case rel => exact ⟨ds ++ [y1], rs, rs', by rw [List.length_append]; go_num, Lib.hid (by rw [E1.out]; simp), Lib.hid (by rw [E2.out]; simp), by simp; omega, by omega, HD⟩
              case measure => simp [intOf]; omega
          · have e1 := neq_rg_ne hy
            have EQ := Lib.hid (eqB_false (show ¬ xs = ys by
              intro e
              rw [E1.out, E2.out] at e
              have := List.append_cancel_left e
              injection this with e6 _
              exact hy e6))
            clear hy
            go_wp2_with fail
            go_region
            all_goals
              go_wp2_with fail
              go_ret
              exact ⟨ret_bool EQ.out, HD.out⟩
  · have HB := Lib.hid (eqB_false (show ¬ xs = ys by intro e; exact hl (by rw [e])))
    have hl' : ((xs.length : Int) != (ys.length : Int)) = true := by simp; omega
    clear hl
    go_enter Try.func46, Try.ntmps46
    go_wp2_with fail
    go_ret
    exact ⟨ret_bool HB.out, Below.refl _ _⟩

set_option maxHeartbeats 3200000 in
theorem sameRg_any (xs ys : List Rg) (p p' : Option Addr) (ca cb N : Nat) (w : World) (h1 : RgIn w N xs p) (h2 : RgIn w N ys p') (hN : N ≤ w.heap.size) :
    Calls Try.prog 47 #[.slice p xs.length ca, .slice p' ys.length cb] w fun e w' => e = .returned (.bool (eqB xs ys)) ∧ Below w.heap.size w w' := by
  have S1 := Lib.hid h1
  have S2 := Lib.hid h2
  have hm1 := h1.1
  have hm2 := h2.1
  clear h1 h2
  by_cases hl : xs.length = ys.length
  · have HL := Lib.hid hl
    have hl' : ((xs.length : Int) != (ys.length : Int)) = false := by simp [hl]
    clear hl
    go_enter Try.func47, Try.ntmps47
    go_wp2_with fail
    go_loopw [5] (fun i wr => ∃ (ds rs rs' : List Rg), i = .int .i64 ds.length ∧ Hid (xs = ds ++ rs) ∧ Hid (ys = ds ++ rs') ∧ ds.length + rs.length = xs.length ∧ rs'.length = rs.length ∧ Hid (Below w.heap.size w wr)) (fun i _ => xs.length - (intOf i).toNat)
    case atStart => exact ⟨[], xs, ys, rfl, Lib.hid rfl, Lib.hid rfl, by simp, by have := HL.out; omega, Lib.hid (Below.refl _ _)⟩
    case round =>
      obtain ⟨ds, rs, rs', rfl, E1, E2, hd1, hd2, hB⟩ := hrel
      cases rs with
      | nil =>
        cases rs' with
        | cons _ _ => simp at hd2
        | nil =>
          simp only [List.length_nil] at hd1
          have hge : ¬ ds.length < xs.length := by omega
          have EQ := Lib.hid (eqB_true (show xs = ys by rw [E1.out, E2.out]))
          go_wp2_with fail
          go_ret
          exact ⟨ret_bool EQ.out, hB.out⟩
      | cons y1 rs =>
        cases rs' with
        | nil => simp at hd2
        | cons y2 rs' =>
          simp only [List.length_cons] at hd1 hd2
          have hlt1 : ds.length < xs.length := by omega
          have hlt2 : ds.length < ys.length := by have := HL.out; omega
          rcases S1.out.2 with h30 | ⟨b1, o1, rfl, hb1, ha1⟩
          · omega
          rcases S2.out.2 with h30 | ⟨b2, o2, rfl, hb2, ha2⟩
          · omega
          rw [E1.out] at ha1
          rw [E2.out] at ha2
          obtain ⟨⟨u10', u11', u12', u13'⟩, _⟩ := RgAt.drop _ _ _ _ ha1
          obtain ⟨⟨u20', u21', u22', u23'⟩, _⟩ := RgAt.drop _ _ _ _ ha2
          have u10 := (hB.out.cell (show b1 < w.heap.size by omega)).trans u10'
          have u11 := (hB.out.cell (show b1 < w.heap.size by omega)).trans u11'
          have u12 := (hB.out.cell (show b1 < w.heap.size by omega)).trans u12'
          have u13 := (hB.out.cell (show b1 < w.heap.size by omega)).trans u13'
          have u20 := (hB.out.cell (show b2 < w.heap.size by omega)).trans u20'
          have u21 := (hB.out.cell (show b2 < w.heap.size by omega)).trans u21'
          have u22 := (hB.out.cell (show b2 < w.heap.size by omega)).trans u22'
          have u23 := (hB.out.cell (show b2 < w.heap.size by omega)).trans u23'
          have HD := Lib.hid hB.out.drew
          clear ha1 ha2 u10' u11' u12' u13' u20' u21' u22' u23'
          by_cases hy : y1 = y2
          · subst hy
            have e1 := neq_rg_eq y1
            go_wp2_with fail
            go_region
            all_goals
              go_wp2_with fail
              go_roundw
              case rel => exact ⟨ds ++ [y1], rs, rs', by rw [List.length_append]; go_num, Lib.hid (by rw [E1.out]; simp), Lib.hid (by rw [E2.out]; simp), by simp; omega, by omega, HD⟩
              case measure => simp [intOf]; omega
          · have e1 := neq_rg_ne hy
            have EQ := Lib.hid (eqB_false (show ¬ xs = ys by
              intro e
              rw [E1.out, E2.out] at e
              have := List.append_cancel_left e
              injection this with e6 _
              exact hy e6))
            clear hy
            go_wp2_with fail
            go_region
            all_goals
              go_wp2_with fail
              go_ret
              exact ⟨ret_bool EQ.out, HD.out⟩
  · have HB := Lib.hid (eqB_false (show ¬ xs = ys by intro e; exact hl (by rw [e])))
    have hl' : ((xs.length : Int) != (ys.length : Int)) = true := by simp; omega
    clear hl
    go_enter Try.func47, Try.ntmps47
    go_wp2_with fail
    go_ret
    exact ⟨ret_bool HB.out, Below.refl _ _⟩
end Go.Proofs.Ytajjpaabkdgjbaa
