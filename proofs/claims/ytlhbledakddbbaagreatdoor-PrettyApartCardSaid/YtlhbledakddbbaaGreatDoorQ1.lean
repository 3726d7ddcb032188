/- Two rows are the same: slices.Equal, and the document's. -/
import Derived.Test.YtlhbledakddbbaaGreatDoorS1
import Derived.Lib.Strings
namespace Go.Proofs.YtlhbledakddbbaaGreatDoor
open Go.RowKit

noncomputable def eqB {α : Type} (l m : α) : Bool := @decide (l = m) (Classical.propDecidable _)
theorem eqB_true {α : Type} {l m : α} (h : l = m) : true = eqB l m := by unfold eqB; exact (@decide_eq_true _ (Classical.propDecidable _) h).symm
theorem eqB_false {α : Type} {l m : α} (h : ¬ l = m) : false = eqB l m := by unfold eqB; exact (@decide_eq_false _ (Classical.propDecidable _) h).symm
theorem str_inj {a b : List UInt8} (h : str a = str b) : a = b := by
  have := congrArg (fun x : ByteArray => x.data.toList) h
  simpa [str_data] using this
theorem str_beq_ne {a b : List UInt8} (h : ¬ a = b) : ((str a).toList == (str b).toList) = false := by
  rw [Lib.toList_data, Lib.toList_data, str_data, str_data]; simpa using h
theorem str_beq_eq (a : List UInt8) : ((str a).toList == (str a).toList) = true := by simp
theorem neq_rgn_eq (x : Rgn) (w : World) : (binOp .neq 77 (.agg #[.string (str x.name), .int .i64 x.addr, .int .i64 x.size, .bool x.secret]) (.agg #[.string (str x.name), .int .i64 x.addr, .int .i64 x.size, .bool x.secret])).run Tryz.prog w = .ok (.bool false) w := by
  simp [go_sem]
theorem neq_vr_eq (x : Vr) (w : World) : (binOp .neq 80 (.agg #[.string (str x.name), .int .i64 x.kind, .int .i64 x.size, .bool x.secret]) (.agg #[.string (str x.name), .int .i64 x.kind, .int .i64 x.size, .bool x.secret])).run Tryz.prog w = .ok (.bool false) w := by
  simp [go_sem]
theorem neq_rgn_ne {x y : Rgn} (h : ¬ x = y) (w : World) : (binOp .neq 77 (.agg #[.string (str x.name), .int .i64 x.addr, .int .i64 x.size, .bool x.secret]) (.agg #[.string (str y.name), .int .i64 y.addr, .int .i64 y.size, .bool y.secret])).run Tryz.prog w = .ok (.bool true) w := by
  obtain ⟨a, b, c, d⟩ := x
  obtain ⟨a', b', c', d'⟩ := y
  by_cases h1 : a = a'
  · by_cases h2 : b = b'
    · by_cases h3 : c = c'
      · have h4 : ¬ d = d' := fun h4 => h (by rw [h1, h2, h3, h4])
        subst h1; subst h2; subst h3
        simp [go_sem, h4]
      · simp [go_sem, h1, h2, h3]
    · simp [go_sem, h1, h2]
  · have := str_beq_ne h1
    simp [go_sem, this]
theorem neq_vr_ne {x y : Vr} (h : ¬ x = y) (w : World) : (binOp .neq 80 (.agg #[.string (str x.name), .int .i64 x.kind, .int .i64 x.size, .bool x.secret]) (.agg #[.string (str y.name), .int .i64 y.kind, .int .i64 y.size, .bool y.secret])).run Tryz.prog w = .ok (.bool true) w := by
  obtain ⟨a, b, c, d⟩ := x
  obtain ⟨a', b', c', d'⟩ := y
  by_cases h1 : a = a'
  · by_cases h2 : b = b'
    · by_cases h3 : c = c'
      · have h4 : ¬ d = d' := fun h4 => h (by rw [h1, h2, h3, h4])
        subst h1; subst h2; subst h3
        simp [go_sem, h4]
      · simp [go_sem, h1, h2, h3]
    · simp [go_sem, h1, h2]
  · have := str_beq_ne h1
    simp [go_sem, this]

set_option maxHeartbeats 3200000 in
theorem eqStr_any (xs ys : List (List UInt8)) (p p' : Option Addr) (ca cb N : Nat) (w : World) (h1 : RowIn N (StrAt w) 1 xs p) (h2 : RowIn N (StrAt w) 1 ys p') (hN : N ≤ w.heap.size) :
    Calls Tryz.prog 104 #[.slice p xs.length ca, .slice p' ys.length cb] w fun e w' => e = .returned (.bool (eqB xs ys)) ∧ Below w.heap.size w w' := by
  have S1 := Lib.hid h1
  have S2 := Lib.hid h2
  have hm1 := h1.1
  have hm2 := h2.1
  clear h1 h2
  by_cases hl : xs.length = ys.length
  · have HL := Lib.hid hl
    have hl' : ((xs.length : Int) != (ys.length : Int)) = false := by simp [hl]
    clear hl
    go_enter Tryz.func104, Tryz.ntmps104
    go_wp2_with fail
    go_loopw [13] (fun i wr => ∃ (ds rs rs' : List (List UInt8)), i = .int .i64 ds.length ∧ Hid (xs = ds ++ rs) ∧ Hid (ys = ds ++ rs') ∧ ds.length + rs.length = xs.length ∧ rs'.length = rs.length ∧ Hid (Below w.heap.size w wr)) (fun i _ => xs.length - (intOf i).toNat)
    case atStart => exact ⟨[], xs, ys, rfl, Lib.hid rfl, Lib.hid rfl, by simp, by have := HL.out; omega, Lib.hid (Below.refl _ _)⟩
    case round =>
      obtain ⟨ds, rs, rs', rfl, E1, E2, hd1, hd2, hB⟩ := hrel
      cases rs with
      | nil =>
        cases rs' with
        | cons _ _ => simp at hd2
        | nil =>
          simp only [List.length_nil] at hd1
          have hge : ¬ ds.length < xs.length := by omega
          have EQ := Lib.hid (eqB_true (show xs = ys by rw [E1.out, E2.out]))
          go_wp2_with fail
          go_ret
          exact ⟨ret_bool EQ.out, hB.out⟩
      | cons y1 rs =>
        cases rs' with
        | nil => simp at hd2
        | cons y2 rs' =>
          simp only [List.length_cons] at hd1 hd2
          have hlt1 : ds.length < xs.length := by omega
          have hlt2 : ds.length < ys.length := by have := HL.out; omega
          rcases S1.out.2 with h30 | ⟨b1, o1, rfl, hb1, ha1⟩
          · omega
          rcases S2.out.2 with h30 | ⟨b2, o2, rfl, hb2, ha2⟩
          · omega
          rw [E1.out] at ha1
          rw [E2.out] at ha2
          have u1 := StrAt.later ((hB.out).mono hN) y1 b1 _ hb1 (Row.drop _ _ _ ha1).1
          have u2 := StrAt.later ((hB.out).mono hN) y2 b2 _ hb2 (Row.drop _ _ _ ha2).1
          unfold StrAt at u1 u2; rw [Nat.mul_one] at u1 u2
          have HD := Lib.hid hB.out.drew
          clear ha1 ha2
          by_cases hy : y1 = y2
          · subst hy
            have e1 := str_beq_eq y1
            go_wp2_with fail
            go_region
            all_goals
              go_wp2_with fail
              go_roundw
              case rel => exact ⟨ds ++ [y1], rs, rs', by rw [List.length_append]; go_num, Lib.hid (by rw [E1.out]; simp), Lib.hid (by rw [E2.out]; simp), by simp; omega, by omega, HD⟩
              case measure => simp [intOf]; omega
          · have e1 := str_beq_ne hy
            have EQ := Lib.hid (eqB_false (show ¬ xs = ys by
              intro e
              rw [E1.out, E2.out] at e
              have := List.append_cancel_left e
              injection this with e6 _
              exact hy e6))
            clear hy
            go_wp2_with fail
            go_region
            all_goals
              go_wp2_with fail
              go_ret
              exact ⟨ret_bool EQ.out, HD.out⟩
  · have HB := Lib.hid (eqB_false (show ¬ xs = ys by intro e; exact hl (by rw [e])))
    have hl' : ((xs.length : Int) != (ys.length : Int)) = true := by simp; omega
    clear hl
    go_enter Tryz.func104, Tryz.ntmps104
    go_wp2_with fail
    go_ret
    exact ⟨ret_bool HB.out, Below.refl _ _⟩

set_option maxHeartbeats 3200000 in
theorem rNames_any (xs ys : List (List UInt8)) (p p' : Option Addr) (ca cb N : Nat) (w : World) (h1 : RowIn N (StrAt w) 1 xs p) (h2 : RowIn N (StrAt w) 1 ys p') (hN : N ≤ w.heap.size) :
    Calls Tryz.prog 65 #[.slice p xs.length ca, .slice p' ys.length cb] w fun e w' => e = .returned (.bool (eqB xs ys)) ∧ Below w.heap.size w w' := by
  have S1 := Lib.hid h1
  have S2 := Lib.hid h2
  have hm1 := h1.1
  have hm2 := h2.1
  clear h1 h2
  by_cases hl : xs.length = ys.length
  · have HL := Lib.hid hl
    have hl' : ((xs.length : Int) != (ys.length : Int)) = false := by simp [hl]
    clear hl
    go_enter Tryz.func65, Tryz.ntmps65
    go_wp2_with fail
    go_loopw [5] (fun i wr => ∃ (ds rs rs' : List (List UInt8)), i = .int .i64 ds.length ∧ Hid (xs = ds ++ rs) ∧ Hid (ys = ds ++ rs') ∧ ds.length + rs.length = xs.length ∧ rs'.length = rs.length ∧ Hid (Below w.heap.size w wr)) (fun i _ => xs.length - (intOf i).toNat)
    case atStart => exact ⟨[], xs, ys, rfl, Lib.hid rfl, Lib.hid rfl, by simp, by have := HL.out; omega, Lib.hid (Below.refl _ _)⟩
    case round =>
      obtain ⟨ds, rs, rs', rfl, E1, E2, hd1, hd2, hB⟩ := hrel
      cases rs with
      | nil =>
        cases rs' with
        | cons _ _ => simp at hd2
        | nil =>
          simp only [List.length_nil] at hd1
          have hge : ¬ ds.length < xs.length := by omega
          have EQ := Lib.hid (eqB_true (show xs = ys by rw [E1.out, E2.out]))
          go_wp2_with fail
          go_ret
          exact ⟨ret_bool EQ.out, hB.out⟩
      | cons y1 rs =>
        cases rs' with
        | nil => simp at hd2
        | cons y2 rs' =>
          simp only [List.length_cons] at hd1 hd2
          have hlt1 : ds.length < xs.length := by omega
          have hlt2 : ds.length < ys.length := by have := HL.out; omega
          rcases S1.out.2 with h30 | ⟨b1, o1, rfl, hb1, ha1⟩
          · omega
          rcases S2.out.2 with h30 | ⟨b2, o2, rfl, hb2, ha2⟩
          · omega
          rw [E1.out] at ha1
          rw [E2.out] at ha2
          have u1 := StrAt.later ((hB.out).mono hN) y1 b1 _ hb1 (Row.drop _ _ _ ha1).1
          have u2 := StrAt.later ((hB.out).mono hN) y2 b2 _ hb2 (Row.drop _ _ _ ha2).1
          unfold StrAt at u1 u2; rw [Nat.mul_one] at u1 u2
          have HD := Lib.hid hB.out.drew
          clear ha1 ha2
          by_cases hy : y1 = y2
          · subst hy
            have e1 := str_beq_eq y1
            go_wp2_with fail
            go_region
            all_goals
              go_wp2_with fail
              go_roundw
              case rel => exact ⟨ds ++ [y1], rs, rs', by rw [List.length_append]; go_num, Lib.hid (by rw [E1.out]; simp), Lib.hid (by rw [E2.out]; simp), by simp; omega, by omega, HD⟩
              case measure => simp [intOf]; omega
          · have e1 := str_beq_ne hy
            have EQ := Lib.hid (eqB_false (show ¬ xs = ys by
              intro e
              rw [E1.out, E2.out] at e
              have := List.append_cancel_left e
              injection this with e6 _
              exact hy e6))
            clear hy
            go_wp2_with fail
            go_region
            all_goals
              go_wp2_with fail
              go_ret
              exact ⟨ret_bool EQ.out, HD.out⟩
  · have HB := Lib.hid (eqB_false (show ¬ xs = ys by intro e; exact hl (by rw [e])))
    have hl' : ((xs.length : Int) != (ys.length : Int)) = true := by simp; omega
    clear hl
    go_enter Tryz.func65, Tryz.ntmps65
    go_wp2_with fail
    go_ret
    exact ⟨ret_bool HB.out, Below.refl _ _⟩

set_option maxHeartbeats 3200000 in
theorem eqRgn_any (xs ys : List Rgn) (p p' : Option Addr) (ca cb N : Nat) (w : World) (h1 : RowIn N (Rgn.At w) 4 xs p) (h2 : RowIn N (Rgn.At w) 4 ys p') (hN : N ≤ w.heap.size) :
    Calls Tryz.prog 61 #[.slice p xs.length ca, .slice p' ys.length cb] w fun e w' => e = .returned (.bool (eqB xs ys)) ∧ Below w.heap.size w w' := by
  have S1 := Lib.hid h1
  have S2 := Lib.hid h2
  have hm1 := h1.1
  have hm2 := h2.1
  clear h1 h2
  by_cases hl : xs.length = ys.length
  · have HL := Lib.hid hl
    have hl' : ((xs.length : Int) != (ys.length : Int)) = false := by simp [hl]
    clear hl
    go_enter Tryz.func61, Tryz.ntmps61
    go_wp2_with fail
    go_loopw [13] (fun i wr => ∃ (ds rs rs' : List Rgn), i = .int .i64 ds.length ∧ Hid (xs = ds ++ rs) ∧ Hid (ys = ds ++ rs') ∧ ds.length + rs.length = xs.length ∧ rs'.length = rs.length ∧ Hid (Below w.heap.size w wr)) (fun i _ => xs.length - (intOf i).toNat)
    case atStart => exact ⟨[], xs, ys, rfl, Lib.hid rfl, Lib.hid rfl, by simp, by have := HL.out; omega, Lib.hid (Below.refl _ _)⟩
    case round =>
      obtain ⟨ds, rs, rs', rfl, E1, E2, hd1, hd2, hB⟩ := hrel
      cases rs with
      | nil =>
        cases rs' with
        | cons _ _ => simp at hd2
        | nil =>
          simp only [List.length_nil] at hd1
          have hge : ¬ ds.length < xs.length := by omega
          have EQ := Lib.hid (eqB_true (show xs = ys by rw [E1.out, E2.out]))
          go_wp2_with fail
          go_ret
          exact ⟨ret_bool EQ.out, hB.out⟩
      | cons y1 rs =>
        cases rs' with
        | nil => simp at hd2
        | cons y2 rs' =>
          simp only [List.length_cons] at hd1 hd2
          have hlt1 : ds.length < xs.length := by omega
          have hlt2 : ds.length < ys.length := by have := HL.out; omega
          rcases S1.out.2 with h30 | ⟨b1, o1, rfl, hb1, ha1⟩
          · omega
          rcases S2.out.2 with h30 | ⟨b2, o2, rfl, hb2, ha2⟩
          · omega
          rw [E1.out] at ha1
          rw [E2.out] at ha2
          have u1 := Rgn.At.later ((hB.out).mono hN) y1 b1 _ hb1 (Row.drop _ _ _ ha1).1
          have u2 := Rgn.At.later ((hB.out).mono hN) y2 b2 _ hb2 (Row.drop _ _ _ ha2).1
          obtain ⟨u10, u11, u12, u13⟩ := u1; obtain ⟨u20, u21, u22, u23⟩ := u2
          have HD := Lib.hid hB.out.drew
          clear ha1 ha2
          by_cases hy : y1 = y2
          · subst hy
            have e1 := neq_rgn_eq y1
            go_wp2_with fail
            go_region
            all_goals
              go_wp2_with fail
              go_roundw
              case rel => exact ⟨ds ++ [y1], rs, rs', by rw [List.length_append]; go_num, Lib.hid (by rw [E1.out]; simp), Lib.hid (by rw [E2.out]; simp), by simp; omega, by omega, HD⟩
              case measure => simp [intOf]; omega
          · have e1 := neq_rgn_ne hy
            have EQ := Lib.hid (eqB_false (show ¬ xs = ys by
              intro e
              rw [E1.out, E2.out] at e
              have := List.append_cancel_left e
              injection this with e6 _
              exact hy e6))
            clear hy
            go_wp2_with fail
            go_region
            all_goals
              go_wp2_with fail
              go_ret
              exact ⟨ret_bool EQ.out, HD.out⟩
  · have HB := Lib.hid (eqB_false (show ¬ xs = ys by intro e; exact hl (by rw [e])))
    have hl' : ((xs.length : Int) != (ys.length : Int)) = true := by simp; omega
    clear hl
    go_enter Tryz.func61, Tryz.ntmps61
    go_wp2_with fail
    go_ret
    exact ⟨ret_bool HB.out, Below.refl _ _⟩

set_option maxHeartbeats 3200000 in
theorem eqVr_any (xs ys : List Vr) (p p' : Option Addr) (ca cb N : Nat) (w : World) (h1 : RowIn N (Vr.At w) 4 xs p) (h2 : RowIn N (Vr.At w) 4 ys p') (hN : N ≤ w.heap.size) :
    Calls Tryz.prog 103 #[.slice p xs.length ca, .slice p' ys.length cb] w fun e w' => e = .returned (.bool (eqB xs ys)) ∧ Below w.heap.size w w' := by
  have S1 := Lib.hid h1
  have S2 := Lib.hid h2
  have hm1 := h1.1
  have hm2 := h2.1
  clear h1 h2
  by_cases hl : xs.length = ys.length
  · have HL := Lib.hid hl
    have hl' : ((xs.length : Int) != (ys.length : Int)) = false := by simp [hl]
    clear hl
    go_enter Tryz.func103, Tryz.ntmps103
    go_wp2_with fail
    go_loopw [13] (fun i wr => ∃ (ds rs rs' : List Vr), i = .int .i64 ds.length ∧ Hid (xs = ds ++ rs) ∧ Hid (ys = ds ++ rs') ∧ ds.length + rs.length = xs.length ∧ rs'.length = rs.length ∧ Hid (Below w.heap.size w wr)) (fun i _ => xs.length - (intOf i).toNat)
    case atStart => exact ⟨[], xs, ys, rfl, Lib.hid rfl, Lib.hid rfl, by simp, by have := HL.out; omega, Lib.hid (Below.refl _ _)⟩
    case round =>
      obtain ⟨ds, rs, rs', rfl, E1, E2, hd1, hd2, hB⟩ := hrel
      cases rs with
      | nil =>
        cases rs' with
        | cons _ _ => simp at hd2
        | nil =>
          simp only [List.length_nil] at hd1
          have hge : ¬ ds.length < xs.length := by omega
          have EQ := Lib.hid (eqB_true (show xs = ys by rw [E1.out, E2.out]))
          go_wp2_with fail
          go_ret
          exact ⟨ret_bool EQ.out, hB.out⟩
      | cons y1 rs =>
        cases rs' with
        | nil => simp at hd2
        | cons y2 rs' =>
          simp only [List.length_cons] at hd1 hd2
          have hlt1 : ds.length < xs.length := by omega
          have hlt2 : ds.length < ys.length := by have := HL.out; omega
          rcases S1.out.2 with h30 | ⟨b1, o1, rfl, hb1, ha1⟩
          · omega
          rcases S2.out.2 with h30 | ⟨b2, o2, rfl, hb2, ha2⟩
          · omega
          rw [E1.out] at ha1
          rw [E2.out] at ha2
          have u1 := Vr.At.later ((hB.out).mono hN) y1 b1 _ hb1 (Row.drop _ _ _ ha1).1
          have u2 := Vr.At.later ((hB.out).mono hN) y2 b2 _ hb2 (Row.drop _ _ _ ha2).1
          obtain ⟨u10, u11, u12, u13⟩ := u1; obtain ⟨u20, u21, u22, u23⟩ := u2
          have HD := Lib.hid hB.out.drew
          clear ha1 ha2
          by_cases hy : y1 = y2
          · subst hy
            have e1 := neq_vr_eq y1
            go_wp2_with fail
            go_region
            all_goals
              go_wp2_with fail
              go_roundw
              case rel => exact ⟨ds ++ [y1], rs, rs', by rw [List.length_append]; go_num, Lib.hid (by rw [E1.out]; simp), Lib.hid (by rw [E2.out]; simp), by simp; omega, by omega, HD⟩
              case measure => simp [intOf]; omega
          · have e1 := neq_vr_ne hy
            have EQ := Lib.hid (eqB_false (show ¬ xs = ys by
              intro e
              rw [E1.out, E2.out] at e
              have := List.append_cancel_left e
              injection this with e6 _
              exact hy e6))
            clear hy
            go_wp2_with fail
            go_region
            all_goals
              go_wp2_with fail
              go_ret
              exact ⟨ret_bool EQ.out, HD.out⟩
  · have HB := Lib.hid (eqB_false (show ¬ xs = ys by intro e; exact hl (by rw [e])))
    have hl' : ((xs.length : Int) != (ys.length : Int)) = true := by simp; omega
    clear hl
    go_enter Tryz.func103, Tryz.ntmps103
    go_wp2_with fail
    go_ret
    exact ⟨ret_bool HB.out, Below.refl _ _⟩

set_option maxHeartbeats 3200000 in
theorem rVars_any (xs ys : List Vr) (p p' : Option Addr) (ca cb N : Nat) (w : World) (h1 : RowIn N (Vr.At w) 4 xs p) (h2 : RowIn N (Vr.At w) 4 ys p') (hN : N ≤ w.heap.size) :
    Calls Tryz.prog 64 #[.slice p xs.length ca, .slice p' ys.length cb] w fun e w' => e = .returned (.bool (eqB xs ys)) ∧ Below w.heap.size w w' := by
  have S1 := Lib.hid h1
  have S2 := Lib.hid h2
  have hm1 := h1.1
  have hm2 := h2.1
  clear h1 h2
  by_cases hl : xs.length = ys.length
  · have HL := Lib.hid hl
    have hl' : ((xs.length : Int) != (ys.length : Int)) = false := by simp [hl]
    clear hl
    go_enter Tryz.func64, Tryz.ntmps64
    go_wp2_with fail
    go_loopw [5] (fun i wr => ∃ (ds rs rs' : List Vr), i = .int .i64 ds.length ∧ Hid (xs = ds ++ rs) ∧ Hid (ys = ds ++ rs') ∧ ds.length + rs.length = xs.length ∧ rs'.length = rs.length ∧ Hid (Below w.heap.size w wr)) (fun i _ => xs.length - (intOf i).toNat)
    case atStart => exact ⟨[], xs, ys, rfl, Lib.hid rfl, Lib.hid rfl, by simp, by have := HL.out; omega, Lib.hid (Below.refl _ _)⟩
    case round =>
      obtain ⟨ds, rs, rs', rfl, E1, E2, hd1, hd2, hB⟩ := hrel
      cases rs with
      | nil =>
        cases rs' with
        | cons _ _ => simp at hd2
        | nil =>
          simp only [List.length_nil] at hd1
          have hge : ¬ ds.length < xs.length := by omega
          have EQ := Lib.hid (eqB_true (show xs = ys by rw [E1.out, E2.out]))
          go_wp2_with fail
          go_ret
          exact ⟨ret_bool EQ.out, hB.out⟩
      | cons y1 rs =>
        cases rs' with
        | nil => simp at hd2
        | cons y2 rs' =>
          simp only [List.length_cons] at hd1 hd2
          have hlt1 : ds.length < xs.length := by omega
          have hlt2 : ds.length < ys.length := by have := HL.out; omega
          rcases S1.out.2 with h30 | ⟨b1, o1, rfl, hb1, ha1⟩
          · omega
          rcases S2.out.2 with h30 | ⟨b2, o2, rfl, hb2, ha2⟩
          · omega
          rw [E1.out] at ha1
          rw [E2.out] at ha2
          have u1 := Vr.At.later ((hB.out).mono hN) y1 b1 _ hb1 (Row.drop _ _ _ ha1).1
          have u2 := Vr.At.later ((hB.out).mono hN) y2 b2 _ hb2 (Row.drop _ _ _ ha2).1
          obtain ⟨u10, u11, u12, u13⟩ := u1; obtain ⟨u20, u21, u22, u23⟩ := u2
          have HD := Lib.hid hB.out.drew
          clear ha1 ha2
          by_cases hy : y1 = y2
          · subst hy
            have e1 := neq_vr_eq y1
            go_wp2_with fail
            go_region
            all_goals
              go_wp2_with fail
              go_roundw
              case rel => exact ⟨ds ++ [y1], rs, rs', by rw [List.length_append]; go_num, Lib.hid (by rw [E1.out]; simp), Lib.hid (by rw [E2.out]; simp), by simp; omega, by omega, HD⟩
              case measure => simp [intOf]; omega
          · have e1 := neq_vr_ne hy
            have EQ := Lib.hid (eqB_false (show ¬ xs = ys by
              intro e
              rw [E1.out, E2.out] at e
              have := List.append_cancel_left e
              injection this with e6 _
              exact hy e6))
            clear hy
            go_wp2_with fail
            go_region
            all_goals
              go_wp2_with fail
              go_ret
              exact ⟨ret_bool EQ.out, HD.out⟩
  · have HB := Lib.hid (eqB_false (show ¬ xs = ys by intro e; exact hl (by rw [e])))
    have hl' : ((xs.length : Int) != (ys.length : Int)) = true := by simp; omega
    clear hl
    go_enter Tryz.func64, Tryz.ntmps64
    go_wp2_with fail
    go_ret
    exact ⟨ret_bool HB.out, Below.refl _ _⟩
end Go.Proofs.YtlhbledakddbbaaGreatDoor
