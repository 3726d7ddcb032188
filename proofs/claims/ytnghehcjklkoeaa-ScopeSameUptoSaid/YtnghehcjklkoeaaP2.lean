/- P1, P2 as one. -/
import Derived.Test.YtnghehcjklkoeaaM1
import Derived.Lib.Strings
import Derived.StillTailTactics
/- Two rows are the same: slices.Equal, and the document's. -/
namespace Go.Proofs.Ytnghehcjklkoeaa
open Go.RowKit

noncomputable def eqB {α : Type} (l m : α) : Bool := @decide (l = m) (Classical.propDecidable _)
theorem eqB_true {α : Type} {l m : α} (h : l = m) : true = eqB l m := by unfold eqB; exact (@decide_eq_true _ (Classical.propDecidable _) h).symm
theorem eqB_false {α : Type} {l m : α} (h : ¬ l = m) : false = eqB l m := by unfold eqB; exact (@decide_eq_false _ (Classical.propDecidable _) h).symm
theorem str_inj {a b : List UInt8} (h : str a = str b) : a = b := by
  have := congrArg (fun x : ByteArray => x.data.toList) h
  simpa [str_data] using this
theorem str_beq_ne {a b : List UInt8} (h : ¬ a = b) : ((str a).toList == (str b).toList) = false := by
  rw [Lib.toList_data, Lib.toList_data, str_data, str_data]; simpa using h
theorem str_beq_eq (a : List UInt8) : ((str a).toList == (str a).toList) = true := by simp
theorem neq_rgn_eq (x : Rgn) (w : World) : (binOp .neq 58 (.agg #[.string (str x.name), .int .i64 x.addr, .int .i64 x.size, .bool x.secret]) (.agg #[.string (str x.name), .int .i64 x.addr, .int .i64 x.size, .bool x.secret])).run Try.prog w = .ok (.bool false) w := by
  simp [go_sem]
theorem neq_vr_eq (x : Vr) (w : World) : (binOp .neq 52 (.agg #[.string (str x.name), .int .i64 x.kind, .int .i64 x.size, .bool x.secret]) (.agg #[.string (str x.name), .int .i64 x.kind, .int .i64 x.size, .bool x.secret])).run Try.prog w = .ok (.bool false) w := by
  simp [go_sem]
theorem neq_rgn_ne {x y : Rgn} (h : ¬ x = y) (w : World) : (binOp .neq 58 (.agg #[.string (str x.name), .int .i64 x.addr, .int .i64 x.size, .bool x.secret]) (.agg #[.string (str y.name), .int .i64 y.addr, .int .i64 y.size, .bool y.secret])).run Try.prog w = .ok (.bool true) w := by
  obtain ⟨a, b, c, d⟩ := x
  obtain ⟨a', b', c', d'⟩ := y
  by_cases h1 : a = a'
  · by_cases h2 : b = b'
    · by_cases h3 : c = c'
      · have h4 : ¬ d = d' := fun h4 => h (by rw [h1, h2, h3, h4])
        subst h1; subst h2; subst h3
        simp [go_sem, h4]
      · simp [go_sem, h1, h2, h3]
    · simp [go_sem, h1, h2]
  · have := str_beq_ne h1
    simp [go_sem, this]
theorem neq_vr_ne {x y : Vr} (h : ¬ x = y) (w : World) : (binOp .neq 52 (.agg #[.string (str x.name), .int .i64 x.kind, .int .i64 x.size, .bool x.secret]) (.agg #[.string (str y.name), .int .i64 y.kind, .int .i64 y.size, .bool y.secret])).run Try.prog w = .ok (.bool true) w := by
  obtain ⟨a, b, c, d⟩ := x
  obtain ⟨a', b', c', d'⟩ := y
  by_cases h1 : a = a'
  · by_cases h2 : b = b'
    · by_cases h3 : c = c'
      · have h4 : ¬ d = d' := fun h4 => h (by rw [h1, h2, h3, h4])
        subst h1; subst h2; subst h3
        simp [go_sem, h4]
      · simp [go_sem, h1, h2, h3]
    · simp [go_sem, h1, h2]
  · have := str_beq_ne h1
    simp [go_sem, this]

set_option maxHeartbeats 3200000 in
theorem eqStr_any (xs ys : List (List UInt8)) (p p' : Option Addr) (ca cb N : Nat) (w : World) (h1 : RowIn N (StrAt w) 1 xs p) (h2 : RowIn N (StrAt w) 1 ys p') (hN : N ≤ w.heap.size) :
    Calls Try.prog 41 #[.slice p xs.length ca, .slice p' ys.length cb] w fun e w' => e = .returned (.bool (eqB xs ys)) ∧ Below w.heap.size w w' := by
  have S1 := Lib.hid h1
  have S2 := Lib.hid h2
  have hm1 := h1.1
  have hm2 := h2.1
  clear h1 h2
  by_cases hl : xs.length = ys.length
  · have HL := Lib.hid hl
    have hl' : ((xs.length : Int) != (ys.length : Int)) = false := by simp [hl]
    clear hl
    go_enter Try.func41, Try.ntmps41
    go_wp2_with fail
    go_loopw [13] (fun i wr => ∃ (ds rs rs' : List (List UInt8)), i = .int .i64 ds.length ∧ Hid (xs = ds ++ rs) ∧ Hid (ys = ds ++ rs') ∧ ds.length + rs.length = xs.length ∧ rs'.length = rs.length ∧ Hid (Below w.heap.size w wr)) (fun i _ => xs.length - (intOf i).toNat)
    case atStart => exact ⟨[], xs, ys, rfl, Lib.hid rfl, Lib.hid rfl, by simp, by have := HL.out; omega, Lib.hid (Below.refl _ _)⟩
    case round =>
      obtain ⟨ds, rs, rs', rfl, E1, E2, hd1, hd2, hB⟩ := hrel
      cases rs with
      | nil =>
        cases rs' with
        | cons _ _ => simp at hd2
        | nil =>
          simp only [List.length_nil] at hd1
          have hge : ¬ ds.length < xs.length := by omega
          have EQ := Lib.hid (eqB_true (show xs = ys by rw [E1.out, E2.out]))
          go_wp2_with fail
          go_ret
          exact ⟨ret_bool EQ.out, hB.out⟩
      | cons y1 rs =>
        cases rs' with
        | nil => simp at hd2
        | cons y2 rs' =>
          simp only [List.length_cons] at hd1 hd2
          have hlt1 : ds.length < xs.length := by omega
          have hlt2 : ds.length < ys.length := by have := HL.out; omega
          rcases S1.out.2 with h30 | ⟨b1, o1, rfl, hb1, ha1⟩
          · omega
          rcases S2.out.2 with h30 | ⟨b2, o2, rfl, hb2, ha2⟩
          · omega
          rw [E1.out] at ha1
          rw [E2.out] at ha2
          have u1 := StrAt.later ((hB.out).mono hN) y1 b1 _ hb1 (Row.drop _ _ _ ha1).1
          have u2 := StrAt.later ((hB.out).mono hN) y2 b2 _ hb2 (Row.drop _ _ _ ha2).1
          unfold StrAt at u1 u2; rw [Nat.mul_one] at u1 u2
          have HD := Lib.hid hB.out.drew
          clear ha1 ha2
          by_cases hy : y1 = y2
          · subst hy
            have e1 := str_beq_eq y1
            go_wp2_with fail
            go_region
            all_goals
              go_wp2_with fail
              go_roundw
              case rel => exact ⟨ds ++ [y1], rs, rs', by rw [List.length_append]; go_num, Lib.hid (by rw [E1.out]; simp), Lib.hid (by rw [E2.out]; simp), by simp; omega, by omega, HD⟩
              case measure => simp [intOf]; omega
          · have e1 := str_beq_ne hy
            have EQ := Lib.hid (eqB_false (show ¬ xs = ys by
              intro e
              rw [E1.out, E2.out] at e
              have := List.append_cancel_left e
              injection this with e6 _
              exact hy e6))
            clear hy
            go_wp2_with fail
            go_region
            all_goals
              go_wp2_with fail
              go_ret
              exact ⟨ret_bool EQ.out, HD.out⟩
  · have HB := Lib.hid (eqB_false (show ¬ xs = ys by intro e; exact hl (by rw [e])))
    have hl' : ((xs.length : Int) != (ys.length : Int)) = true := by simp; omega
    clear hl
    go_enter Try.func41, Try.ntmps41
    go_wp2_with fail
    go_ret
    exact ⟨ret_bool HB.out, Below.refl _ _⟩

set_option maxHeartbeats 3200000 in
theorem eqRgn_any (xs ys : List Rgn) (p p' : Option Addr) (ca cb N : Nat) (w : World) (h1 : RowIn N (Rgn.At w) 4 xs p) (h2 : RowIn N (Rgn.At w) 4 ys p') (hN : N ≤ w.heap.size) :
    Calls Try.prog 17 #[.slice p xs.length ca, .slice p' ys.length cb] w fun e w' => e = .returned (.bool (eqB xs ys)) ∧ Below w.heap.size w w' := by
  have S1 := Lib.hid h1
  have S2 := Lib.hid h2
  have hm1 := h1.1
  have hm2 := h2.1
  clear h1 h2
  by_cases hl : xs.length = ys.length
  · have HL := Lib.hid hl
    have hl' : ((xs.length : Int) != (ys.length : Int)) = false := by simp [hl]
    clear hl
    go_enter Try.func17, Try.ntmps17
    go_wp2_with fail
    go_loopw [13] (fun i wr => ∃ (ds rs rs' : List Rgn), i = .int .i64 ds.length ∧ Hid (xs = ds ++ rs) ∧ Hid (ys = ds ++ rs') ∧ ds.length + rs.length = xs.length ∧ rs'.length = rs.length ∧ Hid (Below w.heap.size w wr)) (fun i _ => xs.length - (intOf i).toNat)
    case atStart => exact ⟨[], xs, ys, rfl, Lib.hid rfl, Lib.hid rfl, by simp, by have := HL.out; omega, Lib.hid (Below.refl _ _)⟩
    case round =>
      obtain ⟨ds, rs, rs', rfl, E1, E2, hd1, hd2, hB⟩ := hrel
      cases rs with
      | nil =>
        cases rs' with
        | cons _ _ => simp at hd2
        | nil =>
          simp only [List.length_nil] at hd1
          have hge : ¬ ds.length < xs.length := by omega
          have EQ := Lib.hid (eqB_true (show xs = ys by rw [E1.out, E2.out]))
          go_wp2_with fail
          go_ret
          exact ⟨ret_bool EQ.out, hB.out⟩
      | cons y1 rs =>
        cases rs' with
        | nil => simp at hd2
        | cons y2 rs' =>
          simp only [List.length_cons] at hd1 hd2
          have hlt1 : ds.length < xs.length := by omega
          have hlt2 : ds.length < ys.length := by have := HL.out; omega
          rcases S1.out.2 with h30 | ⟨b1, o1, rfl, hb1, ha1⟩
          · omega
          rcases S2.out.2 with h30 | ⟨b2, o2, rfl, hb2, ha2⟩
          · omega
          rw [E1.out] at ha1
          rw [E2.out] at ha2
          have u1 := Rgn.At.later ((hB.out).mono hN) y1 b1 _ hb1 (Row.drop _ _ _ ha1).1
          have u2 := Rgn.At.later ((hB.out).mono hN) y2 b2 _ hb2 (Row.drop _ _ _ ha2).1
          obtain ⟨u10, u11, u12, u13⟩ := u1; obtain ⟨u20, u21, u22, u23⟩ := u2
          have HD := Lib.hid hB.out.drew
          clear ha1 ha2
          by_cases hy : y1 = y2
          · subst hy
            have e1 := neq_rgn_eq y1
            go_wp2_with fail
            go_region
            all_goals
              go_wp2_with fail
              go_roundw
              case rel => exact ⟨ds ++ [y1], rs, rs', by rw [List.length_append]; go_num, Lib.hid (by rw [E1.out]; simp), Lib.hid (by rw [E2.out]; simp), by simp; omega, by omega, HD⟩
              case measure => simp [intOf]; omega
          · have e1 := neq_rgn_ne hy
            have EQ := Lib.hid (eqB_false (show ¬ xs = ys by
              intro e
              rw [E1.out, E2.out] at e
              have := List.append_cancel_left e
              injection this with e6 _
              exact hy e6))
            clear hy
            go_wp2_with fail
            go_region
            all_goals
              go_wp2_with fail
              go_ret
              exact ⟨ret_bool EQ.out, HD.out⟩
  · have HB := Lib.hid (eqB_false (show ¬ xs = ys by intro e; exact hl (by rw [e])))
    have hl' : ((xs.length : Int) != (ys.length : Int)) = true := by simp; omega
    clear hl
    go_enter Try.func17, Try.ntmps17
    go_wp2_with fail
    go_ret
    exact ⟨ret_bool HB.out, Below.refl _ _⟩

set_option maxHeartbeats 3200000 in
theorem eqVr_any (xs ys : List Vr) (p p' : Option Addr) (ca cb N : Nat) (w : World) (h1 : RowIn N (Vr.At w) 4 xs p) (h2 : RowIn N (Vr.At w) 4 ys p') (hN : N ≤ w.heap.size) :
    Calls Try.prog 40 #[.slice p xs.length ca, .slice p' ys.length cb] w fun e w' => e = .returned (.bool (eqB xs ys)) ∧ Below w.heap.size w w' := by
  have S1 := Lib.hid h1
  have S2 := Lib.hid h2
  have hm1 := h1.1
  have hm2 := h2.1
  clear h1 h2
  by_cases hl : xs.length = ys.length
  · have HL := Lib.hid hl
    have hl' : ((xs.length : Int) != (ys.length : Int)) = false := by simp [hl]
    clear hl
    go_enter Try.func40, Try.ntmps40
    go_wp2_with fail
    go_loopw [13] (fun i wr => ∃ (ds rs rs' : List Vr), i = .int .i64 ds.length ∧ Hid (xs = ds ++ rs) ∧ Hid (ys = ds ++ rs') ∧ ds.length + rs.length = xs.length ∧ rs'.length = rs.length ∧ Hid (Below w.heap.size w wr)) (fun i _ => xs.length - (intOf i).toNat)
    case atStart => exact ⟨[], xs, ys, rfl, Lib.hid rfl, Lib.hid rfl, by simp, by have := HL.out; omega, Lib.hid (Below.refl _ _)⟩
    case round =>
      obtain ⟨ds, rs, rs', rfl, E1, E2, hd1, hd2, hB⟩ := hrel
      cases rs with
      | nil =>
        cases rs' with
        | cons _ _ => simp at hd2
        | nil =>
          simp only [List.length_nil] at hd1
          have hge : ¬ ds.length < xs.length := by omega
          have EQ := Lib.hid (eqB_true (show xs = ys by rw [E1.out, E2.out]))
          go_wp2_with fail
          go_ret
          exact ⟨ret_bool EQ.out, hB.out⟩
      | cons y1 rs =>
        cases rs' with
        | nil => simp at hd2
        | cons y2 rs' =>
          simp only [List.length_cons] at hd1 hd2
          have hlt1 : ds.length < xs.length := by omega
          have hlt2 : ds.length < ys.length := by have := HL.out; omega
          rcases S1.out.2 with h30 | ⟨b1, o1, rfl, hb1, ha1⟩
          · omega
          rcases S2.out.2 with h30 | ⟨b2, o2, rfl, hb2, ha2⟩
          · omega
          rw [E1.out] at ha1
          rw [E2.out] at ha2
          have u1 := Vr.At.later ((hB.out).mono hN) y1 b1 _ hb1 (Row.drop _ _ _ ha1).1
          have u2 := Vr.At.later ((hB.out).mono hN) y2 b2 _ hb2 (Row.drop _ _ _ ha2).1
          obtain ⟨u10, u11, u12, u13⟩ := u1; obtain ⟨u20, u21, u22, u23⟩ := u2
          have HD := Lib.hid hB.out.drew
          clear ha1 ha2
          by_cases hy : y1 = y2
          · subst hy
            have e1 := neq_vr_eq y1
            go_wp2_with fail
            go_region
            all_goals
              go_wp2_with fail
              go_roundw
              case rel => exact ⟨ds ++ [y1], rs, rs', by rw [List.length_append]; go_num, Lib.hid (by rw [E1.out]; simp), Lib.hid (by rw [E2.out]; simp), by simp; omega, by omega, HD⟩
              case measure => simp [intOf]; omega
          · have e1 := neq_vr_ne hy
            have EQ := Lib.hid (eqB_false (show ¬ xs = ys by
              intro e
              rw [E1.out, E2.out] at e
              have := List.append_cancel_left e
              injection this with e6 _
              exact hy e6))
            clear hy
            go_wp2_with fail
            go_region
            all_goals
              go_wp2_with fail
              go_ret
              exact ⟨ret_bool EQ.out, HD.out⟩
  · have HB := Lib.hid (eqB_false (show ¬ xs = ys by intro e; exact hl (by rw [e])))
    have hl' : ((xs.length : Int) != (ys.length : Int)) = true := by simp; omega
    clear hl
    go_enter Try.func40, Try.ntmps40
    go_wp2_with fail
    go_ret
    exact ⟨ret_bool HB.out, Below.refl _ _⟩

set_option maxHeartbeats 3200000 in
theorem rVars_any (xs ys : List Vr) (p p' : Option Addr) (ca cb N : Nat) (w : World) (h1 : RowIn N (Vr.At w) 4 xs p) (h2 : RowIn N (Vr.At w) 4 ys p') (hN : N ≤ w.heap.size) :
    Calls Try.prog 20 #[.slice p xs.length ca, .slice p' ys.length cb] w fun e w' => e = .returned (.bool (eqB xs ys)) ∧ Below w.heap.size w w' := by
  have S1 := Lib.hid h1
  have S2 := Lib.hid h2
  have hm1 := h1.1
  have hm2 := h2.1
  clear h1 h2
  by_cases hl : xs.length = ys.length
  · have HL := Lib.hid hl
    have hl' : ((xs.length : Int) != (ys.length : Int)) = false := by simp [hl]
    clear hl
    go_enter Try.func20, Try.ntmps20
    go_wp2_with fail
    go_loopw [5] (fun i wr => ∃ (ds rs rs' : List Vr), i = .int .i64 ds.length ∧ Hid (xs = ds ++ rs) ∧ Hid (ys = ds ++ rs') ∧ ds.length + rs.length = xs.length ∧ rs'.length = rs.length ∧ Hid (Below w.heap.size w wr)) (fun i _ => xs.length - (intOf i).toNat)
    case atStart => exact ⟨[], xs, ys, rfl, Lib.hid rfl, Lib.hid rfl, by simp, by have := HL.out; omega, Lib.hid (Below.refl _ _)⟩
    case round =>
      obtain ⟨ds, rs, rs', rfl, E1, E2, hd1, hd2, hB⟩ := hrel
      cases rs with
      | nil =>
        cases rs' with
        | cons _ _ => simp at hd2
        | nil =>
          simp only [List.length_nil] at hd1
          have hge : ¬ ds.length < xs.length := by omega
          have EQ := Lib.hid (eqB_true (show xs = ys by rw [E1.out, E2.out]))
          go_wp2_with fail
          go_ret
          exact ⟨ret_bool EQ.out, hB.out⟩
      | cons y1 rs =>
        cases rs' with
        | nil => simp at hd2
        | cons y2 rs' =>
          simp only [List.length_cons] at hd1 hd2
          have hlt1 : ds.length < xs.length := by omega
          have hlt2 : ds.length < ys.length := by have := HL.out; omega
          rcases S1.out.2 with h30 | ⟨b1, o1, rfl, hb1, ha1⟩
          · omega
          rcases S2.out.2 with h30 | ⟨b2, o2, rfl, hb2, ha2⟩
          · omega
          rw [E1.out] at ha1
          rw [E2.out] at ha2
          have u1 := Vr.At.later ((hB.out).mono hN) y1 b1 _ hb1 (Row.drop _ _ _ ha1).1
          have u2 := Vr.At.later ((hB.out).mono hN) y2 b2 _ hb2 (Row.drop _ _ _ ha2).1
          obtain ⟨u10, u11, u12, u13⟩ := u1; obtain ⟨u20, u21, u22, u23⟩ := u2
          have HD := Lib.hid hB.out.drew
          clear ha1 ha2
          by_cases hy : y1 = y2
          · subst hy
            have e1 := neq_vr_eq y1
            go_wp2_with fail
            go_region
            all_goals
              go_wp2_with fail
              go_roundw
              case rel => exact ⟨ds ++ [y1], rs, rs', by rw [List.length_append]; go_num, Lib.hid (by rw [E1.out]; simp), Lib.hid (by rw [E2.out]; simp), by simp; omega, by omega, HD⟩
              case measure => simp [intOf]; omega
          · have e1 := neq_vr_ne hy
            have EQ := Lib.hid (eqB_false (show ¬ xs = ys by
              intro e
              rw [E1.out, E2.out] at e
              have := List.append_cancel_left e
              injection this with e6 _
              exact hy e6))
            clear hy
            go_wp2_with fail
            go_region
            all_goals
              go_wp2_with fail
              go_ret
              exact ⟨ret_bool EQ.out, HD.out⟩
  · have HB := Lib.hid (eqB_false (show ¬ xs = ys by intro e; exact hl (by rw [e])))
    have hl' : ((xs.length : Int) != (ys.length : Int)) = true := by simp; omega
    clear hl
    go_enter Try.func20, Try.ntmps20
    go_wp2_with fail
    go_ret
    exact ⟨ret_bool HB.out, Below.refl _ _⟩
end Go.Proofs.Ytnghehcjklkoeaa
/- Two expressions are the same: the loops. -/
namespace Go.Proofs.Ytnghehcjklkoeaa
open Go.RowKit

theorem eqB_of_true {α : Type} {a b : α} (h : eqB a b = true) : a = b := by unfold eqB at h; exact @of_decide_eq_true _ (Classical.propDecidable _) h
theorem eqB_of_false {α : Type} {a b : α} (h : eqB a b = false) : ¬ a = b := by unfold eqB at h; exact @of_decide_eq_false _ (Classical.propDecidable _) h
def Ex.valP (x : Ex) (s : Option Addr × Nat) : Value := x.val s.1 s.2
def Ex.OkP (w : World) (N : Nat) (x : Ex) (s : Option Addr × Nat) : Prop := x.Ok w N s.1
theorem Ex.OkP.later {w w' : World} {N M : Nat} {x : Ex} {s : Option Addr × Nat} (h : Ex.OkP w N x s) (hw : Below N w w') (hM : N ≤ M) : Ex.OkP w' M x s := Ex.Ok.later h hw hM
def Ex.cells (x : Ex) (s : Option Addr × Nat) : Array Value := #[.int .i64 x.op, .int .u64 (x.word : Int), .string (str x.name), .slice s.1 x.args.len s.2]
theorem Ex.At.openP {w : World} {N : Nat} {x : Ex} {b o : Nat} (h : x.At w N b o) : ∃ s : Option Addr × Nat, (∀ j v, (x.cells s)[j]? = some v → w.cell? ⟨b, o + j, none⟩ = some v) ∧ Ex.OkP w N x s := by
  obtain ⟨p, c, h0, h1, h2, h3, ok⟩ := h.open'
  refine ⟨⟨p, c⟩, ?_, ok⟩
  intro j v hv
  rcases j with _ | _ | _ | _ | j
  all_goals first | (cases hv; assumption) | (simp [Ex.cells] at hv)
def Exs.toL : Exs → List Ex
  | .nil => []
  | .cons x r => x :: r.toL
theorem Exs.toL_len : ∀ l : Exs, l.len = l.toL.length
  | .nil => rfl
  | .cons x r => by simp [Exs.len, Exs.toL, Exs.toL_len r]
theorem Exs.toL_inj : ∀ {l m : Exs}, l.toL = m.toL → l = m
  | .nil, .nil, _ => rfl
  | .nil, .cons _ _, h => by cases h
  | .cons _ _, .nil, h => by cases h
  | .cons x r, .cons y z, h => by simp only [Exs.toL, List.cons.injEq] at h; rw [h.1, Exs.toL_inj h.2]
theorem Exs.toL_size : ∀ {l : Exs} {x : Ex}, x ∈ l.toL → x.size < l.size
  | .cons y r, x, h => by
    rcases List.mem_cons.1 h with rfl | h
    · simp only [Exs.size]; omega
    · have := Exs.toL_size h; simp only [Exs.size]; omega
theorem Exs.row {w : World} {N b : Nat} : ∀ (l : Exs) (o : Nat), l.At w N b o → Row (Ex.At w N) 4 l.toL b o
  | .nil, _, _ => trivial
  | .cons _x r, o, h => ⟨h.1, Exs.row r (o + 4) h.2⟩
theorem Exs.rowIn {w : World} {N : Nat} {l : Exs} {p : Option Addr} (h : l.In w N p) : RowIn N (Ex.At w N) 4 l.toL p := by
  unfold RowIn
  rw [← Exs.toL_len]
  exact Sl.imp h (Nat.le_refl _) fun b o _ ha => Exs.row l o ha
theorem eqB_exs (l m : Exs) : eqB l.toL m.toL = eqB l m := by
  by_cases h : l = m
  · rw [← eqB_true h, ← eqB_true (by rw [h])]
  · rw [← eqB_false h, ← eqB_false fun e => h (Exs.toL_inj e)]

set_option maxRecDepth 100000 in
set_option maxHeartbeats 3200000 in
theorem eqfEx (xs ys : List Ex) (p p' : Option Addr) (ca cb N : Nat) (w : World) (h1 : RowIn N (Ex.At w N) 4 xs p) (h2 : RowIn N (Ex.At w N) 4 ys p') (hN : N ≤ w.heap.size)
    (hcb : ∀ y1 ∈ xs, ∀ y2 ∈ ys, ∀ (s1 s2 : (Option Addr × Nat)) (w1 : World), Below w.heap.size w w1 → Ex.OkP w1 w1.heap.size y1 s1 → Ex.OkP w1 w1.heap.size y2 s2 → Calls Try.prog 65 #[Ex.valP y1 s1, Ex.valP y2 s2] w1 fun e w' => e = .returned (.bool (eqB y1 y2)) ∧ Below w1.heap.size w1 w') :
    Calls Try.prog 66 #[.slice p xs.length ca, .slice p' ys.length cb, .func (Fn.func 65) #[] #[]] w fun e w' => e = .returned (.bool (eqB xs ys)) ∧ Below w.heap.size w w' := by
  have S1 := Lib.hid h1
  have S2 := Lib.hid h2
  have HCB := Lib.hid hcb
  have hm1 := h1.1
  have hm2 := h2.1
  clear h1 h2 hcb
  by_cases hl : xs.length = ys.length
  · have HL := Lib.hid hl
    have hl' : ((xs.length : Int) != (ys.length : Int)) = false := by simp [hl]
    clear hl
    go_enter Try.func66, Try.ntmps66
    go_wp2_with fail
    go_loopw [17] (fun i wr => ∃ (ds rs rs' : List Ex), i = .int .i64 ds.length ∧ Hid (xs = ds ++ rs) ∧ Hid (ys = ds ++ rs') ∧ ds.length + rs.length = xs.length ∧ rs'.length = rs.length ∧ Hid (Below w.heap.size w wr)) (fun i _ => xs.length - (intOf i).toNat)
    case atStart => exact ⟨[], xs, ys, rfl, Lib.hid rfl, Lib.hid rfl, by simp, by have := HL.out; omega, Lib.hid (Below.refl _ _)⟩
    case round =>
      obtain ⟨ds, rs, rs', rfl, E1, E2, hd1, hd2, hB⟩ := hrel
      cases rs with
      | nil =>
        cases rs' with
        | cons _ _ => simp at hd2
        | nil =>
          simp only [List.length_nil] at hd1
          have hge : ¬ ds.length < xs.length := by omega
          have EQ := Lib.hid (eqB_true (show xs = ys by rw [E1.out, E2.out]))
          go_wp2_with fail
          go_ret
          exact ⟨ret_bool EQ.out, hB.out⟩
      | cons y1 rs =>
        cases rs' with
        | nil => simp at hd2
        | cons y2 rs' =>
          simp only [List.length_cons] at hd1 hd2
          have hlt1 : ds.length < xs.length := by omega
          have hlt2 : ds.length < ys.length := by have := HL.out; omega
          rcases S1.out.2 with h30 | ⟨b1, o1, rfl, hb1, ha1⟩
          · omega
          rcases S2.out.2 with h30 | ⟨b2, o2, rfl, hb2, ha2⟩
          · omega
          rw [E1.out] at ha1
          rw [E2.out] at ha2
          obtain ⟨s1, c1, ok1⟩ := Ex.At.openP (Ex.At.later ((hB.out).mono hN) (Nat.le_trans hN hB.out.size) y1 b1 _ hb1 (Row.drop _ _ _ ha1).1)
          obtain ⟨s2, c2, ok2⟩ := Ex.At.openP (Ex.At.later ((hB.out).mono hN) (Nat.le_trans hN hB.out.size) y2 b2 _ hb2 (Row.drop _ _ _ ha2).1)
          have HC := Lib.hid (fun (w1 : World) (hb : Below wr.heap.size wr w1) => HCB.out y1 (by rw [E1.out]; simp) y2 (by rw [E2.out]; simp) s1 s2 w1 (hB.out.trans (hb.mono hB.out.size)) (Ex.OkP.later ok1 hb hb.size) (Ex.OkP.later ok2 hb hb.size))
          have EQ := Lib.hid (show (eqB y1 y2 = true → y1 = y2) ∧ (eqB y1 y2 = false → ¬ xs = ys) from ⟨eqB_of_true, fun h e => by
              rw [E1.out, E2.out] at e
              have := List.append_cancel_left e
              injection this with e6 _
              exact eqB_of_false h e6⟩)
          have HB2 := Lib.hid (((Below.refl _ wr).alloc (Nat.le_refl _) (Obj.cells #[.int .i64 y1.op, .int .u64 (y1.word : Int), .string (str y1.name), .slice s1.1 y1.args.len s1.2] 42)).alloc (by simp) (Obj.cells #[.int .i64 y2.op, .int .u64 (y2.word : Int), .string (str y2.name), .slice s2.1 y2.args.len s2.2] 42))
          have g0 : wr.cell? ⟨b1, o1 + ds.length * 4, none⟩ = some (.int .i64 y1.op) := c1 0 _ rfl
          have g1 : wr.cell? ⟨b1, o1 + ds.length * 4 + 1, none⟩ = some (.int .u64 (y1.word : Int)) := c1 1 _ rfl
          have g2 : wr.cell? ⟨b1, o1 + ds.length * 4 + 2, none⟩ = some (.string (str y1.name)) := c1 2 _ rfl
          have g3 : wr.cell? ⟨b1, o1 + ds.length * 4 + 3, none⟩ = some (.slice s1.1 y1.args.len s1.2) := c1 3 _ rfl
          have m0 : ∀ o : Obj, (wr.alloc o).cell? ⟨b2, o2 + ds.length * 4, none⟩ = some (.int .i64 y2.op) := fun o => (World.cell?_alloc_past o _ _ (World.block_lt_of_cell? _ _ (c2 0 _ rfl))).trans (c2 0 _ rfl)
          have m1 : ∀ o : Obj, (wr.alloc o).cell? ⟨b2, o2 + ds.length * 4 + 1, none⟩ = some (.int .u64 (y2.word : Int)) := fun o => (World.cell?_alloc_past o _ _ (World.block_lt_of_cell? _ _ (c2 1 _ rfl))).trans (c2 1 _ rfl)
          have m2 : ∀ o : Obj, (wr.alloc o).cell? ⟨b2, o2 + ds.length * 4 + 2, none⟩ = some (.string (str y2.name)) := fun o => (World.cell?_alloc_past o _ _ (World.block_lt_of_cell? _ _ (c2 2 _ rfl))).trans (c2 2 _ rfl)
          have m3 : ∀ o : Obj, (wr.alloc o).cell? ⟨b2, o2 + ds.length * 4 + 3, none⟩ = some (.slice s2.1 y2.args.len s2.2) := fun o => (World.cell?_alloc_past o _ _ (World.block_lt_of_cell? _ _ (c2 3 _ rfl))).trans (c2 3 _ rfl)
          clear c1 c2 ok1 ok2 ha1 ha2
          unfold Ex.valP Ex.val at HC
          generalize eqB y1 y2 = v at HC EQ
          cases v with
          | true =>
            have hy := Lib.hid (EQ.out.1 rfl)
            clear EQ
            go_wp2_with fail
            refine (HC.out _ HB2.out).mono ?_
            rintro e w1 ⟨rfl, hB1⟩
            have HB3 := Lib.hid (hB.out.trans ((HB2.out.trans (hB1.mono HB2.out.size)).mono hB.out.size))
            clear hB1 m0 m1 m2 m3
            go_wp2_with fail
            go_roundw
            case rel => exact ⟨ds ++ [y1], rs, rs', by rw [List.length_append]; go_num, Lib.hid (by rw [E1.out]; simp), Lib.hid (by rw [E2.out, hy.out]; simp), by simp; omega, by omega, HB3⟩
            case measure => simp [intOf]; omega
          | false =>
            have hy := Lib.hid (eqB_false (EQ.out.2 rfl))
            clear EQ
            go_wp2_with fail
            refine (HC.out _ HB2.out).mono ?_
            rintro e w1 ⟨rfl, hB1⟩
            have HB3 := Lib.hid (hB.out.trans ((HB2.out.trans (hB1.mono HB2.out.size)).mono hB.out.size))
            clear hB1 m0 m1 m2 m3
            go_wp2_with fail
            go_ret
            exact ⟨ret_bool hy.out, HB3.out⟩
  · have HB := Lib.hid (eqB_false (show ¬ xs = ys by intro e; exact hl (by rw [e])))
    have hl' : ((xs.length : Int) != (ys.length : Int)) = true := by simp; omega
    clear hl
    go_enter Try.func66, Try.ntmps66
    go_wp2_with fail
    go_ret
    exact ⟨ret_bool HB.out, Below.refl _ _⟩

end Go.Proofs.Ytnghehcjklkoeaa
