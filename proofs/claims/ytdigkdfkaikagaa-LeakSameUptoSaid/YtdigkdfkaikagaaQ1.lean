/- What is seen, of any kind: the program's Equal, SameSeen and Prefix. -/
import Derived.Test.YtdigkdfkaikagaaL1
namespace Go.Proofs.Ytdigkdfkaikagaa
open Go.RowKit

/-- what is seen: three fields -/
structure S3 where
  a : Bool
  t : Bool
  z : Int
def S3.cells (x : S3) : List Value := [.bool x.a, .bool x.t, .int .u64 x.z]
theorem S3.eq3 {x y : S3} : x = y ↔ x.a = y.a ∧ x.t = y.t ∧ x.z = y.z := by
  cases x; cases y; simp
instance : DecidableEq S3 := fun _x _y => decidable_of_iff _ S3.eq3.symm
def S3At (w : World) : List S3 → Nat → Nat → Prop
  | [], _, _ => True
  | x :: xs, b, o => (w.cell? ⟨b, o, none⟩ = some (.bool x.a) ∧ w.cell? ⟨b, o + 1, none⟩ = some (.bool x.t) ∧ w.cell? ⟨b, o + 2, none⟩ = some (.int .u64 x.z)) ∧ S3At w xs b (o + 3)
theorem S3At.drop {w : World} : ∀ (ds rs : List S3) (b o : Nat), S3At w (ds ++ rs) b o → S3At w rs b (o + ds.length * 3)
  | [], _, _, o, h => by rw [List.length_nil, Nat.zero_mul]; exact h
  | _ :: ds, rs, b, o, h => by
    have := S3At.drop ds rs b (o + 3) h.2
    rw [List.length_cons, show o + (ds.length + 1) * 3 = o + 3 + ds.length * 3 by omega]; exact this
theorem S3At.head {w : World} : ∀ (ds rs : List S3) (b o : Nat), S3At w (ds ++ rs) b o → S3At w ds b o
  | [], _, _, _, _ => trivial
  | _ :: ds, rs, b, o, h => ⟨h.1, S3At.head ds rs b (o + 3) h.2⟩
theorem S3At.keep {w w' : World} {b : Nat} (hw : ∀ o, w'.cell? ⟨b, o, none⟩ = w.cell? ⟨b, o, none⟩) : ∀ (xs : List S3) (o : Nat), S3At w xs b o → S3At w' xs b o
  | [], _, _ => trivial
  | _ :: xs, o, h => ⟨⟨(hw _).trans h.1.1, (hw _).trans h.1.2.1, (hw _).trans h.1.2.2⟩, S3At.keep hw xs (o + 3) h.2⟩
theorem S3At.later {w w' : World} {N : Nat} (hw : Below N w w') (xs : List S3) (b o : Nat) (hb : b < N) (h : S3At w xs b o) : S3At w' xs b o :=
  S3At.keep (fun _ => hw.cell hb) xs o h
def S3In (w : World) (N : Nat) (xs : List S3) (p : Option Addr) : Prop := Sl N p xs.length (S3At w xs)
theorem S3In.later {w w' : World} {N M : Nat} {l : List S3} {p : Option Addr} (h : S3In w N l p) (hw : Below N w w') (hM : N ≤ M) : S3In w' M l p :=
  Sl.imp h hM fun b o hb ha => S3At.later hw l b o hb ha
theorem S3In.take {w : World} {N : Nat} {l : List S3} {p : Option Addr} (h : S3In w N l p) (n : Nat) : S3In w N (l.take n) p := by
  refine ⟨by have := h.1; simp; omega, ?_⟩
  rcases h.2 with h0 | ⟨b, o, hp, hb, ha⟩
  · exact .inl (by rw [List.length_take]; omega)
  · exact .inr ⟨b, o, hp, hb, by rw [← List.take_append_drop n l] at ha; exact S3At.head _ _ _ _ ha⟩

set_option maxHeartbeats 3200000 in
theorem eqSeen_any (xs ys : List S3) (p p' : Option Addr) (ca cb N : Nat) (w : World) (h1 : S3In w N xs p) (h2 : S3In w N ys p') (hN : N ≤ w.heap.size) :
    Calls Try.prog 46 #[.slice p xs.length ca, .slice p' ys.length cb] w fun e w' => e = .returned (.bool (decide (xs = ys))) ∧ Below w.heap.size w w' := by
  have S1 := Lib.hid h1
  have S2 := Lib.hid h2
  have hm1 := h1.1
  have hm2 := h2.1
  clear h1 h2
  by_cases hl : xs.length = ys.length
  · have HL := Lib.hid hl
    have hl' : ((xs.length : Int) != (ys.length : Int)) = false := by simp [hl]
    clear hl
    go_enter Try.func46, Try.ntmps46
    go_wp2_with fail
    go_loopw [13] (fun i wr => ∃ (ds rs rs' : List S3), i = .int .i64 ds.length ∧ Hid (xs = ds ++ rs) ∧ Hid (ys = ds ++ rs') ∧ ds.length + rs.length = xs.length ∧ rs'.length = rs.length ∧ Hid (Below w.heap.size w wr)) (fun i _ => xs.length - (intOf i).toNat)
    case atStart => exact ⟨[], xs, ys, rfl, Lib.hid rfl, Lib.hid rfl, by simp, by have := HL.out; omega, Lib.hid (Below.refl _ _)⟩
    case round =>
      obtain ⟨ds, rs, rs', rfl, E1, E2, hd1, hd2, hB⟩ := hrel
      cases rs with
      | nil =>
        cases rs' with
        | cons _ _ => simp at hd2
        | nil =>
          simp only [List.length_nil] at hd1
          have hge : ¬ ds.length < xs.length := by omega
          have EQ := Lib.hid (show true = decide (xs = ys) by rw [E1.out, E2.out]; simp)
          go_wp2_with fail
          go_ret
          exact ⟨ret_bool EQ.out, hB.out⟩
      | cons y1 rs =>
        cases rs' with
        | nil => simp at hd2
        | cons y2 rs' =>
          simp only [List.length_cons] at hd1 hd2
          have hlt1 : ds.length < xs.length := by omega
          have hlt2 : ds.length < ys.length := by have := HL.out; omega
          rcases S1.out.2 with h30 | ⟨b1, o1, rfl, hb1, ha1⟩
          · omega
          rcases S2.out.2 with h30 | ⟨b2, o2, rfl, hb2, ha2⟩
          · omega
          rw [E1.out] at ha1
          rw [E2.out] at ha2
          obtain ⟨⟨x0', x1', x2'⟩, _⟩ := S3At.drop _ _ _ _ ha1
          obtain ⟨⟨z0', z1', z2'⟩, _⟩ := S3At.drop _ _ _ _ ha2
          have x0 := (hB.out.cell (show b1 < w.heap.size by omega)).trans x0'
          have x1 := (hB.out.cell (show b1 < w.heap.size by omega)).trans x1'
          have x2 := (hB.out.cell (show b1 < w.heap.size by omega)).trans x2'
          have z0 := (hB.out.cell (show b2 < w.heap.size by omega)).trans z0'
          have z1 := (hB.out.cell (show b2 < w.heap.size by omega)).trans z1'
          have z2 := (hB.out.cell (show b2 < w.heap.size by omega)).trans z2'
          have HD := Lib.hid hB.out.drew
          have HNE := Lib.hid (show ¬ y1 = y2 → false = decide (xs = ys) from fun hne => by
            symm; rw [decide_eq_false_iff_not]; intro e
            rw [E1.out, E2.out] at e
            have := List.append_cancel_left e
            injection this with e6 _
            exact hne e6)
          have HEQ := Lib.hid (show y1 = y2 → ys = (ds ++ [y1]) ++ rs' from fun h => by rw [E2.out, h]; simp)
          clear ha1 ha2 x0' x1' x2' z0' z1' z2'
          have h3 := @S3.eq3 y1 y2
          have H3 := Lib.hid h3
          clear h3
          obtain ⟨a1, t1, w1⟩ := y1
          obtain ⟨a2, t2, w2⟩ := y2
          simp only at x0 x1 x2 z0 z1 z2
          by_cases ha : a1 = a2
          · subst ha
            by_cases ht : t1 = t2
            · subst ht
              by_cases hz : w1 = w2
              · subst hz
                have HY := Lib.hid (HEQ.out rfl)
                clear H3 HNE HEQ
                go_wp2_with fail
                go_region
                all_goals go_wp2_with fail
                all_goals go_roundw
                all_goals first
                  | (simp [intOf]; omega)
                  | exact ⟨ds ++ [⟨a1, t1, w1⟩], rs, rs', by rw [List.length_append]; go_num, Lib.hid (by rw [E1.out]; simp), HY, by simp; omega, by omega, HD⟩
              · have HY := Lib.hid (HNE.out (by simp [hz]))
                clear H3 HNE HEQ
                go_wp2_with fail
                go_region
                all_goals go_wp2_with fail
                all_goals go_ret
                all_goals exact ⟨ret_bool HY.out, HD.out⟩
            · have HY := Lib.hid (HNE.out (by simp [ht]))
              clear H3 HNE HEQ
              go_wp2_with fail
              go_region
              all_goals go_wp2_with fail
              all_goals go_ret
              all_goals exact ⟨ret_bool HY.out, HD.out⟩
          · have HY := Lib.hid (HNE.out (by simp [ha]))
            clear H3 HNE HEQ
            go_wp2_with fail
            go_region
            all_goals go_wp2_with fail
            all_goals go_ret
            all_goals exact ⟨ret_bool HY.out, HD.out⟩
  · have HB := Lib.hid (show false = decide (xs = ys) by symm; rw [decide_eq_false_iff_not]; intro e; exact hl (by rw [e]))
    have hl' : ((xs.length : Int) != (ys.length : Int)) = true := by simp; omega
    clear hl
    go_enter Try.func46, Try.ntmps46
    go_wp2_with fail
    go_ret
    exact ⟨ret_bool HB.out, Below.refl _ _⟩

set_option maxHeartbeats 1600000 in
theorem sameSeenP_any (xs ys : List S3) (p p' : Option Addr) (ca cb N : Nat) (w : World) (h1 : S3In w N xs p) (h2 : S3In w N ys p') (hN : N ≤ w.heap.size) :
    Calls Try.prog 21 #[.slice p xs.length ca, .slice p' ys.length cb] w fun e w' => e = .returned (.bool (decide (xs = ys))) ∧ Below w.heap.size w w' := by
  have HE := Lib.hid (eqSeen_any xs ys p p' ca cb N w h1 h2 hN)
  clear h1 h2
  go_enter Try.func21, Try.ntmps21
  go_wp2_with (go_at_call 46; refine HE.out.mono ?_; rintro e w1 ⟨rfl, hB1⟩)
  go_ret
  exact ⟨rfl, hB1⟩
set_option maxHeartbeats 1600000 in
theorem prefix_any (xs ys : List S3) (p p' : Option Addr) (ca cb N : Nat) (w : World) (h1 : S3In w N xs p) (h2 : S3In w N ys p') (hN : N ≤ w.heap.size) (hcb : ys.length ≤ cb) (_hcm : cb ≤ maxLen) :
    Calls Try.prog 20 #[.slice p xs.length ca, .slice p' ys.length cb] w fun e w' => e = .returned (.bool (decide (xs = ys.take xs.length))) ∧ Below w.heap.size w w' := by
  unfold maxLen at _hcm
  have hm1 := h1.1
  have hm2 := h2.1
  by_cases hle : xs.length ≤ ys.length
  · have hlt : (ys.take xs.length).length = xs.length := by simp; omega
    have HE := eqSeen_any xs (ys.take xs.length) p p' ca cb N w h1 (h2.take _) hN
    rw [hlt] at HE
    replace HE := Lib.hid HE
    clear h1 h2 hlt
    have hcx : xs.length ≤ cb := by omega
    go_enter Try.func20, Try.ntmps20
    go_wp2_with (go_at_call 46; refine HE.out.mono ?_; rintro e w1 ⟨rfl, hB1⟩)
    go_ret
    exact ⟨rfl, hB1⟩
  · have HB := Lib.hid (show false = decide (xs = ys.take xs.length) by symm; rw [decide_eq_false_iff_not]; intro e; have := congrArg List.length e; simp at this; omega)
    clear h1 h2
    go_enter Try.func20, Try.ntmps20
    go_wp2_with fail
    go_ret
    exact ⟨ret_bool HB.out, Below.refl _ _⟩
end Go.Proofs.Ytdigkdfkaikagaa
