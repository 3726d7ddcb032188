/- Searches: in variables, functions, names. -/
import Derived.Test.YtnghehcjklkoeaaH2
namespace Go.Proofs.Ytnghehcjklkoeaa
open Go.RowKit

theorem str_eqb (a b : List UInt8) : ((str a).toList == (str b).toList) = (a == b) := by rw [Lib.toList_data, Lib.toList_data, str_data, str_data]
/-- where the first one is -/
def IxIs {α : Type} (pf : α → Bool) (l : List α) (z : Int) : Prop :=
  (∃ (k : Nat) (x : α) (d r : List α), z = (k : Int) ∧ l = d ++ x :: r ∧ d.length = k ∧ pf x = true ∧ d.all (fun y => !pf y) = true) ∨ (z = -1 ∧ l.all (fun y => !pf y) = true)
theorem IxIs.any {α : Type} {pf : α → Bool} {l : List α} {z : Int} (h : IxIs pf l z) : decide (0 ≤ z) = l.any pf := by
  rcases h with ⟨k, x, d, r, rfl, rfl, _, hx, _⟩ | ⟨rfl, h⟩
  · rw [decide_eq_true (by omega)]; simp [hx]
  · rw [decide_eq_false (by omega)]
    symm
    rw [List.any_eq_false]
    intro x hx
    have := List.all_eq_true.1 h x hx
    simpa using this
def isWord (nm : List UInt8) (v : Vr) : Bool := (v.name == nm) && (v.kind == 1)
def named (nm : List UInt8) (v : Vr) : Bool := v.name == nm
def fnNamed (nm : List UInt8) (v : Fnc) : Bool := v.name == nm
def vrV (v : Vr) : Value := .agg #[.string (str v.name), .int .i64 v.kind, .int .i64 v.size, .bool v.secret]
theorem named1_any (v : Vr) (nm : List UInt8) (nb : Nat) (w : World) (h : w.heap[nb]? = some (.cells #[.string (str nm)] 9 (0, 0))) :
    Calls Try.prog 80 #[vrV v, .pointer (some ⟨nb, 0, none⟩)] w fun z w' => z = .returned (.bool (isWord nm v)) ∧ Below w.heap.size w w' := by
  have c0 : w.cell? ⟨nb, 0, none⟩ = some (.string (str nm)) := cell_blk h rfl
  have hnb := lt_blk h
  have e1 := str_eqb v.name nm
  unfold vrV isWord
  generalize (v.name == nm) = t1 at e1
  generalize e2 : (v.kind == 1) = t2
  clear h
  cases t1 <;> cases t2 <;>
  · go_enter Try.func80, Try.ntmps80
    go_wp2_with fail
    go_ret
    exact ⟨rfl, (Below.refl _ _).alloc (Nat.le_refl _) _⟩
/-- a statement's place in a cell, and its name -/
structure SB (w : World) (sb b o : Nat) (nm : List UInt8) : Prop where
  cs : w.heap[sb]? = some (.cells #[.pointer (some ⟨b, o, none⟩)] 89 (0, 0))
  nm : w.cell? ⟨b, o + 1, none⟩ = some (.string (str nm))
  lt : b < w.heap.size
theorem SB.later {w w' : World} {sb b o : Nat} {nm : List UInt8} (h : SB w sb b o nm) (hB : Below w.heap.size w w') : SB w' sb b o nm :=
  ⟨(hB.block _ (lt_blk h.cs)).trans h.cs, (hB.cell (p := ⟨b, o + 1, none⟩) h.lt).trans h.nm, Nat.lt_of_lt_of_le h.lt hB.size⟩

set_option maxHeartbeats 800000 in
theorem loop1_any (v : Vr) (sb b o : Nat) (nm : List UInt8) (w : World) (h : SB w sb b o nm) :
    Calls Try.prog 101 #[.agg #[.string (str v.name), .int .i64 v.kind, .int .i64 v.size, .bool v.secret], .pointer (some ⟨sb, 0, none⟩)] w fun z w' => z = .returned (.bool (named nm v)) ∧ Below w.heap.size w w' := by
  obtain ⟨W0, hW0, k0, hB0, hz0⟩ := one_alloc w (.cells #[.string (str v.name), .int .i64 v.kind, .int .i64 v.size, .bool v.secret] 52)
  have h' := h.later hB0
  have c0 : W0.cell? ⟨sb, 0, none⟩ = some (.pointer (some ⟨b, o, none⟩)) := cell_blk h'.cs rfl
  have c1 := h'.nm
  have c2 : W0.cell? ⟨w.heap.size, 0, none⟩ = some (.string (str v.name)) := cell_blk k0 rfl
  have HB0 := Lib.hid hB0
  have HW0 := Lib.hid hW0
  have e1 := str_eqb v.name nm
  unfold named
  generalize (v.name == nm) = t1 at e1
  clear h h' hW0 k0 hB0 hz0
  cases t1 <;>
  · go_enter Try.func101, Try.ntmps101
    go_upto_region 1 with fail
    rw [HW0.out]
    go_quiet (fail)
    go_wp2_with fail
    go_ret
    exact ⟨rfl, below_drewN HB0.out _⟩
set_option maxHeartbeats 800000 in
theorem call1_any (v : Fnc) (s : FncP) (sb b o : Nat) (nm : List UInt8) (w : World) (h : SB w sb b o nm) :
    Calls Try.prog 103 #[.agg #[.string (str v.name), .slice s.pp v.params.length s.cp, .slice s.pv v.vars.length s.cv, .slice s.pr v.rets.length s.cr, .slice s.pb v.body.len s.cb], .pointer (some ⟨sb, 0, none⟩)] w fun z w' => z = .returned (.bool (fnNamed nm v)) ∧ Below w.heap.size w w' := by
  obtain ⟨W0, hW0, k0, hB0, hz0⟩ := one_alloc w (.cells #[.string (str v.name), .slice s.pp v.params.length s.cp, .slice s.pv v.vars.length s.cv, .slice s.pr v.rets.length s.cr, .slice s.pb v.body.len s.cb] 55)
  have h' := h.later hB0
  have c0 : W0.cell? ⟨sb, 0, none⟩ = some (.pointer (some ⟨b, o, none⟩)) := cell_blk h'.cs rfl
  have c1 := h'.nm
  have c2 : W0.cell? ⟨w.heap.size, 0, none⟩ = some (.string (str v.name)) := cell_blk k0 rfl
  have HB0 := Lib.hid hB0
  have HW0 := Lib.hid hW0
  have e1 := str_eqb v.name nm
  unfold fnNamed
  generalize (v.name == nm) = t1 at e1
  clear h h' hW0 k0 hB0 hz0
  cases t1 <;>
  · go_enter Try.func103, Try.ntmps103
    go_upto_region 1 with fail
    rw [HW0.out]
    go_quiet (fail)
    go_wp2_with fail
    go_ret
    exact ⟨rfl, below_drewN HB0.out _⟩
set_option maxHeartbeats 3200000 in
theorem ixNamed_any (l : List Vr) (p : Option Addr) (c N : Nat) (nm : List UInt8) (nb : Nat) (w : World) (hl : RowIn N (Vr.At w) 4 l p) (hN : N ≤ w.heap.size) (hnb : w.heap[nb]? = some (.cells #[.string (str nm)] 9 (0, 0))) :
    Calls Try.prog 96 #[.slice p l.length c, .func (.func 80) #[] #[.pointer (some ⟨nb, 0, none⟩)]] w fun z w' => (∃ i, z = .returned (.int .i64 i) ∧ IxIs (isWord nm) l i) ∧ Below w.heap.size w w' := by
  obtain ⟨b, o, hp, hb, ha⟩ := Row.start hl
  have hm := hl.1
  have HA := Lib.hid (And.intro ha hb)
  have HI := Lib.hid hnb
  clear hl hb ha hnb
  go_enter Try.func96, Try.ntmps96
  go_wp2_with fail
  go_loopw [8] (fun i wr => ∃ (d r : List Vr), i = .int .i64 d.length ∧ d.length + r.length = l.length ∧ Hid (l = d ++ r) ∧ Hid (Row (Vr.At w) 4 r b (o + d.length * 4)) ∧ Hid (d.all (fun y => !(isWord nm) y) = true) ∧ Hid (Below w.heap.size w wr)) (fun i _ => l.length - (intOf i).toNat)
  case atStart => exact ⟨[], l, rfl, by simp, Lib.hid rfl, Lib.hid (by simpa using HA.out.1), Lib.hid rfl, Lib.hid (Below.refl _ _)⟩
  case round =>
    obtain ⟨d, r, rfl, hd, hE, hr, hF, hB⟩ := hrel
    cases r with
    | nil =>
      simp only [List.length_nil] at hd
      have hge : ¬ d.length < l.length := by omega
      have HR := Lib.hid (show IxIs (isWord nm) l (-1) from .inr ⟨rfl, by rw [hE.out, List.append_nil]; exact hF.out⟩)
      go_wp2_with fail
      go_ret
      exact ⟨⟨_, rfl, HR.out⟩, hB.out⟩
    | cons y r =>
      obtain ⟨hy, hr'⟩ := hr.out
      simp only [List.length_cons] at hd
      have hlt : d.length < l.length := by omega
      rcases hp with h0 | rfl
      · omega
      have hbw : b < w.heap.size := by have := HA.out.2; omega
      obtain ⟨d0, d1, d2, d3⟩ := Vr.At.later hB.out y b _ hbw hy
      have HR := Lib.hid hr'
      have HC := Lib.hid (named1_any y nm nb wr ((hB.out.block _ (lt_blk HI.out)).trans HI.out))
      have HY := Lib.hid (show (isWord nm) y = true → IxIs (isWord nm) l (d.length : Int) from fun h => .inl ⟨d.length, y, d, r, rfl, hE.out, rfl, h, hF.out⟩)
      have HN' := Lib.hid (show (isWord nm) y = false → (d ++ [y]).all (fun y => !(isWord nm) y) = true from fun h => by rw [List.all_append, hF.out]; simp only [List.all_cons, List.all_nil, h]; rfl)
      clear hy hr hr'
      generalize (isWord nm) y = t at HY HN' HC
      cases t with
      | true =>
        go_wp2_with fail
        refine HC.out.mono ?_
        rintro z w1 ⟨rfl, hB1⟩
        have HB1 := Lib.hid (hB.out.trans (hB1.mono hB.out.size))
        have HR1 := Lib.hid (HY.out (by first | rfl | trivial))
        clear hB1
        go_wp2_with fail
        go_ret
        exact ⟨⟨_, rfl, HR1.out⟩, HB1.out⟩
      | false =>
        go_wp2_with fail
        refine HC.out.mono ?_
        rintro z w1 ⟨rfl, hB1⟩
        have HB1 := Lib.hid (hB.out.trans (hB1.mono hB.out.size))
        have HR1 := Lib.hid (HN'.out (by first | rfl | trivial))
        clear hB1
        go_wp2_with fail
        go_roundw
        case rel => exact ⟨d ++ [y], r, by rw [List.length_append]; go_num, by simp; omega, Lib.hid (by rw [hE.out]; simp), Lib.hid (by rw [List.length_append, List.length_singleton, show o + (d.length + 1) * 4 = o + d.length * 4 + 4 by omega]; exact HR.out), HR1, HB1⟩
        case measure => simp [intOf]; omega
set_option maxHeartbeats 3200000 in
theorem ixLoop_any (l : List Vr) (p : Option Addr) (c N : Nat) (nm : List UInt8) (sb b1 o1 : Nat) (w : World) (hl : RowIn N (Vr.At w) 4 l p) (hN : N ≤ w.heap.size) (hsb : SB w sb b1 o1 nm) :
    Calls Try.prog 96 #[.slice p l.length c, .func (.func 101) #[] #[.pointer (some ⟨sb, 0, none⟩)]] w fun z w' => (∃ i, z = .returned (.int .i64 i) ∧ IxIs (named nm) l i) ∧ Below w.heap.size w w' := by
  obtain ⟨b, o, hp, hb, ha⟩ := Row.start hl
  have hm := hl.1
  have HA := Lib.hid (And.intro ha hb)
  have HI := Lib.hid hsb
  clear hl hb ha hsb
  go_enter Try.func96, Try.ntmps96
  go_wp2_with fail
  go_loopw [8] (fun i wr => ∃ (d r : List Vr), i = .int .i64 d.length ∧ d.length + r.length = l.length ∧ Hid (l = d ++ r) ∧ Hid (Row (Vr.At w) 4 r b (o + d.length * 4)) ∧ Hid (d.all (fun y => !(named nm) y) = true) ∧ Hid (Below w.heap.size w wr)) (fun i _ => l.length - (intOf i).toNat)
  case atStart => exact ⟨[], l, rfl, by simp, Lib.hid rfl, Lib.hid (by simpa using HA.out.1), Lib.hid rfl, Lib.hid (Below.refl _ _)⟩
  case round =>
    obtain ⟨d, r, rfl, hd, hE, hr, hF, hB⟩ := hrel
    cases r with
    | nil =>
      simp only [List.length_nil] at hd
      have hge : ¬ d.length < l.length := by omega
      have HR := Lib.hid (show IxIs (named nm) l (-1) from .inr ⟨rfl, by rw [hE.out, List.append_nil]; exact hF.out⟩)
      go_wp2_with fail
      go_ret
      exact ⟨⟨_, rfl, HR.out⟩, hB.out⟩
    | cons y r =>
      obtain ⟨hy, hr'⟩ := hr.out
      simp only [List.length_cons] at hd
      have hlt : d.length < l.length := by omega
      rcases hp with h0 | rfl
      · omega
      have hbw : b < w.heap.size := by have := HA.out.2; omega
      obtain ⟨d0, d1, d2, d3⟩ := Vr.At.later hB.out y b _ hbw hy
      have HR := Lib.hid hr'
      have HC := Lib.hid (loop1_any y sb b1 o1 nm wr (HI.out.later hB.out))
      have HY := Lib.hid (show (named nm) y = true → IxIs (named nm) l (d.length : Int) from fun h => .inl ⟨d.length, y, d, r, rfl, hE.out, rfl, h, hF.out⟩)
      have HN' := Lib.hid (show (named nm) y = false → (d ++ [y]).all (fun y => !(named nm) y) = true from fun h => by rw [List.all_append, hF.out]; simp only [List.all_cons, List.all_nil, h]; rfl)
      clear hy hr hr'
      generalize (named nm) y = t at HY HN' HC
      cases t with
      | true =>
        go_wp2_with fail
        refine HC.out.mono ?_
        rintro z w1 ⟨rfl, hB1⟩
        have HB1 := Lib.hid (hB.out.trans (hB1.mono hB.out.size))
        have HR1 := Lib.hid (HY.out (by first | rfl | trivial))
        clear hB1
        go_wp2_with fail
        go_ret
        exact ⟨⟨_, rfl, HR1.out⟩, HB1.out⟩
      | false =>
        go_wp2_with fail
        refine HC.out.mono ?_
        rintro z w1 ⟨rfl, hB1⟩
        have HB1 := Lib.hid (hB.out.trans (hB1.mono hB.out.size))
        have HR1 := Lib.hid (HN'.out (by first | rfl | trivial))
        clear hB1
        go_wp2_with fail
        go_roundw
        case rel => exact ⟨d ++ [y], r, by rw [List.length_append]; go_num, by simp; omega, Lib.hid (by rw [hE.out]; simp), Lib.hid (by rw [List.length_append, List.length_singleton, show o + (d.length + 1) * 4 = o + d.length * 4 + 4 by omega]; exact HR.out), HR1, HB1⟩
        case measure => simp [intOf]; omega
set_option maxHeartbeats 3200000 in
theorem ixCall_any (l : List Fnc) (p : Option Addr) (c N : Nat) (nm : List UInt8) (sb b1 o1 : Nat) (w : World) (hl : RowIn N (Fnc.At w N) 5 l p) (hN : N ≤ w.heap.size) (hsb : SB w sb b1 o1 nm) :
    Calls Try.prog 102 #[.slice p l.length c, .func (.func 103) #[] #[.pointer (some ⟨sb, 0, none⟩)]] w fun z w' => (∃ i, z = .returned (.int .i64 i) ∧ IxIs (fnNamed nm) l i) ∧ Below w.heap.size w w' := by
  obtain ⟨b, o, hp, hb, ha⟩ := Row.start hl
  have hm := hl.1
  have HA := Lib.hid (And.intro ha hb)
  have HI := Lib.hid hsb
  clear hl hb ha hsb
  go_enter Try.func102, Try.ntmps102
  go_wp2_with fail
  go_loopw [8] (fun i wr => ∃ (d r : List Fnc), i = .int .i64 d.length ∧ d.length + r.length = l.length ∧ Hid (l = d ++ r) ∧ Hid (Row (Fnc.At w N) 5 r b (o + d.length * 5)) ∧ Hid (d.all (fun y => !(fnNamed nm) y) = true) ∧ Hid (Below w.heap.size w wr)) (fun i _ => l.length - (intOf i).toNat)
  case atStart => exact ⟨[], l, rfl, by simp, Lib.hid rfl, Lib.hid (by simpa using HA.out.1), Lib.hid rfl, Lib.hid (Below.refl _ _)⟩
  case round =>
    obtain ⟨d, r, rfl, hd, hE, hr, hF, hB⟩ := hrel
    cases r with
    | nil =>
      simp only [List.length_nil] at hd
      have hge : ¬ d.length < l.length := by omega
      have HR := Lib.hid (show IxIs (fnNamed nm) l (-1) from .inr ⟨rfl, by rw [hE.out, List.append_nil]; exact hF.out⟩)
      go_wp2_with fail
      go_ret
      exact ⟨⟨_, rfl, HR.out⟩, hB.out⟩
    | cons y r =>
      obtain ⟨hy, hr'⟩ := hr.out
      simp only [List.length_cons] at hd
      have hlt : d.length < l.length := by omega
      rcases hp with h0 | rfl
      · omega
      have hbw : b < w.heap.size := by have := HA.out.2; omega
      obtain ⟨s, g0, g1, g2, g3, g4, _⟩ := Fnc.At.all hy
      have d0 := (hB.out.cell (p := ⟨b, _, none⟩) hbw).trans g0
      have d1 := (hB.out.cell (p := ⟨b, _, none⟩) hbw).trans g1
      have d2 := (hB.out.cell (p := ⟨b, _, none⟩) hbw).trans g2
      have d3 := (hB.out.cell (p := ⟨b, _, none⟩) hbw).trans g3
      have d4 := (hB.out.cell (p := ⟨b, _, none⟩) hbw).trans g4
      clear g0 g1 g2 g3 g4
      have HR := Lib.hid hr'
      have HC := Lib.hid (call1_any y s sb b1 o1 nm wr (HI.out.later hB.out))
      have HY := Lib.hid (show (fnNamed nm) y = true → IxIs (fnNamed nm) l (d.length : Int) from fun h => .inl ⟨d.length, y, d, r, rfl, hE.out, rfl, h, hF.out⟩)
      have HN' := Lib.hid (show (fnNamed nm) y = false → (d ++ [y]).all (fun y => !(fnNamed nm) y) = true from fun h => by rw [List.all_append, hF.out]; simp only [List.all_cons, List.all_nil, h]; rfl)
      clear hy hr hr'
      generalize (fnNamed nm) y = t at HY HN' HC
      cases t with
      | true =>
        go_wp2_with fail
        refine HC.out.mono ?_
        rintro z w1 ⟨rfl, hB1⟩
        have HB1 := Lib.hid (hB.out.trans (hB1.mono hB.out.size))
        have HR1 := Lib.hid (HY.out (by first | rfl | trivial))
        clear hB1
        go_wp2_with fail
        go_ret
        exact ⟨⟨_, rfl, HR1.out⟩, HB1.out⟩
      | false =>
        go_wp2_with fail
        refine HC.out.mono ?_
        rintro z w1 ⟨rfl, hB1⟩
        have HB1 := Lib.hid (hB.out.trans (hB1.mono hB.out.size))
        have HR1 := Lib.hid (HN'.out (by first | rfl | trivial))
        clear hB1
        go_wp2_with fail
        go_roundw
        case rel => exact ⟨d ++ [y], r, by rw [List.length_append]; go_num, by simp; omega, Lib.hid (by rw [hE.out]; simp), Lib.hid (by rw [List.length_append, List.length_singleton, show o + (d.length + 1) * 5 = o + d.length * 5 + 5 by omega]; exact HR.out), HR1, HB1⟩
        case measure => simp [intOf]; omega
theorem anyNamed_any (l : List Vr) (p : Option Addr) (c N : Nat) (nm : List UInt8) (nb : Nat) (w : World) (hl : RowIn N (Vr.At w) 4 l p) (hN : N ≤ w.heap.size) (hnb : w.heap[nb]? = some (.cells #[.string (str nm)] 9 (0, 0))) :
    Calls Try.prog 79 #[.slice p l.length c, .func (.func 80) #[] #[.pointer (some ⟨nb, 0, none⟩)]] w fun z w' => z = .returned (.bool (l.any (isWord nm))) ∧ Below w.heap.size w w' := by
  have HC := Lib.hid (ixNamed_any l p c N nm nb w hl hN hnb)
  clear hl hnb
  go_enter Try.func79, Try.ntmps79
  go_wp2_with fail
  refine HC.out.mono ?_
  rintro z w1 ⟨⟨i, rfl, hi⟩, hB⟩
  have HI := Lib.hid hi.any
  have HB := Lib.hid hB
  clear hi hB
  go_wp2_with fail
  go_ret
  exact ⟨ret_bool HI.out, HB.out⟩
theorem anyLoop_any (l : List Vr) (p : Option Addr) (c N : Nat) (nm : List UInt8) (sb b1 o1 : Nat) (w : World) (hl : RowIn N (Vr.At w) 4 l p) (hN : N ≤ w.heap.size) (hsb : SB w sb b1 o1 nm) :
    Calls Try.prog 79 #[.slice p l.length c, .func (.func 101) #[] #[.pointer (some ⟨sb, 0, none⟩)]] w fun z w' => z = .returned (.bool (l.any (named nm))) ∧ Below w.heap.size w w' := by
  have HC := Lib.hid (ixLoop_any l p c N nm sb b1 o1 w hl hN hsb)
  clear hl hsb
  go_enter Try.func79, Try.ntmps79
  go_wp2_with fail
  refine HC.out.mono ?_
  rintro z w1 ⟨⟨i, rfl, hi⟩, hB⟩
  have HI := Lib.hid hi.any
  have HB := Lib.hid hB
  clear hi hB
  go_wp2_with fail
  go_ret
  exact ⟨ret_bool HI.out, HB.out⟩
end Go.Proofs.Ytnghehcjklkoeaa
