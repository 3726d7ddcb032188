/- H3, I1 as one. -/
import Derived.Test.YtihmibggonffdaaGreatH2
/- Searches: in variables, functions, names. -/
namespace Go.Proofs.YtihmibggonffdaaGreat
open Go.RowKit

theorem str_eqb (a b : List UInt8) : ((str a).toList == (str b).toList) = (a == b) := by rw [Lib.toList_data, Lib.toList_data, str_data, str_data]
def IxIs {α : Type} (pf : α → Bool) (l : List α) (z : Int) : Prop :=
 (∃ (k : Nat) (x : α) (d r : List α), z = (k : Int) ∧ l = d ++ x :: r ∧ d.length = k ∧ pf x = true ∧ d.all (fun y => !pf y) = true) ∨ (z = -1 ∧ l.all (fun y => !pf y) = true)
theorem IxIs.any {α : Type} {pf : α → Bool} {l : List α} {z : Int} (h : IxIs pf l z) : decide (0 ≤ z) = l.any pf := by
 rcases h with ⟨k, x, d, r, rfl, rfl, _, hx, _⟩ | ⟨rfl, h⟩
 · rw [decide_eq_true (by omega)]; simp [hx]
 · rw [decide_eq_false (by omega)]
   symm
   rw [List.any_eq_false]
   intro x hx
   have := List.all_eq_true.1 h x hx
   simpa using this
def isWord (nm : List UInt8) (v : Vr) : Bool := (v.name == nm) && (v.kind == 1)
def named (nm : List UInt8) (v : Vr) : Bool := v.name == nm
def fnNamed (nm : List UInt8) (v : Fnc) : Bool := v.name == nm
def vrV (v : Vr) : Value := .agg #[.string (str v.name), .int .i64 v.kind, .int .i64 v.size, .bool v.secret]
theorem named1_any (v : Vr) (nm : List UInt8) (nb : Nat) (w : World) (h : w.heap[nb]? = some (.cells #[.string (str nm)] 9 (0, 0))) :
   Calls Tryz.prog 102 #[vrV v, .pointer (some ⟨nb, 0, none⟩)] w fun z w' => z = .returned (.bool (isWord nm v)) ∧ Below w.heap.size w w' := by
 have c0 : w.cell? ⟨nb, 0, none⟩ = some (.string (str nm)) := cell_blk h rfl
 have hnb := lt_blk h
 have e1 := str_eqb v.name nm
 unfold vrV isWord
 generalize (v.name == nm) = t1 at e1
 generalize e2 : (v.kind == 1) = t2
 clear h
 cases t1 <;> cases t2 <;>
 · go_enter Tryz.func102, Tryz.ntmps102
   go_wp2_with fail
   go_ret
   exact ⟨rfl, (Below.refl _ _).alloc (Nat.le_refl _) _⟩
structure SB (w : World) (sb b o : Nat) (nm : List UInt8) : Prop where
 cs : w.heap[sb]? = some (.cells #[.pointer (some ⟨b, o, none⟩)] 140 (0, 0))
 nm : w.cell? ⟨b, o + 1, none⟩ = some (.string (str nm))
 lt : b < w.heap.size
theorem SB.later {w w' : World} {sb b o : Nat} {nm : List UInt8} (h : SB w sb b o nm) (hB : Below w.heap.size w w') : SB w' sb b o nm :=
 ⟨(hB.block _ (lt_blk h.cs)).trans h.cs, (hB.cell (p := ⟨b, o + 1, none⟩) h.lt).trans h.nm, Nat.lt_of_lt_of_le h.lt hB.size⟩

set_option maxHeartbeats 800000 in
theorem loop1_any (v : Vr) (sb b o : Nat) (nm : List UInt8) (w : World) (h : SB w sb b o nm) :
   Calls Tryz.prog 131 #[.agg #[.string (str v.name), .int .i64 v.kind, .int .i64 v.size, .bool v.secret], .pointer (some ⟨sb, 0, none⟩)] w fun z w' => z = .returned (.bool (named nm v)) ∧ Below w.heap.size w w' := by
 obtain ⟨W0, hW0, k0, hB0, hz0⟩ := one_alloc w (.cells #[.string (str v.name), .int .i64 v.kind, .int .i64 v.size, .bool v.secret] 58)
 have h' := h.later hB0
 have c0 : W0.cell? ⟨sb, 0, none⟩ = some (.pointer (some ⟨b, o, none⟩)) := cell_blk h'.cs rfl
 have c1 := h'.nm
 have c2 : W0.cell? ⟨w.heap.size, 0, none⟩ = some (.string (str v.name)) := cell_blk k0 rfl
 have HB0 := Lib.hid hB0
 have HW0 := Lib.hid hW0
 have e1 := str_eqb v.name nm
 unfold named
 generalize (v.name == nm) = t1 at e1
 clear h h' hW0 k0 hB0 hz0
 cases t1 <;>
 · go_enter Tryz.func131, Tryz.ntmps131
   go_upto_region 1 with fail
   rw [HW0.out]
   go_quiet (fail)
   go_wp2_with fail
   go_ret
   exact ⟨rfl, below_drewN HB0.out _⟩
set_option maxHeartbeats 800000 in
theorem call1_any (v : Fnc) (s : FncP) (sb b o : Nat) (nm : List UInt8) (w : World) (h : SB w sb b o nm) :
   Calls Tryz.prog 133 #[.agg #[.string (str v.name), .slice s.pp v.params.length s.cp, .slice s.pv v.vars.length s.cv, .slice s.pr v.rets.length s.cr, .slice s.pb v.body.len s.cb], .pointer (some ⟨sb, 0, none⟩)] w fun z w' => z = .returned (.bool (fnNamed nm v)) ∧ Below w.heap.size w w' := by
 obtain ⟨W0, hW0, k0, hB0, hz0⟩ := one_alloc w (.cells #[.string (str v.name), .slice s.pp v.params.length s.cp, .slice s.pv v.vars.length s.cv, .slice s.pr v.rets.length s.cr, .slice s.pb v.body.len s.cb] 48)
 have h' := h.later hB0
 have c0 : W0.cell? ⟨sb, 0, none⟩ = some (.pointer (some ⟨b, o, none⟩)) := cell_blk h'.cs rfl
 have c1 := h'.nm
 have c2 : W0.cell? ⟨w.heap.size, 0, none⟩ = some (.string (str v.name)) := cell_blk k0 rfl
 have HB0 := Lib.hid hB0
 have HW0 := Lib.hid hW0
 have e1 := str_eqb v.name nm
 unfold fnNamed
 generalize (v.name == nm) = t1 at e1
 clear h h' hW0 k0 hB0 hz0
 cases t1 <;>
 · go_enter Tryz.func133, Tryz.ntmps133
   go_upto_region 1 with fail
   rw [HW0.out]
   go_quiet (fail)
   go_wp2_with fail
   go_ret
   exact ⟨rfl, below_drewN HB0.out _⟩
set_option maxHeartbeats 3200000 in
theorem ixNamed_any (l : List Vr) (p : Option Addr) (c N : Nat) (nm : List UInt8) (nb : Nat) (w : World) (hl : RowIn N (Vr.At w) 4 l p) (hN : N ≤ w.heap.size) (hnb : w.heap[nb]? = some (.cells #[.string (str nm)] 9 (0, 0))) :
   Calls Tryz.prog 127 #[.slice p l.length c, .func (.func 102) #[] #[.pointer (some ⟨nb, 0, none⟩)]] w fun z w' => (∃ i, z = .returned (.int .i64 i) ∧ IxIs (isWord nm) l i) ∧ Below w.heap.size w w' := by
 obtain ⟨b, o, hp, hb, ha⟩ := Row.start hl
 have hm := hl.1
 have HA := Lib.hid (And.intro ha hb)
 have HI := Lib.hid hnb
 clear hl hb ha hnb
 go_enter Tryz.func127, Tryz.ntmps127
 go_wp2_with fail
 go_loopw [8] (fun i wr => ∃ (d r : List Vr), i = .int .i64 d.length ∧ d.length + r.length = l.length ∧ Hid (l = d ++ r) ∧ Hid (Row (Vr.At w) 4 r b (o + d.length * 4)) ∧ Hid (d.all (fun y => !(isWord nm) y) = true) ∧ Hid (Below w.heap.size w wr)) (fun i _ => l.length - (intOf i).toNat)
 case atStart => exact ⟨[], l, rfl, by simp, Lib.hid rfl, Lib.hid (by simpa using HA.out.1), Lib.hid rfl, Lib.hid (Below.refl _ _)⟩
 case round =>
   obtain ⟨d, r, rfl, hd, hE, hr, hF, hB⟩ := hrel
   cases r with
   | nil =>
     simp only [List.length_nil] at hd
     have hge : ¬ d.length < l.length := by omega
     have HR := Lib.hid (show IxIs (isWord nm) l (-1) from .inr ⟨rfl, by rw [hE.out, List.append_nil]; exact hF.out⟩)
     go_wp2_with fail
     go_ret
     exact ⟨⟨_, rfl, HR.out⟩, hB.out⟩
   | cons y r =>
     obtain ⟨hy, hr'⟩ := hr.out
     simp only [List.length_cons] at hd
     have hlt : d.length < l.length := by omega
     rcases hp with h0 | rfl
     · omega
     have hbw : b < w.heap.size := by have := HA.out.2; omega
     obtain ⟨d0, d1, d2, d3⟩ := Vr.At.later hB.out y b _ hbw hy
     have HR := Lib.hid hr'
     have HC := Lib.hid (named1_any y nm nb wr ((hB.out.block _ (lt_blk HI.out)).trans HI.out))
     have HY := Lib.hid (show (isWord nm) y = true → IxIs (isWord nm) l (d.length : Int) from fun h => .inl ⟨d.length, y, d, r, rfl, hE.out, rfl, h, hF.out⟩)
     have HN' := Lib.hid (show (isWord nm) y = false → (d ++ [y]).all (fun y => !(isWord nm) y) = true from fun h => by rw [List.all_append, hF.out]; simp only [List.all_cons, List.all_nil, h]; rfl)
     clear hy hr hr'
     generalize (isWord nm) y = t at HY HN' HC
     cases t with
     | true =>
       go_wp2_with fail
       refine HC.out.mono ?_
       rintro z w1 ⟨rfl, hB1⟩
       have HB1 := Lib.hid (hB.out.trans (hB1.mono hB.out.size))
       have HR1 := Lib.hid (HY.out (by first | rfl | trivial))
       clear hB1
       go_wp2_with fail
       go_ret
       exact ⟨⟨_, rfl, HR1.out⟩, HB1.out⟩
     | false =>
       go_wp2_with fail
       refine HC.out.mono ?_
       rintro z w1 ⟨rfl, hB1⟩
       have HB1 := Lib.hid (hB.out.trans (hB1.mono hB.out.size))
       have HR1 := Lib.hid (HN'.out (by first | rfl | trivial))
       clear hB1
       go_wp2_with fail
       go_roundw
       case rel => exact ⟨d ++ [y], r, by rw [List.length_append]; go_num, by simp; omega, Lib.hid (by rw [hE.out]; simp), Lib.hid (by rw [List.length_append, List.length_singleton, show o + (d.length + 1) * 4 = o + d.length * 4 + 4 by omega]; exact HR.out), HR1, HB1⟩
       case measure => simp [intOf]; omega
set_option maxHeartbeats 3200000 in
theorem ixLoop_any (l : List Vr) (p : Option Addr) (c N : Nat) (nm : List UInt8) (sb b1 o1 : Nat) (w : World) (hl : RowIn N (Vr.At w) 4 l p) (hN : N ≤ w.heap.size) (hsb : SB w sb b1 o1 nm) :
   Calls Tryz.prog 127 #[.slice p l.length c, .func (.func 131) #[] #[.pointer (some ⟨sb, 0, none⟩)]] w fun z w' => (∃ i, z = .returned (.int .i64 i) ∧ IxIs (named nm) l i) ∧ Below w.heap.size w w' := by
 obtain ⟨b, o, hp, hb, ha⟩ := Row.start hl
 have hm := hl.1
 have HA := Lib.hid (And.intro ha hb)
 have HI := Lib.hid hsb
 clear hl hb ha hsb
 go_enter Tryz.func127, Tryz.ntmps127
 go_wp2_with fail
 go_loopw [8] (fun i wr => ∃ (d r : List Vr), i = .int .i64 d.length ∧ d.length + r.length = l.length ∧ Hid (l = d ++ r) ∧ Hid (Row (Vr.At w) 4 r b (o + d.length * 4)) ∧ Hid (d.all (fun y => !(named nm) y) = true) ∧ Hid (Below w.heap.size w wr)) (fun i _ => l.length - (intOf i).toNat)
 case atStart => exact ⟨[], l, rfl, by simp, Lib.hid rfl, Lib.hid (by simpa using HA.out.1), Lib.hid rfl, Lib.hid (Below.refl _ _)⟩
 case round =>
   obtain ⟨d, r, rfl, hd, hE, hr, hF, hB⟩ := hrel
   cases r with
   | nil =>
     simp only [List.length_nil] at hd
     have hge : ¬ d.length < l.length := by omega
     have HR := Lib.hid (show IxIs (named nm) l (-1) from .inr ⟨rfl, by rw [hE.out, List.append_nil]; exact hF.out⟩)
     go_wp2_with fail
     go_ret
     exact ⟨⟨_, rfl, HR.out⟩, hB.out⟩
   | cons y r =>
     obtain ⟨hy, hr'⟩ := hr.out
     simp only [List.length_cons] at hd
     have hlt : d.length < l.length := by omega
     rcases hp with h0 | rfl
     · omega
     have hbw : b < w.heap.size := by have := HA.out.2; omega
     obtain ⟨d0, d1, d2, d3⟩ := Vr.At.later hB.out y b _ hbw hy
     have HR := Lib.hid hr'
     have HC := Lib.hid (loop1_any y sb b1 o1 nm wr (HI.out.later hB.out))
     have HY := Lib.hid (show (named nm) y = true → IxIs (named nm) l (d.length : Int) from fun h => .inl ⟨d.length, y, d, r, rfl, hE.out, rfl, h, hF.out⟩)
     have HN' := Lib.hid (show (named nm) y = false → (d ++ [y]).all (fun y => !(named nm) y) = true from fun h => by rw [List.all_append, hF.out]; simp only [List.all_cons, List.all_nil, h]; rfl)
     clear hy hr hr'
     generalize (named nm) y = t at HY HN' HC
     cases t with
     | true =>
       go_wp2_with fail
       refine HC.out.mono ?_
       rintro z w1 ⟨rfl, hB1⟩
       have HB1 := Lib.hid (hB.out.trans (hB1.mono hB.out.size))
       have HR1 := Lib.hid (HY.out (by first | rfl | trivial))
       clear hB1
       go_wp2_with fail
       go_ret
       exact ⟨⟨_, rfl, HR1.out⟩, HB1.out⟩
     | false =>
       go_wp2_with fail
       refine HC.out.mono ?_
       rintro z w1 ⟨rfl, hB1⟩
       have HB1 := Lib.hid (hB.out.trans (hB1.mono hB.out.size))
       have HR1 := Lib.hid (HN'.out (by first | rfl | trivial))
       clear hB1
       go_wp2_with fail
       go_roundw
       case rel => exact ⟨d ++ [y], r, by rw [List.length_append]; go_num, by simp; omega, Lib.hid (by rw [hE.out]; simp), Lib.hid (by rw [List.length_append, List.length_singleton, show o + (d.length + 1) * 4 = o + d.length * 4 + 4 by omega]; exact HR.out), HR1, HB1⟩
       case measure => simp [intOf]; omega
set_option maxHeartbeats 3200000 in
theorem ixCall_any (l : List Fnc) (p : Option Addr) (c N : Nat) (nm : List UInt8) (sb b1 o1 : Nat) (w : World) (hl : RowIn N (Fnc.At w N) 5 l p) (hN : N ≤ w.heap.size) (hsb : SB w sb b1 o1 nm) :
   Calls Tryz.prog 132 #[.slice p l.length c, .func (.func 133) #[] #[.pointer (some ⟨sb, 0, none⟩)]] w fun z w' => (∃ i, z = .returned (.int .i64 i) ∧ IxIs (fnNamed nm) l i) ∧ Below w.heap.size w w' := by
 obtain ⟨b, o, hp, hb, ha⟩ := Row.start hl
 have hm := hl.1
 have HA := Lib.hid (And.intro ha hb)
 have HI := Lib.hid hsb
 clear hl hb ha hsb
 go_enter Tryz.func132, Tryz.ntmps132
 go_wp2_with fail
 go_loopw [8] (fun i wr => ∃ (d r : List Fnc), i = .int .i64 d.length ∧ d.length + r.length = l.length ∧ Hid (l = d ++ r) ∧ Hid (Row (Fnc.At w N) 5 r b (o + d.length * 5)) ∧ Hid (d.all (fun y => !(fnNamed nm) y) = true) ∧ Hid (Below w.heap.size w wr)) (fun i _ => l.length - (intOf i).toNat)
 case atStart => exact ⟨[], l, rfl, by simp, Lib.hid rfl, Lib.hid (by simpa using HA.out.1), Lib.hid rfl, Lib.hid (Below.refl _ _)⟩
 case round =>
   obtain ⟨d, r, rfl, hd, hE, hr, hF, hB⟩ := hrel
   cases r with
   | nil =>
     simp only [List.length_nil] at hd
     have hge : ¬ d.length < l.length := by omega
     have HR := Lib.hid (show IxIs (fnNamed nm) l (-1) from .inr ⟨rfl, by rw [hE.out, List.append_nil]; exact hF.out⟩)
     go_wp2_with fail
     go_ret
     exact ⟨⟨_, rfl, HR.out⟩, hB.out⟩
   | cons y r =>
     obtain ⟨hy, hr'⟩ := hr.out
     simp only [List.length_cons] at hd
     have hlt : d.length < l.length := by omega
     rcases hp with h0 | rfl
     · omega
     have hbw : b < w.heap.size := by have := HA.out.2; omega
     obtain ⟨s, g0, g1, g2, g3, g4, _⟩ := Fnc.At.all hy
     have d0 := (hB.out.cell (p := ⟨b, _, none⟩) hbw).trans g0
     have d1 := (hB.out.cell (p := ⟨b, _, none⟩) hbw).trans g1
     have d2 := (hB.out.cell (p := ⟨b, _, none⟩) hbw).trans g2
     have d3 := (hB.out.cell (p := ⟨b, _, none⟩) hbw).trans g3
     have d4 := (hB.out.cell (p := ⟨b, _, none⟩) hbw).trans g4
     clear g0 g1 g2 g3 g4
     have HR := Lib.hid hr'
     have HC := Lib.hid (call1_any y s sb b1 o1 nm wr (HI.out.later hB.out))
     have HY := Lib.hid (show (fnNamed nm) y = true → IxIs (fnNamed nm) l (d.length : Int) from fun h => .inl ⟨d.length, y, d, r, rfl, hE.out, rfl, h, hF.out⟩)
     have HN' := Lib.hid (show (fnNamed nm) y = false → (d ++ [y]).all (fun y => !(fnNamed nm) y) = true from fun h => by rw [List.all_append, hF.out]; simp only [List.all_cons, List.all_nil, h]; rfl)
     clear hy hr hr'
     generalize (fnNamed nm) y = t at HY HN' HC
     cases t with
     | true =>
       go_wp2_with fail
       refine HC.out.mono ?_
       rintro z w1 ⟨rfl, hB1⟩
       have HB1 := Lib.hid (hB.out.trans (hB1.mono hB.out.size))
       have HR1 := Lib.hid (HY.out (by first | rfl | trivial))
       clear hB1
       go_wp2_with fail
       go_ret
       exact ⟨⟨_, rfl, HR1.out⟩, HB1.out⟩
     | false =>
       go_wp2_with fail
       refine HC.out.mono ?_
       rintro z w1 ⟨rfl, hB1⟩
       have HB1 := Lib.hid (hB.out.trans (hB1.mono hB.out.size))
       have HR1 := Lib.hid (HN'.out (by first | rfl | trivial))
       clear hB1
       go_wp2_with fail
       go_roundw
       case rel => exact ⟨d ++ [y], r, by rw [List.length_append]; go_num, by simp; omega, Lib.hid (by rw [hE.out]; simp), Lib.hid (by rw [List.length_append, List.length_singleton, show o + (d.length + 1) * 5 = o + d.length * 5 + 5 by omega]; exact HR.out), HR1, HB1⟩
       case measure => simp [intOf]; omega
theorem anyNamed_any (l : List Vr) (p : Option Addr) (c N : Nat) (nm : List UInt8) (nb : Nat) (w : World) (hl : RowIn N (Vr.At w) 4 l p) (hN : N ≤ w.heap.size) (hnb : w.heap[nb]? = some (.cells #[.string (str nm)] 9 (0, 0))) :
   Calls Tryz.prog 101 #[.slice p l.length c, .func (.func 102) #[] #[.pointer (some ⟨nb, 0, none⟩)]] w fun z w' => z = .returned (.bool (l.any (isWord nm))) ∧ Below w.heap.size w w' := by
 have HC := Lib.hid (ixNamed_any l p c N nm nb w hl hN hnb)
 clear hl hnb
 go_enter Tryz.func101, Tryz.ntmps101
 go_wp2_with fail
 refine HC.out.mono ?_
 rintro z w1 ⟨⟨i, rfl, hi⟩, hB⟩
 have HI := Lib.hid hi.any
 have HB := Lib.hid hB
 clear hi hB
 go_wp2_with fail
 go_ret
 exact ⟨ret_bool HI.out, HB.out⟩
theorem anyLoop_any (l : List Vr) (p : Option Addr) (c N : Nat) (nm : List UInt8) (sb b1 o1 : Nat) (w : World) (hl : RowIn N (Vr.At w) 4 l p) (hN : N ≤ w.heap.size) (hsb : SB w sb b1 o1 nm) :
   Calls Tryz.prog 101 #[.slice p l.length c, .func (.func 131) #[] #[.pointer (some ⟨sb, 0, none⟩)]] w fun z w' => z = .returned (.bool (l.any (named nm))) ∧ Below w.heap.size w w' := by
 have HC := Lib.hid (ixLoop_any l p c N nm sb b1 o1 w hl hN hsb)
 clear hl hsb
 go_enter Tryz.func101, Tryz.ntmps101
 go_wp2_with fail
 refine HC.out.mono ?_
 rintro z w1 ⟨⟨i, rfl, hi⟩, hB⟩
 have HI := Lib.hid hi.any
 have HB := Lib.hid hB
 clear hi hB
 go_wp2_with fail
 go_ret
 exact ⟨ret_bool HI.out, HB.out⟩
/- What is asked of a function's names within. -/
open Go.RowKit

def nz : List UInt8 → Nat := fun _ => 0
theorem newB_app : ∀ (a b : List (List UInt8)) (f : List UInt8 → Nat), newB f (a ++ b) = (newB f a && newB (adds f a) b)
 | [], _, _ => by simp [newB, adds]
 | s :: a, b, f => by rw [List.cons_append, newB, newB_app a b, newB, adds]; simp only [Bool.and_assoc]
theorem adds_app : ∀ (a : List (List UInt8)) (s : List UInt8) (f : List UInt8 → Nat), adds f (a ++ [s]) = add (adds f a) s
 | [], _, _ => rfl
 | x :: a, s, f => by rw [List.cons_append, adds, adds_app a s, adds]
theorem newB_snoc {a : List (List UInt8)} {s : List UInt8} {f : List UInt8 → Nat} (h : newB f a = true) (hs : (nameB s && decide (adds f a s = 0)) = true) : newB f (a ++ [s]) = true := by
 rw [newB_app, h, newB, hs]; rfl
theorem newB_bad {a b : List (List UInt8)} {s : List UInt8} {f : List UInt8 → Nat} (hs : (nameB s && decide (adds f a s = 0)) = false) : newB f (a ++ s :: b) = false := by
 rw [newB_app, newB, hs, Bool.false_and, Bool.and_false]

structure N2 (w : World) (g2 b2 g3 b3 : Nat) (f2 f3 : List UInt8 → Nat) : Prop where
 n2 : Nm w g2 b2 f2
 n3 : Nm w g3 b3 f3
 ap : g2 ≠ b3 ∧ b2 ≠ b3 ∧ g3 ≠ b2
theorem N2.later {w w' : World} {g2 b2 g3 b3 : Nat} {f2 f3 : List UInt8 → Nat} (h : N2 w g2 b2 g3 b3 f2 f3) (hB : Below w.heap.size w w') : N2 w' g2 b2 g3 b3 f2 f3 := ⟨h.n2.later hB, h.n3.later hB, h.ap⟩
theorem N2.s2 {w w' : World} {g2 b2 g3 b3 : Nat} {f2 f3 f : List UInt8 → Nat} (h : N2 w g2 b2 g3 b3 f2 f3) (hn : Nm w' g2 b2 f) (hB : But b2 w w') : N2 w' g2 b2 g3 b3 f f3 :=
 ⟨hn, h.n3.but hB h.ap.2.2 (Ne.symm h.ap.2.1), h.ap⟩
theorem N2.s3 {w w' : World} {g2 b2 g3 b3 : Nat} {f2 f3 f : List UInt8 → Nat} (h : N2 w g2 b2 g3 b3 f2 f3) (hn : Nm w' g3 b3 f) (hB : But b3 w w') : N2 w' g2 b2 g3 b3 f2 f :=
 ⟨h.n2.but hB h.ap.1 h.ap.2.1, hn, h.ap⟩

theorem Cm.ne {w : World} {k b o : Nat} {f : List UInt8 → Nat} {v : Value} (h : Cm w k f) (hc : w.cell? ⟨b, o, none⟩ = some v) : b ≠ k := by
 rintro rfl
 obtain ⟨es, clock, T, h1, _⟩ := h
 simp [World.cell?, h1] at hc
theorem Vr.At.blk {w W : World} {x : Vr} {b o : Nat} (h : x.At w b o) (e : W.heap[b]? = w.heap[b]?) : x.At W b o :=
 ⟨(World.cell?_of_block (w := w) e).trans h.1, (World.cell?_of_block (w := w) e).trans h.2.1, (World.cell?_of_block (w := w) e).trans h.2.2.1, (World.cell?_of_block (w := w) e).trans h.2.2.2⟩
def rnm (l : List Rgn) : List (List UInt8) := l.map (·.name)
def fnm (l : List Fnc) : List (List UInt8) := l.map (·.name)
def vnm (l : List Vr) : List (List UInt8) := l.map (·.name)

def ownN (rg : List Rgn) (f : Fnc) : Bool := newB nz (rnm rg ++ vnm (f.params ++ f.vars)) && newB nz f.rets && f.rets.all (fun s => (f.params ++ f.vars).any (isWord s))
def Fnc.v (f : Fnc) (s : FncP) : Value := .agg #[.string (str f.name), .slice s.pp f.params.length s.cp, .slice s.pv f.vars.length s.cv, .slice s.pr f.rets.length s.cr, .slice s.pb f.body.len s.cb]
set_option maxRecDepth 100000 in
set_option maxHeartbeats 12800000 in
theorem mustNameOwn_any (rg : List Rgn) (fn : Fnc) (s : FncP) (p : Option Addr) (c N : Nat) (w : World) (h : fn.Ok w N s) (hreg : RowIn N (Rgn.At w) 4 rg p) (hN : N ≤ w.heap.size) (hvs : fn.params.length + fn.vars.length ≤ 1000) :
   Calls Tryz.prog 82 #[fn.v s, .slice p rg.length c] w (Chk (ask (ownN rg fn) 8) w) := by
 obtain ⟨pp, pv, pr, pb, cp, cv, cr, cb⟩ := s
 obtain ⟨W0, hW0, k0, hB0, hz0⟩ := one_alloc w (.cells #[.string (str fn.name), .slice pp fn.params.length cp, .slice pv fn.vars.length cv, .slice pr fn.rets.length cr, .slice pb fn.body.len cb] 48)
 obtain ⟨b, o, hp, hb, ha⟩ := Row.start hreg
 have hm := hreg.1
 have HA := Lib.hid (And.intro ha hb)
 have HOk := Lib.hid h
 have HB0 := Lib.hid hB0
 have HZ0 := Lib.hid hz0
 have HW0 := Lib.hid hW0
 have HK := Lib.hid k0
 have HNm := Lib.hid names_any
 have HNo := Lib.hid (fun (w' : World) (hf : ownN rg fn = false) (hB : Below w.heap.size w w') => show Chk (ask (ownN rg fn) 8) w (Pn 8) w' from Chk.no' (e := 8) (by rw [hf]; rfl) (by decide) hB)
 unfold Pn at HNo
 unfold Fnc.v
 clear hW0 k0 hB0 h hb ha hz0 hreg
 go_enter Tryz.func82, Tryz.ntmps82
 go_wp2_with fail
 rw [HW0.out]
 refine (HNm.out _).mono ?_
 rintro z W2 ⟨g2, b2, rfl, m2, l2, l2', hB2⟩
 have M2 := Lib.hid (And.intro m2 (And.intro l2 (And.intro l2' hB2)))
 clear m2 l2 l2' hB2
 unfold nmFn
 go_wp2_with fail
 refine (HNm.out _).mono ?_
 rintro z W3 ⟨g3, b3, rfl, m3, l3, l3', hB3⟩
 have HX : N2 W3 g2 b2 g3 b3 nz nz ∧ Below W0.heap.size W0 W3 ∧ W0.heap.size ≤ b2 ∧ W0.heap.size ≤ b3 := by
   obtain ⟨n2, p2, p2', q2⟩ := M2.out
   have a3 := lt_blk n2.1
   have a4 := n2.2.1.lt
   have a6 := q2.size
   have a7 := hB3.size
   exact ⟨⟨n2.later hB3, m3, by omega, by omega, by omega⟩, q2.trans (hB3.mono a6), by omega, by omega⟩
 have H3 := Lib.hid HX.1
 have HB3 := Lib.hid HX.2.1
 have HG := Lib.hid HX.2.2
 have HU := Lib.hid (fun (W : World) (hB : Below W0.heap.size W0 W) => show Below w.heap.size w W from HB0.out.trans (hB.mono (by have := HZ0.out; omega)))
 have HV := Lib.hid (fun (W W' : World) (k : Nat) (hB : Below W0.heap.size W0 W) (hb : But k W W') (hk : W0.heap.size ≤ k) => show Below W0.heap.size W0 W' from But.below hB hb hk hB.size)
 have HC := Lib.hid (fun (W : World) (hB : Below W0.heap.size W0 W) => show W.cell? ⟨w.heap.size, 1, none⟩ = some (.slice pp fn.params.length cp) ∧ W.cell? ⟨w.heap.size, 2, none⟩ = some (.slice pv fn.vars.length cv) ∧ W.cell? ⟨w.heap.size, 3, none⟩ = some (.slice pr fn.rets.length cr) from ⟨cell_blk ((hB.block _ (lt_blk HK.out)).trans HK.out) rfl, cell_blk ((hB.block _ (lt_blk HK.out)).trans HK.out) rfl, cell_blk ((hB.block _ (lt_blk HK.out)).trans HK.out) rfl⟩)
 clear HX m3 l3 l3' hB3 M2 HNm
 unfold nmFn
 go_wp2_with fail
 go_loopw [17] (fun i wr => ∃ (ds r : List Rgn), i = .int .i64 ds.length ∧ ds.length + r.length = rg.length ∧ Hid (rg = ds ++ r) ∧ Hid (Row (Rgn.At w) 4 r b (o + ds.length * 4)) ∧ Hid (N2 wr g2 b2 g3 b3 (adds nz (rnm ds)) nz ∧ Below W0.heap.size W0 wr) ∧ Hid (newB nz (rnm ds) = true)) (fun i _ => rg.length - (intOf i).toNat)
 case atStart => exact ⟨[], rg, rfl, by simp, Lib.hid rfl, Lib.hid (by simpa using HA.out.1), Lib.hid ⟨H3.out, HB3.out⟩, Lib.hid rfl⟩
 case round =>
   obtain ⟨ds, r, rfl, hk, hds, hr, hM, hE⟩ := hrel
   cases r with
   | cons y r =>
     obtain ⟨hy, hr'⟩ := hr.out
     simp only [List.length_cons] at hk
     have hlt : ds.length < rg.length := by omega
     rcases hp with h0 | rfl
     · omega
     obtain ⟨d0, d1, d2, d3⟩ := Rgn.At.of hy (HU.out _ hM.out.2) (by have := HA.out.2; omega)
     have HR := Lib.hid hr'
     obtain ⟨Wa, hWa, ka, hBa, hza⟩ := one_alloc wr (.cells #[.string (str y.name), .int .i64 y.addr, .int .i64 y.size, .bool y.secret] 83)
     have HWa := Lib.hid hWa
     have HMa := Lib.hid (And.intro (hM.out.1.later hBa) (hM.out.2.trans (hBa.mono hM.out.2.size)))
     have a0 : Wa.cell? ⟨wr.heap.size, 0, none⟩ = some (.string (str y.name)) := cell_blk ka rfl
     clear hy hr hr' hWa ka hBa hza
     go_upto_region 5 with fail
     rw [HWa.out]
     clear d0 d1 d2 d3 HWa
     cases hn : (nameB y.name && decide (adds nz (rnm ds) y.name = 0)) with
     | false =>
       have HC1 := Lib.hid (name1_no y.name g2 b2 _ _ HMa.out.1.n2 hn)
       have HX := Lib.hid (HNo.out Wa (by unfold ownN; rw [hds.out, show rnm (ds ++ y :: r) = rnm ds ++ y.name :: rnm r by simp [rnm], List.append_assoc, List.cons_append, newB_bad hn]; simp) (HU.out _ HMa.out.2))
       clear hn
       go_wp2_with fail
       refine HC1.out.mono ?_
       rintro z w1 ⟨rfl, rfl⟩
       unfold Pn
       go_wp2_with fail
       exact ⟨rfl, HX.out⟩
     | true =>
       have HC1 := Lib.hid (name1_yes y.name g2 b2 _ _ HMa.out.1.n2 hn)
       have HE := Lib.hid (show newB nz (rnm (ds ++ [y])) = true by rw [show rnm (ds ++ [y]) = rnm ds ++ [y.name] by simp [rnm]]; exact newB_snoc hE.out hn)
       have HEq := Lib.hid (show adds nz (rnm (ds ++ [y])) = add (adds nz (rnm ds)) y.name by rw [show rnm (ds ++ [y]) = rnm ds ++ [y.name] by simp [rnm], adds_app])
       clear hn
       go_wp2_with fail
       refine HC1.out.mono ?_
       rintro z w1 ⟨rfl, hM1, hb1⟩
       have HM1 := Lib.hid (And.intro (HMa.out.1.s2 hM1 hb1) (HV.out _ _ _ HMa.out.2 hb1 HG.out.1))
       clear hM1 hb1 a0
       go_wp2_with fail
       go_roundw
       case rel => exact ⟨ds ++ [y], r, by rw [List.length_append]; go_num, by simp; omega, Lib.hid (by rw [hds.out]; simp), Lib.hid (by rw [List.length_append, List.length_singleton, show o + (ds.length + 1) * 4 = o + ds.length * 4 + 4 by omega]; exact HR.out), Lib.hid (by rw [HEq.out]; exact HM1.out), HE⟩
       case measure => simp [intOf]; omega
   | nil =>
         simp only [List.length_nil] at hk
         have hge : ¬ ds.length < rg.length := by omega
         have hdr : rg = ds := by rw [hds.out, List.append_nil]
         have HR1 := Lib.hid (show newB nz (rnm rg) = true by rw [hdr]; exact hE.out)
         have HM := Lib.hid (show N2 wr g2 b2 g3 b3 (adds nz (rnm rg)) nz ∧ Below W0.heap.size W0 wr by rw [hdr]; exact hM.out)
         obtain ⟨g1', g2', _⟩ := HC.out _ HM.out.2
         clear hdr hE hM hr hds
         obtain ⟨Wc, hWc, kc, hBc, hzc⟩ := one_alloc wr (.cells #[.slice pp fn.params.length cp, .slice pv fn.vars.length cv] 46)
         have hBcd : Below W0.heap.size W0 Wc := HM.out.2.trans (hBc.mono HM.out.2.size)
         have HCc := Lib.hid (concat_any fn.params fn.vars pp pv cp cv wr.heap.size N Wc kc (HOk.out.1.imp (Nat.le_refl _) (Vr.At.later ((HU.out _ hBcd).mono hN))) (HOk.out.2.1.imp (Nat.le_refl _) (Vr.At.later ((HU.out _ hBcd).mono hN))) (Nat.le_trans hN (HU.out _ hBcd).size) hvs)
         have HMc := Lib.hid (And.intro (HM.out.1.later hBc) hBcd)
         have HWc := Lib.hid hWc
         clear hWc kc hBc hzc hBcd
         go_wp2_with fail
         rw [HWc.out]
         clear g1' g2' HWc
         refine HCc.out.mono ?_
         rintro z w4 ⟨p4, c4, rfl, hrow, hB4⟩
         have HM4 := Lib.hid (And.intro (HMc.out.1.later hB4) (HMc.out.2.trans (hB4.mono HMc.out.2.size)))
         have HRow := Lib.hid hrow
         clear hrow hB4
         generalize hVL : fn.params ++ fn.vars = VL at HRow
         have HVL := Lib.hid hVL
         clear hVL
         obtain ⟨b5, o5, hp5, hb5, ha5⟩ := Row.start HRow.out
         have HA5 := Lib.hid (And.intro ha5 hb5)
         have hm5 := HRow.out.1
         clear ha5 hb5
         go_wp2_with fail
         have HRA := Lib.hid (fun (W : World) (e' : VL.length = 0 ∨ W.heap[b5]? = w4.heap[b5]?) (hz : w4.heap.size ≤ W.heap.size) => show RowIn W.heap.size (Vr.At W) 4 VL p4 from by
           refine ⟨hm5, ?_⟩
           rcases e' with h0 | e
           · exact .inl h0
           rcases hp5 with h0 | hp5
           · exact .inl h0
           · rcases HA5.out.2 with hb | h0
             · exact .inr ⟨b5, o5, hp5, by omega, Row.imp (fun v o h => Vr.At.blk h e) _ _ HA5.out.1⟩
             · exact .inl h0)
         obtain ⟨wv, rfl⟩ : ∃ wv : World, wv = wr := ⟨_, rfl⟩
         go_loopw [34] (fun i' wr => ∃ (ds r : List Vr), i' = .int .i64 ds.length ∧ ds.length + r.length = VL.length ∧ Hid (VL = ds ++ r) ∧ Hid (Row (Vr.At w4) 4 r b5 (o5 + ds.length * 4)) ∧ Hid (N2 wr g2 b2 g3 b3 (adds nz (rnm rg ++ vnm ds)) nz ∧ Below W0.heap.size W0 wr) ∧ Hid (wr.heap[b5]? = w4.heap[b5]? ∧ w4.heap.size ≤ wr.heap.size) ∧ Hid (newB nz (rnm rg ++ vnm ds) = true)) (fun i' _ => VL.length - (intOf i').toNat)
         case atStart => exact ⟨[], VL, rfl, by rw [List.length_nil]; omega, Lib.hid rfl, Lib.hid (by simpa using HA5.out.1), Lib.hid (by
           have h := HM4.out
           refine ⟨?_, h.2⟩
           have h1 := h.1
           rw [show rnm rg ++ vnm [] = rnm rg by simp [vnm]]
           exact h1), Lib.hid ⟨rfl, Nat.le_refl _⟩, Lib.hid (by rw [show rnm rg ++ vnm [] = rnm rg by simp [vnm]]; exact HR1.out)⟩
         case round =>
           obtain ⟨ds, r, rfl, hk, hds, hr, hM, hQ, hE⟩ := hrel
           cases r with
           | cons y r =>
             obtain ⟨hy, hr'⟩ := hr.out
             simp only [List.length_cons] at hk
             have hlt : ds.length < VL.length := by omega
             rcases hp5 with h0 | rfl
             · omega
             have hyr := Vr.At.blk hy hQ.out.1
             have hne : b5 ≠ b2 := hM.out.1.n2.2.1.ne hyr.1
             have hb5 : b5 < wr.heap.size := by have := HA5.out.2; have := hQ.out.2; omega
             obtain ⟨d0, d1, d2, d3⟩ := hyr
             have HR := Lib.hid hr'
             obtain ⟨Wa, hWa, ka, hBa, hza⟩ := one_alloc wr (.cells #[.string (str y.name), .int .i64 y.kind, .int .i64 y.size, .bool y.secret] 58)
             have HWa := Lib.hid hWa
             have HMa := Lib.hid (And.intro (hM.out.1.later hBa) (hM.out.2.trans (hBa.mono hM.out.2.size)))
             have HQa := Lib.hid (show Wa.heap[b5]? = w4.heap[b5]? ∧ w4.heap.size ≤ Wa.heap.size ∧ b5 < Wa.heap.size ∧ b5 ≠ b2 from ⟨(hBa.block _ hb5).trans hQ.out.1, by have := hQ.out.2; omega, by omega, hne⟩)
             have a0 : Wa.cell? ⟨wr.heap.size, 0, none⟩ = some (.string (str y.name)) := cell_blk ka rfl
             clear hy hr hr' hWa ka hBa hza hne hb5
             go_upto_region 11 with fail
             rw [HWa.out]
             clear d0 d1 d2 d3 HWa
             cases hn : (nameB y.name && decide (adds nz (rnm rg ++ vnm ds) y.name = 0)) with
             | false =>
               have HC1 := Lib.hid (name1_no y.name g2 b2 _ _ HMa.out.1.n2 hn)
               have HX := Lib.hid (HNo.out Wa (by unfold ownN; rw [HVL.out, hds.out, show rnm rg ++ vnm (ds ++ y :: r) = (rnm rg ++ vnm ds) ++ y.name :: vnm r by simp [vnm], newB_bad hn]; simp) (HU.out _ HMa.out.2))
               clear hn
               go_wp2_with fail
               refine HC1.out.mono ?_
               rintro z w1 ⟨rfl, rfl⟩
               unfold Pn
               go_wp2_with fail
               exact ⟨rfl, HX.out⟩
             | true =>
               have HC1 := Lib.hid (name1_yes y.name g2 b2 _ _ HMa.out.1.n2 hn)
               have HE := Lib.hid (show newB nz (rnm rg ++ vnm (ds ++ [y])) = true by rw [show rnm rg ++ vnm (ds ++ [y]) = (rnm rg ++ vnm ds) ++ [y.name] by simp [vnm]]; exact newB_snoc hE.out hn)
               have HEq := Lib.hid (show adds nz (rnm rg ++ vnm (ds ++ [y])) = add (adds nz (rnm rg ++ vnm ds)) y.name by rw [show rnm rg ++ vnm (ds ++ [y]) = (rnm rg ++ vnm ds) ++ [y.name] by simp [vnm], adds_app])
               clear hn
               go_wp2_with fail
               refine HC1.out.mono ?_
               rintro z w1 ⟨rfl, hM1, hb1⟩
               have HM1 := Lib.hid (And.intro (HMa.out.1.s2 hM1 hb1) (HV.out _ _ _ HMa.out.2 hb1 HG.out.1))
               have HQ1 := Lib.hid (And.intro ((hb1.block _ HQa.out.2.2.1 HQa.out.2.2.2).trans HQa.out.1) (Nat.le_trans HQa.out.2.1 hb1.size))
               clear hM1 hb1 a0
               go_wp2_with fail
               go_roundw
               case rel => exact ⟨ds ++ [y], r, by rw [List.length_append]; go_num, by simp; omega, Lib.hid (by rw [hds.out]; simp), Lib.hid (by rw [List.length_append, List.length_singleton, show o5 + (ds.length + 1) * 4 = o5 + ds.length * 4 + 4 by omega]; exact HR.out), Lib.hid (by rw [HEq.out]; exact HM1.out), HQ1, HE⟩
               case measure => simp [intOf]; omega
           | nil =>
             simp only [List.length_nil] at hk
             have hge : ¬ ds.length < VL.length := by omega
             have HR3 := Lib.hid (show newB nz (rnm rg ++ vnm (fn.params ++ fn.vars)) = true by rw [HVL.out, hds.out, List.append_nil]; exact hE.out)
             obtain ⟨F2, hF2⟩ : ∃ F, adds nz (rnm rg ++ vnm ds) = F := ⟨_, rfl⟩
             rw [hF2] at hM
             have HM := Lib.hid hM.out
             have HQ := Lib.hid (show (VL.length = 0 ∨ wr.heap[b5]? = w4.heap[b5]?) ∧ w4.heap.size ≤ wr.heap.size from ⟨.inr hQ.out.1, hQ.out.2⟩)
             obtain ⟨_, _, g3'⟩ := HC.out _ hM.out.2
             obtain ⟨b6, o6, hp6, hb6, ha6⟩ := Row.start HOk.out.2.2.1.2
             have HA6 := Lib.hid (And.intro ha6 hb6)
             have hm6 := HOk.out.2.2.1.2.1
             clear hE hM hr hds hF2 hQ ha6 hb6
             go_wp2_with fail
             obtain ⟨wy, rfl⟩ : ∃ wy : World, wy = wr := ⟨_, rfl⟩
             clear g3'
             go_loopw [46] (fun i' wr => ∃ (ds r : List (List UInt8)), i' = .int .i64 ds.length ∧ ds.length + r.length = fn.rets.length ∧ Hid (fn.rets = ds ++ r) ∧ Hid (Row (StrAt w) 1 r b6 (o6 + ds.length * 1)) ∧ Hid (N2 wr g2 b2 g3 b3 F2 (adds nz ds) ∧ Below W0.heap.size W0 wr) ∧ Hid ((VL.length = 0 ∨ wr.heap[b5]? = w4.heap[b5]?) ∧ w4.heap.size ≤ wr.heap.size) ∧ Hid (newB nz ds = true ∧ ds.all (fun s => VL.any (isWord s)) = true)) (fun i' _ => fn.rets.length - (intOf i').toNat)
             case atStart => exact ⟨[], fn.rets, rfl, by rw [List.length_nil]; omega, Lib.hid rfl, Lib.hid (by simpa using HA6.out.1), HM, HQ, Lib.hid ⟨rfl, rfl⟩⟩
             case round =>
               obtain ⟨ds, r, rfl, hk, hds, hr, hM, hQ, hE⟩ := hrel
               cases r with
               | nil =>
                 simp only [List.length_nil] at hk
                 have hge : ¬ ds.length < fn.rets.length := by omega
                 have HOK := Lib.hid (show Chk (ask (ownN rg fn) 8) w (.returned (.tuple #[])) wr from .ok (by
                   have h1 := hE.out
                   rw [← List.append_nil ds, ← hds.out] at h1
                   unfold ownN
                   rw [HR3.out, h1.1, HVL.out, h1.2]; rfl) (HU.out _ hM.out.2))
                 go_wp2_with fail
                 go_end0
                 exact HOK.out
               | cons y r =>
                 obtain ⟨hy, hr'⟩ := hr.out
                 simp only [List.length_cons] at hk
                 have hlt : ds.length < fn.rets.length := by omega
                 rcases hp6 with h0 | rfl
                 · omega
                 have hb6w : b6 < w.heap.size := by have := HA6.out.2; omega
                 have d0 : wr.cell? ⟨b6, o6 + ds.length, none⟩ = some (.string (str y)) := by
                   have h0 := ((HU.out _ hM.out.2).cell (p := ⟨b6, o6 + ds.length * 1, none⟩) hb6w).trans hy
                   rwa [Nat.mul_one] at h0
                 have HR := Lib.hid hr'
                 obtain ⟨Wa, hWa, ka, hBa, hza⟩ := one_alloc wr (.cells #[.string (str y)] 9)
                 have HWa := Lib.hid hWa
                 have HKa := Lib.hid ka
                 have HMa := Lib.hid (And.intro (hM.out.1.later hBa) (hM.out.2.trans (hBa.mono hM.out.2.size)))
                 have HKW := Lib.hid (show W0.heap.size ≤ wr.heap.size ∧ wr.heap.size < Wa.heap.size ∧ b3 < wr.heap.size from ⟨hM.out.2.size, by omega, hM.out.1.n3.2.1.lt⟩)
                 have a0 : Wa.cell? ⟨wr.heap.size, 0, none⟩ = some (.string (str y)) := cell_blk ka rfl
                 have HQa := Lib.hid (show (VL.length = 0 ∨ (Wa.heap[b5]? = w4.heap[b5]? ∧ b5 < Wa.heap.size ∧ b5 ≠ b3)) ∧ w4.heap.size ≤ Wa.heap.size from ⟨by
                   rcases hQ.out.1 with h | h
                   · exact .inl h
                   · cases hvl : VL with
                     | nil => exact .inl rfl
                     | cons v0 _ =>
                       right
                       have hv := HA5.out.1
                       have hz : b5 < w4.heap.size := by have := HA5.out.2; rw [hvl] at this; simp at this; exact this
                       rw [hvl] at hv
                       have hc := Vr.At.blk hv.1 h
                       exact ⟨(hBa.block _ (by have := hQ.out.2; omega)).trans h, by have := hQ.out.2; omega, hM.out.1.n3.2.1.ne hc.1⟩, by have := hQ.out.2; omega⟩)
                 clear hy hr hr' hWa ka hBa hza hb6w
                 go_upto_region 16 with fail
                 rw [HWa.out]
                 clear d0 HWa
                 cases hn : (nameB y && decide (adds nz ds y = 0)) with
                 | false =>
                   have HC1 := Lib.hid (name1_no y g3 b3 _ _ HMa.out.1.n3 hn)
                   have HX := Lib.hid (HNo.out Wa (by unfold ownN; rw [show newB nz fn.rets = false by rw [hds.out]; exact newB_bad hn]; simp) (HU.out _ HMa.out.2))
                   clear hn
                   go_wp2_with fail
                   refine HC1.out.mono ?_
                   rintro z w1 ⟨rfl, rfl⟩
                   unfold Pn
                   go_wp2_with fail
                   exact ⟨rfl, HX.out⟩
                 | true =>
                   have HC1 := Lib.hid (name1_yes y g3 b3 _ _ HMa.out.1.n3 hn)
                   have HE1 := Lib.hid (show newB nz (ds ++ [y]) = true from newB_snoc hE.out.1 hn)
                   have HEq := Lib.hid (adds_app ds y nz)
                   clear hn
                   go_wp2_with fail
                   refine HC1.out.mono ?_
                   rintro z w1 ⟨rfl, hM1, hb1⟩
                   have HM1 := Lib.hid (And.intro (HMa.out.1.s3 hM1 hb1) (HV.out _ _ _ HMa.out.2 hb1 HG.out.2))
                   have hka := (hb1.block _ HKW.out.2.1 (by have := HKW.out.2.2; omega)).trans HKa.out
                   have HQ1 := Lib.hid (show (VL.length = 0 ∨ w1.heap[b5]? = w4.heap[b5]?) ∧ w4.heap.size ≤ w1.heap.size from ⟨by
                     rcases HQa.out.1 with h | ⟨h1, h2, h3⟩
                     · exact .inl h
                     · exact .inr ((hb1.block _ h2 h3).trans h1), Nat.le_trans HQa.out.2 hb1.size⟩)
                   have HAny := Lib.hid (anyNamed_any VL p4 c4 w1.heap.size y wr.heap.size w1 (HRA.out w1 HQ1.out.1 HQ1.out.2) (Nat.le_refl _) hka)
                   clear hM1 hb1 a0 hka
                   cases hav : VL.any (isWord y) with
                   | false =>
                     rw [hav] at HAny
                     have HX := Lib.hid (show ownN rg fn = false by unfold ownN; rw [HVL.out, show fn.rets.all (fun s => VL.any (isWord s)) = false by rw [hds.out, List.all_append, List.all_cons, hav, Bool.false_and, Bool.and_false], Bool.and_false])
                     clear hav
                     go_wp2_with fail
                     refine HAny.out.mono ?_
                     rintro z w2 ⟨rfl, hB2⟩
                     have HY := Lib.hid (HNo.out w2 HX.out (HU.out _ (HM1.out.2.trans (hB2.mono HM1.out.2.size))))
                     clear hB2
                     go_wp2_with (go_at_call 79; refine (must_no 8 _).mono ?_; rintro e w' ⟨rfl, rfl⟩; unfold Pn)
                     exact ⟨rfl, HY.out⟩
                   | true =>
                     rw [hav] at HAny
                     have HE2 := Lib.hid (show (ds ++ [y]).all (fun s => VL.any (isWord s)) = true by rw [List.all_append, hE.out.2, List.all_cons, hav]; rfl)
                     clear hav
                     go_wp2_with fail
                     refine HAny.out.mono ?_
                     rintro z w2 ⟨rfl, hB2⟩
                     have HM2 := Lib.hid (And.intro (HM1.out.1.later hB2) (HM1.out.2.trans (hB2.mono HM1.out.2.size)))
                     have HQ2 := Lib.hid (show (VL.length = 0 ∨ w2.heap[b5]? = w4.heap[b5]?) ∧ w4.heap.size ≤ w2.heap.size from ⟨by
                       rcases HQ1.out.1 with h | h
                       · exact .inl h
                       · rcases HA5.out.2 with h5 | h5
                         · exact .inr ((hB2.block _ (by have := HQ1.out.2; omega)).trans h)
                         · exact .inl h5, Nat.le_trans HQ1.out.2 hB2.size⟩)
                     clear hB2
                     go_wp2_with (go_at_call 79; refine (must_yes 8 _).mono ?_; rintro e w' ⟨rfl, hw⟩; subst hw)
                     go_roundw
                     case rel => exact ⟨ds ++ [y], r, by rw [List.length_append]; go_num, by simp; omega, Lib.hid (by rw [hds.out]; simp), Lib.hid (by rw [List.length_append, List.length_singleton, show o6 + (ds.length + 1) * 1 = o6 + ds.length * 1 + 1 by omega]; exact HR.out), Lib.hid (by rw [HEq.out]; exact HM2.out), HQ2, Lib.hid ⟨HE1.out, HE2.out⟩⟩
                     case measure => simp [intOf]; omega

end Go.Proofs.YtihmibggonffdaaGreat
