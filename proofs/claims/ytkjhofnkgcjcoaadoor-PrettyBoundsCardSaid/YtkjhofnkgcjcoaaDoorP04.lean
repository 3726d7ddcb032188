/- A map whose keys are ints and whose values are structs of a text, made by a call out of a literal: what a look-up in it comes to. Over any program. -/
import Derived.Maps.OwnSet
import Derived.Test.YtkjhofnkgcjcoaaDoorP00
import Derived.Test.YtkjhofnkgcjcoaaDoorP02
import Derived.Test.YtkjhofnkgcjcoaaDoorP03
import Derived.Test.YtkjhofnkgcjcoaaDoorShelf
import Derived.Lib.AppendStr
import Derived.Lib.OthersKept
import Derived.Lib.OwnKind
import Derived.Lib.BufferKept
import Derived.Lib.AppendIntMem
import Derived.Lib.ItoaNum
import Derived.Laws.IdiomStrings
import Derived.Deep.RegionLaw
import Derived.Lib.ItoaMem
import Derived.Lib.ItoaLen
import Derived.Lib.ItoaWalk
import Derived.Lib.Walk
import Derived.BigCall
import Derived.BigGuard
import Derived.Lib.Slices
namespace Go.Proofs.YtkjhofnkgcjcoaaDoor
open Go Go.RowKit

/-- Entries at these keys, one function each, in this order. -/
def fes : Nat → List (Int × List UInt8) → List MapEntry
  | _, [] => []
  | i, x :: r => { key := .int .i64 x.1, val := .agg #[.string (str x.2)], born := i } :: fes (i + 1) r
/-- The function at a key. -/
def fat : List (Int × List UInt8) → Int → Option (List UInt8)
  | [], _ => none
  | p :: r, x => if x = p.1 then some p.2 else fat r x
def fval (l : List (Int × List UInt8)) (x : Int) : Value := match fat l x with | some f => .agg #[.string (str f)] | none => .agg #[.string ⟨#[]⟩]
/-- The map's block. -/
def fmap (l : List (Int × List UInt8)) : Obj := .map (fes 0 l).toArray l.length

theorem fes_append (i : Nat) (l : List (Int × List UInt8)) (x : Int × List UInt8) : fes i (l ++ [x]) = fes i l ++ [{ key := .int .i64 x.1, val := .agg #[.string (str x.2)], born := i + l.length }] := by
  induction l generalizing i with
  | nil => simp [fes]
  | cons y r ih => simp [fes, ih, Nat.add_comm, Nat.add_left_comm]

theorem find_fes (l : List (Int × List UInt8)) (x : Int) (i j : Nat) : ∃ n, Instr.findNow (.int .i64) (.int .i64 x) (fes i l) j = some ((fat l x).map fun f => (n, .agg #[.string (str f)])) := by
  induction l generalizing i j with
  | nil => exact ⟨0, rfl⟩
  | cons y r ih =>
    by_cases h : x = y.1
    · refine ⟨j, ?_⟩
      simp [fes, Instr.findNow, Instr.sameNow, fat, h]
    · obtain ⟨n, hn⟩ := ih (i + 1) (j + 1)
      refine ⟨n, ?_⟩
      have hb : (x == y.1) = false := by simpa using h
      simp [fes, Instr.findNow, Instr.sameNow, fat, h, hb, hn]

theorem set_push_last {α : Type} (a : Array α) (x y : α) : (a.push x).setIfInBounds a.size y = a.push y := by
  obtain ⟨l⟩ := a
  simp

section
variable {P : Program} {t k e : TypeId}
theorem run_look_fmap (ht : P.underlying t = some (.map k e)) (hk : P.underlying k = some (.int .i64)) (hz : ∀ w, (zeroValue e).run P w = .ok (.agg #[.string ⟨#[]⟩]) w) (l : List (Int × List UInt8)) {w : World} {b : Nat} (hb : w.heap[b]? = some (fmap l)) (x : Int) :
    (Instr.lookup t (.map (some b)) (.int .i64 x) true).run P w = .ok (.tuple #[fval l x, .bool (fat l x).isSome]) w := by
  obtain ⟨n, hn⟩ := find_fes l x 0 0
  have hb' : w.heap[b]? = some (.map (fes 0 l).toArray l.length) := hb
  have hf := MapKept.run_findKey (P := P) (w := w) hk hn
  unfold fval
  cases h : fat l x with
  | none => simp [h] at hf; simp [Instr.lookup, run_underlying ht, MapKept.run_getObj_map hb', MapKept.run_checkKey hk (k := .int .i64 x) rfl, hf, hz, Result.andThen]
  | some f => simp [h] at hf; simp [Instr.lookup, run_underlying ht, MapKept.run_getObj_map hb', MapKept.run_checkKey hk (k := .int .i64 x) rfl, hf, Result.andThen]
theorem run_look1_fmap (ht : P.underlying t = some (.map k e)) (hk : P.underlying k = some (.int .i64)) (hz : ∀ w, (zeroValue e).run P w = .ok (.agg #[.string ⟨#[]⟩]) w) (l : List (Int × List UInt8)) {w : World} {b : Nat} (hb : w.heap[b]? = some (fmap l)) (x : Int) :
    (Instr.lookup t (.map (some b)) (.int .i64 x) false).run P w = .ok (fval l x) w := by
  obtain ⟨n, hn⟩ := find_fes l x 0 0
  have hb' : w.heap[b]? = some (.map (fes 0 l).toArray l.length) := hb
  have hf := MapKept.run_findKey (P := P) (w := w) hk hn
  unfold fval
  cases h : fat l x with
  | none => simp [h] at hf; simp [Instr.lookup, run_underlying ht, MapKept.run_getObj_map hb', MapKept.run_checkKey hk (k := .int .i64 x) rfl, hf, hz, Result.andThen]
  | some f => simp [h] at hf; simp [Instr.lookup, run_underlying ht, MapKept.run_getObj_map hb', MapKept.run_checkKey hk (k := .int .i64 x) rfl, hf, Result.andThen]
/-- a literal's next entry -/
theorem run_put_fmap (ht : P.underlying t = some (.map k e)) (hk : P.underlying k = some (.int .i64)) (l : List (Int × List UInt8)) (w : World) (x : Int) (f : List UInt8) (hx : fat l x = none) :
    (Instr.mapUpdate t (.map (some w.heap.size)) (.int .i64 x) (.agg #[.string (str f)])).run P (w.alloc (fmap l)) = .ok () (w.alloc (fmap (l ++ [(x, f)]))) := by
  obtain ⟨n, hn⟩ := find_fes l x 0 0
  have hb : (w.alloc (fmap l)).heap[w.heap.size]? = some (.map (fes 0 l).toArray l.length) := (MapKept.heap_alloc w _).1
  have hf := MapKept.run_findKey (P := P) (w := w.alloc (fmap l)) hk hn
  simp [hx] at hf
  have e1 : ({ w.alloc (fmap l) with heap := (w.alloc (fmap l)).heap.setIfInBounds w.heap.size (fmap (l ++ [(x, f)])) } : World) = w.alloc (fmap (l ++ [(x, f)])) := by
    show ({ w with heap := (w.heap.push (fmap l)).setIfInBounds w.heap.size (fmap (l ++ [(x, f)])) } : World) = { w with heap := w.heap.push (fmap (l ++ [(x, f)])) }
    rw [set_push_last]
  simp [Instr.mapUpdate, run_underlying ht, MapKept.run_getObj_map hb, MapKept.run_checkKey hk (k := .int .i64 x) rfl, hf, MapKept.run_setObj_map _ hb, Result.andThen]
  rw [← e1]
  simp [fmap, fes_append]
end
/-- .. as a table's first n entries -/
def ft (T : List (Int × List UInt8)) (n : Nat) : Obj := fmap (T.take n)
theorem run_put_ft {P : Program} {t k e : TypeId} (ht : P.underlying t = some (.map k e)) (hk : P.underlying k = some (.int .i64)) (T : List (Int × List UInt8)) (n : Nat) (x : Int) (f : List UInt8) (hT : T[n]? = some (x, f)) (hx : fat (T.take n) x = none) (w : World) :
    (Instr.mapUpdate t (.map (some w.heap.size)) (.int .i64 x) (.agg #[.string (str f)])).run P (w.alloc (ft T n)) = .ok () (w.alloc (ft T (n + 1))) := by
  have h := run_put_fmap ht hk (T.take n) w x f hx
  have e1 : T.take (n + 1) = T.take n ++ [(x, f)] := by rw [List.take_add_one, hT]; rfl
  rw [← e1] at h
  exact h
theorem run_put_ft0 {P : Program} {t k e : TypeId} (ht : P.underlying t = some (.map k e)) (hk : P.underlying k = some (.int .i64)) (T : List (Int × List UInt8)) (x : Int) (f : List UInt8) (hT : T[0]? = some (x, f)) (w : World) :
    (Instr.mapUpdate t (.map (some w.heap.size)) (.int .i64 x) (.agg #[.string (str f)])).run P (w.alloc (.map #[] 0)) = .ok () (w.alloc (ft T 1)) :=
  run_put_ft ht hk T 0 x f hT (by rfl) w
/-- What a call hands back that makes such a map: it lies in a new block. -/
def MapAt (T : List (Int × List UInt8)) (w : World) (e : Ending) (w' : World) : Prop := ∃ b, e = .returned (.map (some b)) ∧ w'.heap[b]? = some (fmap T) ∧ w.heap.size ≤ b ∧ Below w.heap.size w w'
theorem mapAt_new (T : List (Int × List UInt8)) (n : Nat) (hn : n = T.length) (w : World) : MapAt T w (.returned (.map (some w.heap.size))) (w.alloc (ft T n)) := by
  refine ⟨_, rfl, ?_, Nat.le_refl _, (Below.refl _ _).alloc (Nat.le_refl _) _⟩
  rw [(MapKept.heap_alloc w _).1, ft, hn, List.take_length]
/-- the signs -/
def signT : List (Int × List UInt8) := [(6, [43]), (7, [45]), (8, [42]), (9, [38]), (10, [124]), (11, [94]), (12, [60, 60]), (13, [62, 62]), (14, [62, 62, 62]), (15, [60, 60, 60]), (16, [62, 62, 62, 62]), (17, [61, 61]), (18, [33, 61]), (19, [60]), (20, [60, 61])]
def signOf (op : Int) : List UInt8 := match fat signT op with | some f => f | none => []
/-- What a call hands back that makes the map: it lies in a new block. -/
def SMapAt (w : World) (e : Ending) (w' : World) : Prop := ∃ b, e = .returned (.map (some b)) ∧ w'.heap[b]? = some (fmap signT) ∧ w.heap.size ≤ b ∧ Below w.heap.size w w'
theorem smapAt_new (w : World) : SMapAt w (.returned (.map (some w.heap.size))) (w.alloc (ft signT 15)) := by
  refine ⟨_, rfl, ?_, Nat.le_refl _, (Below.refl _ _).alloc (Nat.le_refl _) _⟩
  rw [(MapKept.heap_alloc w _).1, ft, List.take_of_length_le (by decide)]
set_option maxRecDepth 100000 in
set_option maxHeartbeats 3200000 in
theorem signs_any (w : World) : Calls Tryd.prog 37 #[] w (SMapAt w) := by
  have hmm := @run_makeMap Tryd.prog
  have i0 : ∀ wx : World, (Instr.mapUpdate 56 (.map (some wx.heap.size)) (.int .i64 6) (.agg #[.string ⟨#[43]⟩])).run Tryd.prog (wx.alloc (.map #[] 0)) = .ok () (wx.alloc (ft signT 1)) := fun wx => run_put_ft Tryd.underlying56 Tryd.underlying25 signT 0 6 [43] rfl rfl wx
  have i1 : ∀ wx : World, (Instr.mapUpdate 56 (.map (some wx.heap.size)) (.int .i64 7) (.agg #[.string ⟨#[45]⟩])).run Tryd.prog (wx.alloc (ft signT 1)) = .ok () (wx.alloc (ft signT 2)) := fun wx => run_put_ft Tryd.underlying56 Tryd.underlying25 signT 1 7 [45] rfl rfl wx
  have i2 : ∀ wx : World, (Instr.mapUpdate 56 (.map (some wx.heap.size)) (.int .i64 8) (.agg #[.string ⟨#[42]⟩])).run Tryd.prog (wx.alloc (ft signT 2)) = .ok () (wx.alloc (ft signT 3)) := fun wx => run_put_ft Tryd.underlying56 Tryd.underlying25 signT 2 8 [42] rfl rfl wx
  have i3 : ∀ wx : World, (Instr.mapUpdate 56 (.map (some wx.heap.size)) (.int .i64 9) (.agg #[.string ⟨#[38]⟩])).run Tryd.prog (wx.alloc (ft signT 3)) = .ok () (wx.alloc (ft signT 4)) := fun wx => run_put_ft Tryd.underlying56 Tryd.underlying25 signT 3 9 [38] rfl rfl wx
  have i4 : ∀ wx : World, (Instr.mapUpdate 56 (.map (some wx.heap.size)) (.int .i64 10) (.agg #[.string ⟨#[124]⟩])).run Tryd.prog (wx.alloc (ft signT 4)) = .ok () (wx.alloc (ft signT 5)) := fun wx => run_put_ft Tryd.underlying56 Tryd.underlying25 signT 4 10 [124] rfl rfl wx
  have i5 : ∀ wx : World, (Instr.mapUpdate 56 (.map (some wx.heap.size)) (.int .i64 11) (.agg #[.string ⟨#[94]⟩])).run Tryd.prog (wx.alloc (ft signT 5)) = .ok () (wx.alloc (ft signT 6)) := fun wx => run_put_ft Tryd.underlying56 Tryd.underlying25 signT 5 11 [94] rfl rfl wx
  have i6 : ∀ wx : World, (Instr.mapUpdate 56 (.map (some wx.heap.size)) (.int .i64 12) (.agg #[.string ⟨#[60, 60]⟩])).run Tryd.prog (wx.alloc (ft signT 6)) = .ok () (wx.alloc (ft signT 7)) := fun wx => run_put_ft Tryd.underlying56 Tryd.underlying25 signT 6 12 [60, 60] rfl rfl wx
  have i7 : ∀ wx : World, (Instr.mapUpdate 56 (.map (some wx.heap.size)) (.int .i64 13) (.agg #[.string ⟨#[62, 62]⟩])).run Tryd.prog (wx.alloc (ft signT 7)) = .ok () (wx.alloc (ft signT 8)) := fun wx => run_put_ft Tryd.underlying56 Tryd.underlying25 signT 7 13 [62, 62] rfl rfl wx
  have i8 : ∀ wx : World, (Instr.mapUpdate 56 (.map (some wx.heap.size)) (.int .i64 14) (.agg #[.string ⟨#[62, 62, 62]⟩])).run Tryd.prog (wx.alloc (ft signT 8)) = .ok () (wx.alloc (ft signT 9)) := fun wx => run_put_ft Tryd.underlying56 Tryd.underlying25 signT 8 14 [62, 62, 62] rfl rfl wx
  have i9 : ∀ wx : World, (Instr.mapUpdate 56 (.map (some wx.heap.size)) (.int .i64 15) (.agg #[.string ⟨#[60, 60, 60]⟩])).run Tryd.prog (wx.alloc (ft signT 9)) = .ok () (wx.alloc (ft signT 10)) := fun wx => run_put_ft Tryd.underlying56 Tryd.underlying25 signT 9 15 [60, 60, 60] rfl rfl wx
  have i10 : ∀ wx : World, (Instr.mapUpdate 56 (.map (some wx.heap.size)) (.int .i64 16) (.agg #[.string ⟨#[62, 62, 62, 62]⟩])).run Tryd.prog (wx.alloc (ft signT 10)) = .ok () (wx.alloc (ft signT 11)) := fun wx => run_put_ft Tryd.underlying56 Tryd.underlying25 signT 10 16 [62, 62, 62, 62] rfl rfl wx
  have i11 : ∀ wx : World, (Instr.mapUpdate 56 (.map (some wx.heap.size)) (.int .i64 17) (.agg #[.string ⟨#[61, 61]⟩])).run Tryd.prog (wx.alloc (ft signT 11)) = .ok () (wx.alloc (ft signT 12)) := fun wx => run_put_ft Tryd.underlying56 Tryd.underlying25 signT 11 17 [61, 61] rfl rfl wx
  have i12 : ∀ wx : World, (Instr.mapUpdate 56 (.map (some wx.heap.size)) (.int .i64 18) (.agg #[.string ⟨#[33, 61]⟩])).run Tryd.prog (wx.alloc (ft signT 12)) = .ok () (wx.alloc (ft signT 13)) := fun wx => run_put_ft Tryd.underlying56 Tryd.underlying25 signT 12 18 [33, 61] rfl rfl wx
  have i13 : ∀ wx : World, (Instr.mapUpdate 56 (.map (some wx.heap.size)) (.int .i64 19) (.agg #[.string ⟨#[60]⟩])).run Tryd.prog (wx.alloc (ft signT 13)) = .ok () (wx.alloc (ft signT 14)) := fun wx => run_put_ft Tryd.underlying56 Tryd.underlying25 signT 13 19 [60] rfl rfl wx
  have i14 : ∀ wx : World, (Instr.mapUpdate 56 (.map (some wx.heap.size)) (.int .i64 20) (.agg #[.string ⟨#[60, 61]⟩])).run Tryd.prog (wx.alloc (ft signT 14)) = .ok () (wx.alloc (ft signT 15)) := fun wx => run_put_ft Tryd.underlying56 Tryd.underlying25 signT 14 20 [60, 61] rfl rfl wx
  go_enter Tryd.func37, Tryd.ntmps37
  go_wp2
  go_ret
  exact smapAt_new w
end Go.Proofs.YtkjhofnkgcjcoaaDoor
/- Texts of expressions; rows of bytes that grow. -/
namespace Go.Proofs.YtkjhofnkgcjcoaaDoor
open Go.RowKit

def textOf (op : Int) (x : Nat) (nm : List UInt8) (ts : List (List UInt8)) : List UInt8 :=
  if op = 1 then Lib.decDigits x else if op = 2 then nm else if op = 3 then nm ++ [91] ++ ts.getD 0 [] ++ [93] else if op = 4 then [126] ++ ts.getD 0 [] else if op = 5 then [45] ++ ts.getD 0 []
  else if op = 21 then [112, 105, 99, 107] ++ [40] ++ Lib.join ts [44, 32] ++ [41] else [40] ++ ts.getD 0 [] ++ [32] ++ signOf op ++ [32] ++ ts.getD 1 [] ++ [41]
mutual
def Ex.text : Ex → List UInt8
  | .mk op x nm a => textOf op x nm a.texts
def Exs.texts : Exs → List (List UInt8)
  | .nil => []
  | .cons x r => x.text :: r.texts
end
theorem info_u8 : (Tryd.prog.info? 5).map (fun i => (i.zero, i.size, i.bytes)) = some (some (.int .u8 0), 1, 1) := by kernel_rfl
theorem info_parts' : ∃ i, Tryd.prog.info? 5 = some i ∧ i.zero = some (.int .u8 0) ∧ i.size = 1 ∧ i.bytes = 1 := by
  obtain ⟨i0, hi, hz0, hz1, hz2⟩ := info_parts info_u8
  exact ⟨i0, hi, hz0, hz1, hz2⟩
theorem conv_nil (w : World) : (convert 64 9 (.slice none 0 0)).run Tryd.prog w = .ok (.string (str [])) w := by kernel_rfl
/-- a row of bytes that the call has made -/
def BRow (B : Nat) (w : World) (l : List UInt8) (v : Value) : Prop := OwnT w B 5 v l.length (Lib.byteCells l)
theorem BRow.nil (B : Nat) (w : World) : BRow B w [] (.slice none 0 0) := ⟨rfl, .inl ⟨rfl, rfl⟩⟩
theorem BRow.base {B : Nat} {w : World} {l : List UInt8} {v : Value} (h : BRow B w l v) : ∀ k, v.ownBlock = some k → B ≤ k := by
  intro k hk
  rcases h.2 with ⟨rfl, _⟩ | ⟨g, cap, cur, fz, rfl, hg, _⟩
  · cases hk
  · have : g = k := by simpa [Value.ownBlock] using hk
    omega
theorem BRow.later {B : Nat} {w w' : World} {l : List UInt8} {v : Value} (h : BRow B w l v) (hB : Below w.heap.size w w') : BRow B w' l v := by
  obtain ⟨h2, h3⟩ := h
  refine ⟨h2, ?_⟩
  rcases h3 with h3 | ⟨g, cap, cur, fz, q1, q2, q3, q4⟩
  · exact .inl h3
  · exact .inr ⟨g, cap, cur, fz, q1, q2, (hB.block g (lt_of_block q3)).trans q3, q4⟩
theorem BRow.conv {B : Nat} {w : World} {l : List UInt8} {v : Value} (h : BRow B w l v) : (convert 64 9 v).run Tryd.prog w = .ok (.string (str l)) w := by
  obtain ⟨hl, ⟨rfl, h0⟩ | ⟨g, cap, cur, fz, rfl, hg, hh, hfr, hn, hcap, hcs, ht⟩⟩ := h
  · have := List.length_eq_zero_iff.1 h0; subst this; exact conv_nil w
  · exact run_convert_bytes_back (P := Tryd.prog) w 64 9 5 ⟨g, 0, none⟩ cap l Tryd.underlying64 Tryd.underlying5 Tryd.underlying9 (fun j hj => by
      have e : (⟨g, 0, none⟩ : Addr).add j = ⟨g, j, none⟩ := by
        rcases j with _ | j
        · rfl
        · simp [Addr.add]
      have h1 : (Lib.byteCells l)[j]? = some (.int .u8 l[j].toNat) := by rw [Lib.byteCells, List.getElem?_map, List.getElem?_eq_getElem hj]; rfl
      rw [← ht, List.getElem?_take_of_lt (by omega), Array.getElem?_toList] at h1
      rw [e]; simp [World.cell?, hh, h1])
/-- what a maker of bytes leaves as it was -/
def Fr (B : Nat) (w w' : World) : Prop := Below B w w' ∧ Lib.OthersKept 5 none w w'
theorem Fr.refl (B : Nat) (w : World) : Fr B w w := ⟨Below.refl _ _, Lib.OthersKept.refl _ _ _⟩
theorem Fr.trans {B : Nat} {a b c : World} (h : Fr B a b) (k : Fr B b c) : Fr B a c := ⟨h.1.trans k.1, h.2.trans k.2⟩
theorem Fr.drew {B : Nat} {a b : World} (h : Fr B a b) : Fr B a b.drew := ⟨h.1.drew, h.2.drew⟩
theorem Fr.drewN {B : Nat} {a b : World} (h : Fr B a b) (n : Nat) : Fr B a (b.drewN n) := ⟨below_drewN h.1 n, h.2.drewN n⟩
theorem Fr.alloc {B : Nat} {a b : World} (h : Fr B a b) (hb : B ≤ b.heap.size) (o : Obj) : Fr B a (b.alloc o) := ⟨h.1.alloc hb o, h.2.alloc o⟩
theorem Fr.of_below {B : Nat} {w w' : World} (h : Below w.heap.size w w') (hb : B ≤ w.heap.size) : Fr B w w' := ⟨h.mono hb, (Lib.OthersKept.refl _ _ w).below h⟩
/-- a cell of another make stays -/
theorem Fr.cell {B : Nat} {w w' : World} (h : Fr B w w') {g : Nat} {cs : Array Value} {t : TypeId} {fz : Nat × Nat} (hg : w.heap[g]? = some (.cells cs t fz)) (ht : t ≠ 5) : w'.heap[g]? = some (.cells cs t fz) :=
  h.2 g _ hg (by simp) (fun c fz' e => ht (by injection e))
theorem brow_app {B : Nat} {w w1 : World} {v v' : Value} {bs : List UInt8} {c : UInt8} {o : Obj} (h : BRow B w bs v) (hB : B ≤ w.heap.size) (hown : OwnT w1 B 5 v' (bs.length + 1) (Lib.byteCells bs ++ [.int .u8 (c.toNat : Int)])) (hg : (w.alloc o).grownBy w1 v.ownBlock) :
    BRow B w1 (bs ++ [c]) v' ∧ Fr B w w1 := by
  refine ⟨?_, ?_, ?_⟩
  · unfold BRow; rw [List.length_append]; simpa [Lib.byteCells] using hown
  · exact ((Below.refl B w).alloc hB o).grown hg (by simp; omega) (fun k hk => h.base k hk)
  · exact ((Lib.OthersKept.refl _ _ w).alloc o).grown hg (fun k hk => by
      obtain ⟨c, fz, hc⟩ := OwnT.kind h k hk
      exact ⟨c, fz, (Below.heap_alloc _ _ _ (lt_of_block hc)).trans hc⟩)
theorem brow_apps {B : Nat} {w w1 : World} {v v' : Value} {bs : List UInt8} {s : ByteArray} (h : BRow B w bs v) (hB : B ≤ w.heap.size) (hown : OwnT w1 B 5 v' (bs.length + s.size) (Lib.byteCells bs ++ Lib.strCells s)) (hg : w.grownBy w1 v.ownBlock) :
    BRow B w1 (bs ++ s.data.toList) v' ∧ Fr B w w1 := by
  refine ⟨?_, ?_, ?_⟩
  · unfold BRow; rw [List.length_append, ← size_len]; simpa [Lib.byteCells, Lib.strCells] using hown
  · exact (Below.refl B w).grown hg hB (fun k hk => h.base k hk)
  · exact (Lib.OthersKept.refl _ _ w).grown hg (fun k hk => OwnT.kind h k hk)
/-- what the makers of texts lean on -/
structure TEnv (B m : Nat) (w : World) : Prop where
  mp : w.heap[m]? = some (fmap signT)
  mB : m < B
  gl : Lib.TabBelow Tryd.prog B w "internal/strconv.uint64pow10" .u64 Lib.pow10Tab
  bw : B ≤ w.heap.size
theorem TEnv.later {B m : Nat} {w w' : World} (h : TEnv B m w) (hB : Below B w w') : TEnv B m w' :=
  ⟨(hB.block m h.mB).trans h.mp, h.mB, fun w2 h2 => h.gl w2 (hB.trans h2), Nat.le_trans h.bw hB.size⟩

set_option maxHeartbeats 12800000 in
set_option maxRecDepth 100000 in
theorem innerAppendUint_any (B u : Nat) (bs : List UInt8) (v : Value) (m : Nat) (w : World) (hu64 : u < 18446744073709551616) (h : BRow B w bs v) (he : TEnv B m w) (hl : bs.length ≤ 1000000000) :
    Calls Tryd.prog 81 #[v, .int .u64 u, .int .i64 10] w fun e w' => (∃ v', e = .returned v' ∧ BRow B w' (bs ++ Lib.decDigits u) v') ∧ Fr B w w' := by
  obtain ⟨i0, hi, hz0, hz1, hz2⟩ := info_parts'
  have htab := he.gl.here
  have hbw := he.bw
  have HH := Lib.hid h
  by_cases hu : u < 100
  · have hd : (Lib.decDigits u).length ≤ 20 := by rw [Lib.decDigits_length]; exact Lib.nDigits_le20 u hu64
    have hsz := size_str (Lib.decDigits u)
    have HS := Lib.hid (Tryd.internal_strconv_small u hu)
    have HD := Lib.hid hd
    have hown_ := h
    unfold BRow at hown_
    obtain ⟨DS, hDS⟩ : ∃ DS, DS = Lib.decDigits u := ⟨_, rfl⟩
    rw [← hDS] at HS HD hsz ⊢
    clear h he htab hd hDS
    go_enter Tryd.func81, Tryd.ntmps81
    go_wp2_with (first
      | (go_at_call 88; refine (HS.out _).mono ?_; rintro e w' ⟨rfl, rfl⟩)
      | (at_builtin; refine wpList_append_str_T _ rfl _ _ 64 9 rfl B 5 i0 Tryd.underlying64 Tryd.underlying9 hi hz0 hz1 hz2 _ _ _ rfl hown_ (str DS) rfl ?y1c ?y1d ?y1e ?_))
    case y1c => have := HD.out; unfold maxLen; omega
    case y1d => have := HD.out; omega
    case y1e => exact hbw
    intro v2 w2 hown hgrow
    have hap := brow_apps HH.out hbw hown hgrow
    have HR := Lib.hid hap.1
    have HF := Lib.hid hap.2
    clear hown hgrow hap hown_
    rw [str_data] at HR
    go_wp2_with fail
    go_ret
    exact ⟨⟨_, rfl, HR.out⟩, HF.out⟩
  · have hu1 : 1 ≤ u := by omega
    have hnd20 : Lib.nDigits u ≤ 20 := by have := Lib.numDigits_eq u hu1 hu64; split at this <;> omega
    have hal : Tryd.prog.arrayLen 140 = 24 := by simp [Program.arrayLen, Tryd.underlying140]
    have hsl : ∀ W, (Instr.sliceAt 140 (.pointer (some ⟨w.heap.size, 0, none⟩)) none (some (.int .i64 (Lib.nDigits u : Int))) none).run Tryd.prog W = .ok (.slice (some ⟨w.heap.size, 0, none⟩) (Lib.nDigits u) 24) W := fun W => by
      rw [run_sliceAt_array_h W 140 ⟨w.heap.size, 0, none⟩ (by simp [Program.arrayLen, Program.elem, Tryd.underlying140]) .i64 (Lib.nDigits u : Int) (by omega) (by rw [hal]; omega)]
      go_simp
    have hH0 := Lib.holds_zero0 w 140 (Lib.nDigits u) (by omega)
    have hfmt := Tryd.internal_strconv_formatBase10 w.heap.size 0 24 u (Array.replicate (Lib.nDigits u) 0) (w.alloc (.cells Lib.zeros24 140)) hH0 (by rw [Array.size_replicate]; exact Lib.lt_pow_nDigits u) hu64 (by rw [Array.size_replicate]; omega)
    rw [Array.size_replicate] at hfmt
    have HH0 := Lib.hid hH0
    have iu : (100 : Int) ≤ (u : Int) := by omega
    clear hH0 hal
    go_enter Tryd.func81, Tryd.ntmps81
    go_wp2_with (first
      | (go_at_call 89; refine (Tryd.internal_strconv_numDigits u hu1 hu64 _ (Lib.tabIs_alloc htab _)).mono ?_; rintro e w' ⟨rfl, rfl⟩))
    refine hfmt.mono ?_
    rintro e w' ⟨rfl, k, v', dk, rfl, hF⟩
    obtain ⟨os, eo⟩ := Lib.fin_at w (.cells Lib.zeros24 140) dk k 0
    have hnx2 : Below w.heap.size w ((Go.Sort.putRow (fun (b : UInt8) => Value.int .u8 (b.toNat : Int)) (w.alloc (.cells Lib.zeros24 140)) w.heap.size 0 dk).drewN k) := by rw [eo]; exact Lib.below_grow w.heap.size w (Nat.le_refl _) k os
    have hcells : ∀ j u', (Lib.byteCells (Lib.decDigits u))[j]? = some u' → ((Go.Sort.putRow (fun (b : UInt8) => Value.int .u8 (b.toNat : Int)) (w.alloc (.cells Lib.zeros24 140)) w.heap.size 0 dk).drewN k).cell? ((⟨w.heap.size, 0, none⟩ : Addr).add j) = some u' := fun j u' hj => by
      have hj' : j < (Lib.decDigits u).length := by
        have := (List.getElem?_eq_some_iff.1 hj).1
        simpa [Lib.byteCells] using this
      rw [Lib.byteCells, List.getElem?_map, List.getElem?_eq_getElem hj'] at hj
      simp only [Option.map_some, Option.some.injEq] at hj
      rw [← hj, Lib.row_is_numeral hF j hj', Lib.add_plain, World.cell?_drewN]
      exact Go.Sort.cell?_putRow (fun (b : UInt8) => Value.int .u8 (b.toNat : Int)) _ w.heap.size 0 _ dk HH0.out (by rw [hF.size, Array.size_replicate]) j (by rw [hF.size]; rw [Lib.decDigits_length] at hj'; exact hj')
    have HB := Lib.hid hnx2
    have HC := Lib.hid hcells
    generalize (Go.Sort.putRow (fun (b : UInt8) => Value.int .u8 (b.toNat : Int)) (w.alloc (.cells Lib.zeros24 140)) w.heap.size 0 dk).drewN k = W2 at HB HC ⊢
    have HR2 := Lib.hid (HH.out.later HB.out)
    have hown_ := HR2.out
    unfold BRow at hown_
    have hB2 : B ≤ W2.heap.size := Nat.le_trans hbw HB.out.size
    have HN := Lib.hid (show (Lib.byteCells (Lib.decDigits u)).length = Lib.nDigits u by rw [← Lib.decDigits_length]; simp [Lib.byteCells])
    clear eo HH0 hfmt hF hnx2 hcells h he
    go_wp2_with (at_builtin; refine wpList_append_T _ rfl _ _ 64 rfl B 5 i0 Tryd.underlying64 hi hz0 hz1 hz2 _ _ _ rfl hown_ ⟨w.heap.size, 0, none⟩ (Lib.nDigits u) 24 (Lib.byteCells (Lib.decDigits u)) rfl HN.out HC.out ?y2b ?y2c ?y2d ?y2e ?_)
    case y2b => intro x hx; simp only [Lib.byteCells, List.mem_map] at hx; obtain ⟨b, _, rfl⟩ := hx; rfl
    case y2c => unfold maxLen; omega
    case y2d => omega
    case y2e => exact hB2
    intro v3 w3 hown hgrow
    have HR3 : Hid (BRow B w3 (bs ++ Lib.decDigits u) v3) := Lib.hid (by
      unfold BRow
      rw [List.length_append, Lib.decDigits_length]
      simpa [Lib.byteCells] using hown)
    have HF3 : Hid (Fr B w w3) := Lib.hid ((Fr.of_below HB.out hbw).trans ⟨(Below.refl B W2).grown hgrow hB2 (fun k hk => HR2.out.base k hk), (Lib.OthersKept.refl _ _ W2).grown hgrow (fun k hk => OwnT.kind HR2.out k hk)⟩)
    clear hown hgrow hown_
    go_wp2_with fail
    go_ret
    exact ⟨⟨_, rfl, HR3.out⟩, HF3.out⟩
set_option maxHeartbeats 1600000 in
theorem appendUint_any (B u : Nat) (bs : List UInt8) (v : Value) (m : Nat) (w : World) (hu : u < 18446744073709551616) (h : BRow B w bs v) (he : TEnv B m w) (hl : bs.length ≤ 1000000000) :
    Calls Tryd.prog 59 #[v, .int .u64 u, .int .i64 10] w fun e w' => (∃ v', e = .returned v' ∧ BRow B w' (bs ++ Lib.decDigits u) v') ∧ Fr B w w' := by
  have HC := Lib.hid (innerAppendUint_any B u bs v m w hu h he hl)
  clear h he
  go_enter Tryd.func59, Tryd.ntmps59
  go_wp2_with fail
  refine HC.out.mono ?_
  rintro e w2 ⟨⟨v', rfl, hR⟩, hF⟩
  have HR := Lib.hid hR
  have HF := Lib.hid hF
  clear hR hF
  go_wp2_with fail
  go_ret
  exact ⟨⟨v', rfl, HR.out⟩, HF.out⟩
end Go.Proofs.YtkjhofnkgcjcoaaDoor
