/- A map whose keys are ints and whose values are structs of a text, made by a call out of a literal: what a look-up in it comes to. Over any program. -/
import Derived.Maps.OwnSet
import Derived.Test.YtlhbledakddbbaaGreatDoorA1
namespace Go.Proofs.YtlhbledakddbbaaGreatDoor
open Go Go.RowKit

/-- Entries at these keys, one function each, in this order. -/
def fes : Nat → List (Int × List UInt8) → List MapEntry
  | _, [] => []
  | i, x :: r => { key := .int .i64 x.1, val := .agg #[.string (str x.2)], born := i } :: fes (i + 1) r
/-- The function at a key. -/
def fat : List (Int × List UInt8) → Int → Option (List UInt8)
  | [], _ => none
  | p :: r, x => if x = p.1 then some p.2 else fat r x
def fval (l : List (Int × List UInt8)) (x : Int) : Value := match fat l x with | some f => .agg #[.string (str f)] | none => .agg #[.string ⟨#[]⟩]
/-- The map's block. -/
def fmap (l : List (Int × List UInt8)) : Obj := .map (fes 0 l).toArray l.length

theorem fes_append (i : Nat) (l : List (Int × List UInt8)) (x : Int × List UInt8) : fes i (l ++ [x]) = fes i l ++ [{ key := .int .i64 x.1, val := .agg #[.string (str x.2)], born := i + l.length }] := by
  induction l generalizing i with
  | nil => simp [fes]
  | cons y r ih => simp [fes, ih, Nat.add_comm, Nat.add_left_comm]

theorem find_fes (l : List (Int × List UInt8)) (x : Int) (i j : Nat) : ∃ n, Instr.findNow (.int .i64) (.int .i64 x) (fes i l) j = some ((fat l x).map fun f => (n, .agg #[.string (str f)])) := by
  induction l generalizing i j with
  | nil => exact ⟨0, rfl⟩
  | cons y r ih =>
    by_cases h : x = y.1
    · refine ⟨j, ?_⟩
      simp [fes, Instr.findNow, Instr.sameNow, fat, h]
    · obtain ⟨n, hn⟩ := ih (i + 1) (j + 1)
      refine ⟨n, ?_⟩
      have hb : (x == y.1) = false := by simpa using h
      simp [fes, Instr.findNow, Instr.sameNow, fat, h, hb, hn]

theorem set_push_last {α : Type} (a : Array α) (x y : α) : (a.push x).setIfInBounds a.size y = a.push y := by
  obtain ⟨l⟩ := a
  simp

section
variable {P : Program} {t k e : TypeId}
theorem run_look_fmap (ht : P.underlying t = some (.map k e)) (hk : P.underlying k = some (.int .i64)) (hz : ∀ w, (zeroValue e).run P w = .ok (.agg #[.string ⟨#[]⟩]) w) (l : List (Int × List UInt8)) {w : World} {b : Nat} (hb : w.heap[b]? = some (fmap l)) (x : Int) :
    (Instr.lookup t (.map (some b)) (.int .i64 x) true).run P w = .ok (.tuple #[fval l x, .bool (fat l x).isSome]) w := by
  obtain ⟨n, hn⟩ := find_fes l x 0 0
  have hb' : w.heap[b]? = some (.map (fes 0 l).toArray l.length) := hb
  have hf := MapKept.run_findKey (P := P) (w := w) hk hn
  unfold fval
  cases h : fat l x with
  | none => simp [h] at hf; simp [Instr.lookup, run_underlying ht, MapKept.run_getObj_map hb', MapKept.run_checkKey hk (k := .int .i64 x) rfl, hf, hz, Result.andThen]
  | some f => simp [h] at hf; simp [Instr.lookup, run_underlying ht, MapKept.run_getObj_map hb', MapKept.run_checkKey hk (k := .int .i64 x) rfl, hf, Result.andThen]
theorem run_look1_fmap (ht : P.underlying t = some (.map k e)) (hk : P.underlying k = some (.int .i64)) (hz : ∀ w, (zeroValue e).run P w = .ok (.agg #[.string ⟨#[]⟩]) w) (l : List (Int × List UInt8)) {w : World} {b : Nat} (hb : w.heap[b]? = some (fmap l)) (x : Int) :
    (Instr.lookup t (.map (some b)) (.int .i64 x) false).run P w = .ok (fval l x) w := by
  obtain ⟨n, hn⟩ := find_fes l x 0 0
  have hb' : w.heap[b]? = some (.map (fes 0 l).toArray l.length) := hb
  have hf := MapKept.run_findKey (P := P) (w := w) hk hn
  unfold fval
  cases h : fat l x with
  | none => simp [h] at hf; simp [Instr.lookup, run_underlying ht, MapKept.run_getObj_map hb', MapKept.run_checkKey hk (k := .int .i64 x) rfl, hf, hz, Result.andThen]
  | some f => simp [h] at hf; simp [Instr.lookup, run_underlying ht, MapKept.run_getObj_map hb', MapKept.run_checkKey hk (k := .int .i64 x) rfl, hf, Result.andThen]
/-- a literal's next entry -/
theorem run_put_fmap (ht : P.underlying t = some (.map k e)) (hk : P.underlying k = some (.int .i64)) (l : List (Int × List UInt8)) (w : World) (x : Int) (f : List UInt8) (hx : fat l x = none) :
    (Instr.mapUpdate t (.map (some w.heap.size)) (.int .i64 x) (.agg #[.string (str f)])).run P (w.alloc (fmap l)) = .ok () (w.alloc (fmap (l ++ [(x, f)]))) := by
  obtain ⟨n, hn⟩ := find_fes l x 0 0
  have hb : (w.alloc (fmap l)).heap[w.heap.size]? = some (.map (fes 0 l).toArray l.length) := (MapKept.heap_alloc w _).1
  have hf := MapKept.run_findKey (P := P) (w := w.alloc (fmap l)) hk hn
  simp [hx] at hf
  have e1 : ({ w.alloc (fmap l) with heap := (w.alloc (fmap l)).heap.setIfInBounds w.heap.size (fmap (l ++ [(x, f)])) } : World) = w.alloc (fmap (l ++ [(x, f)])) := by
    show ({ w with heap := (w.heap.push (fmap l)).setIfInBounds w.heap.size (fmap (l ++ [(x, f)])) } : World) = { w with heap := w.heap.push (fmap (l ++ [(x, f)])) }
    rw [set_push_last]
  simp [Instr.mapUpdate, run_underlying ht, MapKept.run_getObj_map hb, MapKept.run_checkKey hk (k := .int .i64 x) rfl, hf, MapKept.run_setObj_map _ hb, Result.andThen]
  rw [← e1]
  simp [fmap, fes_append]
end
/-- .. as a table's first n entries -/
def ft (T : List (Int × List UInt8)) (n : Nat) : Obj := fmap (T.take n)
theorem run_put_ft {P : Program} {t k e : TypeId} (ht : P.underlying t = some (.map k e)) (hk : P.underlying k = some (.int .i64)) (T : List (Int × List UInt8)) (n : Nat) (x : Int) (f : List UInt8) (hT : T[n]? = some (x, f)) (hx : fat (T.take n) x = none) (w : World) :
    (Instr.mapUpdate t (.map (some w.heap.size)) (.int .i64 x) (.agg #[.string (str f)])).run P (w.alloc (ft T n)) = .ok () (w.alloc (ft T (n + 1))) := by
  have h := run_put_fmap ht hk (T.take n) w x f hx
  have e1 : T.take (n + 1) = T.take n ++ [(x, f)] := by rw [List.take_add_one, hT]; rfl
  rw [← e1] at h
  exact h
theorem run_put_ft0 {P : Program} {t k e : TypeId} (ht : P.underlying t = some (.map k e)) (hk : P.underlying k = some (.int .i64)) (T : List (Int × List UInt8)) (x : Int) (f : List UInt8) (hT : T[0]? = some (x, f)) (w : World) :
    (Instr.mapUpdate t (.map (some w.heap.size)) (.int .i64 x) (.agg #[.string (str f)])).run P (w.alloc (.map #[] 0)) = .ok () (w.alloc (ft T 1)) :=
  run_put_ft ht hk T 0 x f hT (by rfl) w
/-- What a call hands back that makes such a map: it lies in a new block. -/
def MapAt (T : List (Int × List UInt8)) (w : World) (e : Ending) (w' : World) : Prop := ∃ b, e = .returned (.map (some b)) ∧ w'.heap[b]? = some (fmap T) ∧ w.heap.size ≤ b ∧ Below w.heap.size w w'
theorem mapAt_new (T : List (Int × List UInt8)) (n : Nat) (hn : n = T.length) (w : World) : MapAt T w (.returned (.map (some w.heap.size))) (w.alloc (ft T n)) := by
  refine ⟨_, rfl, ?_, Nat.le_refl _, (Below.refl _ _).alloc (Nat.le_refl _) _⟩
  rw [(MapKept.heap_alloc w _).1, ft, hn, List.take_length]
/-- the signs -/
def signT : List (Int × List UInt8) := [(6, [43]), (7, [45]), (8, [42]), (9, [38]), (10, [124]), (11, [94]), (12, [60, 60]), (13, [62, 62]), (14, [62, 62, 62]), (15, [60, 60, 60]), (16, [62, 62, 62, 62]), (17, [61, 61]), (18, [33, 61]), (19, [60]), (20, [60, 61])]
def signOf (op : Int) : List UInt8 := match fat signT op with | some f => f | none => []
/-- What a call hands back that makes the map: it lies in a new block. -/
def SMapAt (w : World) (e : Ending) (w' : World) : Prop := ∃ b, e = .returned (.map (some b)) ∧ w'.heap[b]? = some (fmap signT) ∧ w.heap.size ≤ b ∧ Below w.heap.size w w'
theorem smapAt_new (w : World) : SMapAt w (.returned (.map (some w.heap.size))) (w.alloc (ft signT 15)) := by
  refine ⟨_, rfl, ?_, Nat.le_refl _, (Below.refl _ _).alloc (Nat.le_refl _) _⟩
  rw [(MapKept.heap_alloc w _).1, ft, List.take_of_length_le (by decide)]
set_option maxRecDepth 100000 in
set_option maxHeartbeats 3200000 in
theorem signs_any (w : World) : Calls Tryz.prog 79 #[] w (SMapAt w) := by
  have hmm := @run_makeMap Tryz.prog
  have i0 : ∀ wx : World, (Instr.mapUpdate 66 (.map (some wx.heap.size)) (.int .i64 6) (.agg #[.string ⟨#[43]⟩])).run Tryz.prog (wx.alloc (.map #[] 0)) = .ok () (wx.alloc (ft signT 1)) := fun wx => run_put_ft Tryz.underlying66 Tryz.underlying22 signT 0 6 [43] rfl rfl wx
  have i1 : ∀ wx : World, (Instr.mapUpdate 66 (.map (some wx.heap.size)) (.int .i64 7) (.agg #[.string ⟨#[45]⟩])).run Tryz.prog (wx.alloc (ft signT 1)) = .ok () (wx.alloc (ft signT 2)) := fun wx => run_put_ft Tryz.underlying66 Tryz.underlying22 signT 1 7 [45] rfl rfl wx
  have i2 : ∀ wx : World, (Instr.mapUpdate 66 (.map (some wx.heap.size)) (.int .i64 8) (.agg #[.string ⟨#[42]⟩])).run Tryz.prog (wx.alloc (ft signT 2)) = .ok () (wx.alloc (ft signT 3)) := fun wx => run_put_ft Tryz.underlying66 Tryz.underlying22 signT 2 8 [42] rfl rfl wx
  have i3 : ∀ wx : World, (Instr.mapUpdate 66 (.map (some wx.heap.size)) (.int .i64 9) (.agg #[.string ⟨#[38]⟩])).run Tryz.prog (wx.alloc (ft signT 3)) = .ok () (wx.alloc (ft signT 4)) := fun wx => run_put_ft Tryz.underlying66 Tryz.underlying22 signT 3 9 [38] rfl rfl wx
  have i4 : ∀ wx : World, (Instr.mapUpdate 66 (.map (some wx.heap.size)) (.int .i64 10) (.agg #[.string ⟨#[124]⟩])).run Tryz.prog (wx.alloc (ft signT 4)) = .ok () (wx.alloc (ft signT 5)) := fun wx => run_put_ft Tryz.underlying66 Tryz.underlying22 signT 4 10 [124] rfl rfl wx
  have i5 : ∀ wx : World, (Instr.mapUpdate 66 (.map (some wx.heap.size)) (.int .i64 11) (.agg #[.string ⟨#[94]⟩])).run Tryz.prog (wx.alloc (ft signT 5)) = .ok () (wx.alloc (ft signT 6)) := fun wx => run_put_ft Tryz.underlying66 Tryz.underlying22 signT 5 11 [94] rfl rfl wx
  have i6 : ∀ wx : World, (Instr.mapUpdate 66 (.map (some wx.heap.size)) (.int .i64 12) (.agg #[.string ⟨#[60, 60]⟩])).run Tryz.prog (wx.alloc (ft signT 6)) = .ok () (wx.alloc (ft signT 7)) := fun wx => run_put_ft Tryz.underlying66 Tryz.underlying22 signT 6 12 [60, 60] rfl rfl wx
  have i7 : ∀ wx : World, (Instr.mapUpdate 66 (.map (some wx.heap.size)) (.int .i64 13) (.agg #[.string ⟨#[62, 62]⟩])).run Tryz.prog (wx.alloc (ft signT 7)) = .ok () (wx.alloc (ft signT 8)) := fun wx => run_put_ft Tryz.underlying66 Tryz.underlying22 signT 7 13 [62, 62] rfl rfl wx
  have i8 : ∀ wx : World, (Instr.mapUpdate 66 (.map (some wx.heap.size)) (.int .i64 14) (.agg #[.string ⟨#[62, 62, 62]⟩])).run Tryz.prog (wx.alloc (ft signT 8)) = .ok () (wx.alloc (ft signT 9)) := fun wx => run_put_ft Tryz.underlying66 Tryz.underlying22 signT 8 14 [62, 62, 62] rfl rfl wx
  have i9 : ∀ wx : World, (Instr.mapUpdate 66 (.map (some wx.heap.size)) (.int .i64 15) (.agg #[.string ⟨#[60, 60, 60]⟩])).run Tryz.prog (wx.alloc (ft signT 9)) = .ok () (wx.alloc (ft signT 10)) := fun wx => run_put_ft Tryz.underlying66 Tryz.underlying22 signT 9 15 [60, 60, 60] rfl rfl wx
  have i10 : ∀ wx : World, (Instr.mapUpdate 66 (.map (some wx.heap.size)) (.int .i64 16) (.agg #[.string ⟨#[62, 62, 62, 62]⟩])).run Tryz.prog (wx.alloc (ft signT 10)) = .ok () (wx.alloc (ft signT 11)) := fun wx => run_put_ft Tryz.underlying66 Tryz.underlying22 signT 10 16 [62, 62, 62, 62] rfl rfl wx
  have i11 : ∀ wx : World, (Instr.mapUpdate 66 (.map (some wx.heap.size)) (.int .i64 17) (.agg #[.string ⟨#[61, 61]⟩])).run Tryz.prog (wx.alloc (ft signT 11)) = .ok () (wx.alloc (ft signT 12)) := fun wx => run_put_ft Tryz.underlying66 Tryz.underlying22 signT 11 17 [61, 61] rfl rfl wx
  have i12 : ∀ wx : World, (Instr.mapUpdate 66 (.map (some wx.heap.size)) (.int .i64 18) (.agg #[.string ⟨#[33, 61]⟩])).run Tryz.prog (wx.alloc (ft signT 12)) = .ok () (wx.alloc (ft signT 13)) := fun wx => run_put_ft Tryz.underlying66 Tryz.underlying22 signT 12 18 [33, 61] rfl rfl wx
  have i13 : ∀ wx : World, (Instr.mapUpdate 66 (.map (some wx.heap.size)) (.int .i64 19) (.agg #[.string ⟨#[60]⟩])).run Tryz.prog (wx.alloc (ft signT 13)) = .ok () (wx.alloc (ft signT 14)) := fun wx => run_put_ft Tryz.underlying66 Tryz.underlying22 signT 13 19 [60] rfl rfl wx
  have i14 : ∀ wx : World, (Instr.mapUpdate 66 (.map (some wx.heap.size)) (.int .i64 20) (.agg #[.string ⟨#[60, 61]⟩])).run Tryz.prog (wx.alloc (ft signT 14)) = .ok () (wx.alloc (ft signT 15)) := fun wx => run_put_ft Tryz.underlying66 Tryz.underlying22 signT 14 20 [60, 61] rfl rfl wx
  go_enter Tryz.func79, Tryz.ntmps79
  go_wp2
  go_ret
  exact smapAt_new w
end Go.Proofs.YtlhbledakddbbaaGreatDoor
