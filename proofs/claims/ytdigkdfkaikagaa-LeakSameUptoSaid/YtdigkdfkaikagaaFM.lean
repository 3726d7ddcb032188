/- A map whose keys are ints and whose values are functions, made by a call out of a literal: what a look-up in it comes to. Over any program. -/
import Derived.Maps.OwnSet
namespace Go.Proofs.Ytdigkdfkaikagaa
open Go Go.RowKit

/-- Entries at these keys, one function each, in this order. -/
def fes : Nat → List (Int × Nat) → List MapEntry
  | _, [] => []
  | i, x :: r => { key := .int .i64 x.1, val := .func (.func x.2) #[] #[], born := i } :: fes (i + 1) r
/-- The function at a key. -/
def fat : List (Int × Nat) → Int → Option Nat
  | [], _ => none
  | p :: r, x => if x = p.1 then some p.2 else fat r x
def fval (l : List (Int × Nat)) (x : Int) : Value := match fat l x with | some f => .func (.func f) #[] #[] | none => .nilFunc
/-- The map's block. -/
def fmap (l : List (Int × Nat)) : Obj := .map (fes 0 l).toArray l.length

theorem fes_append (i : Nat) (l : List (Int × Nat)) (x : Int × Nat) : fes i (l ++ [x]) = fes i l ++ [{ key := .int .i64 x.1, val := .func (.func x.2) #[] #[], born := i + l.length }] := by
  induction l generalizing i with
  | nil => simp [fes]
  | cons y r ih => simp [fes, ih, Nat.add_comm, Nat.add_left_comm]

theorem find_fes (l : List (Int × Nat)) (x : Int) (i j : Nat) : ∃ n, Instr.findNow (.int .i64) (.int .i64 x) (fes i l) j = some ((fat l x).map fun f => (n, .func (.func f) #[] #[])) := by
  induction l generalizing i j with
  | nil => exact ⟨0, rfl⟩
  | cons y r ih =>
    by_cases h : x = y.1
    · refine ⟨j, ?_⟩
      simp [fes, Instr.findNow, Instr.sameNow, fat, h]
    · obtain ⟨n, hn⟩ := ih (i + 1) (j + 1)
      refine ⟨n, ?_⟩
      have hb : (x == y.1) = false := by simpa using h
      simp [fes, Instr.findNow, Instr.sameNow, fat, h, hb, hn]

theorem set_push_last {α : Type} (a : Array α) (x y : α) : (a.push x).setIfInBounds a.size y = a.push y := by
  obtain ⟨l⟩ := a
  simp

section
variable {P : Program} {t k e : TypeId}
theorem run_look_fmap (ht : P.underlying t = some (.map k e)) (hk : P.underlying k = some (.int .i64)) (hz : ∀ w, (zeroValue e).run P w = .ok .nilFunc w) (l : List (Int × Nat)) {w : World} {b : Nat} (hb : w.heap[b]? = some (fmap l)) (x : Int) :
    (Instr.lookup t (.map (some b)) (.int .i64 x) true).run P w = .ok (.tuple #[fval l x, .bool (fat l x).isSome]) w := by
  obtain ⟨n, hn⟩ := find_fes l x 0 0
  have hb' : w.heap[b]? = some (.map (fes 0 l).toArray l.length) := hb
  have hf := MapKept.run_findKey (P := P) (w := w) hk hn
  unfold fval
  cases h : fat l x with
  | none => simp [h] at hf; simp [Instr.lookup, run_underlying ht, MapKept.run_getObj_map hb', MapKept.run_checkKey hk (k := .int .i64 x) rfl, hf, hz, Result.andThen]
  | some f => simp [h] at hf; simp [Instr.lookup, run_underlying ht, MapKept.run_getObj_map hb', MapKept.run_checkKey hk (k := .int .i64 x) rfl, hf, Result.andThen]
theorem run_look1_fmap (ht : P.underlying t = some (.map k e)) (hk : P.underlying k = some (.int .i64)) (hz : ∀ w, (zeroValue e).run P w = .ok .nilFunc w) (l : List (Int × Nat)) {w : World} {b : Nat} (hb : w.heap[b]? = some (fmap l)) (x : Int) :
    (Instr.lookup t (.map (some b)) (.int .i64 x) false).run P w = .ok (fval l x) w := by
  obtain ⟨n, hn⟩ := find_fes l x 0 0
  have hb' : w.heap[b]? = some (.map (fes 0 l).toArray l.length) := hb
  have hf := MapKept.run_findKey (P := P) (w := w) hk hn
  unfold fval
  cases h : fat l x with
  | none => simp [h] at hf; simp [Instr.lookup, run_underlying ht, MapKept.run_getObj_map hb', MapKept.run_checkKey hk (k := .int .i64 x) rfl, hf, hz, Result.andThen]
  | some f => simp [h] at hf; simp [Instr.lookup, run_underlying ht, MapKept.run_getObj_map hb', MapKept.run_checkKey hk (k := .int .i64 x) rfl, hf, Result.andThen]
/-- a literal's next entry -/
theorem run_put_fmap (ht : P.underlying t = some (.map k e)) (hk : P.underlying k = some (.int .i64)) (l : List (Int × Nat)) (w : World) (x : Int) (f : Nat) (hx : fat l x = none) :
    (Instr.mapUpdate t (.map (some w.heap.size)) (.int .i64 x) (.func (.func f) #[] #[])).run P (w.alloc (fmap l)) = .ok () (w.alloc (fmap (l ++ [(x, f)]))) := by
  obtain ⟨n, hn⟩ := find_fes l x 0 0
  have hb : (w.alloc (fmap l)).heap[w.heap.size]? = some (.map (fes 0 l).toArray l.length) := (MapKept.heap_alloc w _).1
  have hf := MapKept.run_findKey (P := P) (w := w.alloc (fmap l)) hk hn
  simp [hx] at hf
  have e1 : ({ w.alloc (fmap l) with heap := (w.alloc (fmap l)).heap.setIfInBounds w.heap.size (fmap (l ++ [(x, f)])) } : World) = w.alloc (fmap (l ++ [(x, f)])) := by
    show ({ w with heap := (w.heap.push (fmap l)).setIfInBounds w.heap.size (fmap (l ++ [(x, f)])) } : World) = { w with heap := w.heap.push (fmap (l ++ [(x, f)])) }
    rw [set_push_last]
  simp [Instr.mapUpdate, run_underlying ht, MapKept.run_getObj_map hb, MapKept.run_checkKey hk (k := .int .i64 x) rfl, hf, MapKept.run_setObj_map _ hb, Result.andThen]
  rw [← e1]
  simp [fmap, fes_append]
end
/-- .. as a table's first n entries -/
def ft (T : List (Int × Nat)) (n : Nat) : Obj := fmap (T.take n)
theorem run_put_ft {P : Program} {t k e : TypeId} (ht : P.underlying t = some (.map k e)) (hk : P.underlying k = some (.int .i64)) (T : List (Int × Nat)) (n : Nat) (x : Int) (f : Nat) (hT : T[n]? = some (x, f)) (hx : fat (T.take n) x = none) (w : World) :
    (Instr.mapUpdate t (.map (some w.heap.size)) (.int .i64 x) (.func (.func f) #[] #[])).run P (w.alloc (ft T n)) = .ok () (w.alloc (ft T (n + 1))) := by
  have h := run_put_fmap ht hk (T.take n) w x f hx
  have e1 : T.take (n + 1) = T.take n ++ [(x, f)] := by rw [List.take_add_one, hT]; rfl
  rw [← e1] at h
  exact h
theorem run_put_ft0 {P : Program} {t k e : TypeId} (ht : P.underlying t = some (.map k e)) (hk : P.underlying k = some (.int .i64)) (T : List (Int × Nat)) (x : Int) (f : Nat) (hT : T[0]? = some (x, f)) (w : World) :
    (Instr.mapUpdate t (.map (some w.heap.size)) (.int .i64 x) (.func (.func f) #[] #[])).run P (w.alloc (.map #[] 0)) = .ok () (w.alloc (ft T 1)) :=
  run_put_ft ht hk T 0 x f hT (by rfl) w
/-- What a call hands back that makes such a map: it lies in a new block. -/
def MapAt (T : List (Int × Nat)) (w : World) (e : Ending) (w' : World) : Prop := ∃ b, e = .returned (.map (some b)) ∧ w'.heap[b]? = some (fmap T) ∧ w.heap.size ≤ b ∧ Below w.heap.size w w'
theorem mapAt_new (T : List (Int × Nat)) (n : Nat) (hn : n = T.length) (w : World) : MapAt T w (.returned (.map (some w.heap.size))) (w.alloc (ft T n)) := by
  refine ⟨_, rfl, ?_, Nat.le_refl _, (Below.refl _ _).alloc (Nat.le_refl _) _⟩
  rw [(MapKept.heap_alloc w _).1, ft, hn, List.take_length]
end Go.Proofs.Ytdigkdfkaikagaa
