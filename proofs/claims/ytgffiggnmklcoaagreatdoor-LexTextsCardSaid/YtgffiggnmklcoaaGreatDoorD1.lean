/- A map whose keys are texts, made by a call out of a literal: what a look-up in it comes to. Over any program. -/
import Derived.Maps.OwnSet
import Derived.Laws.StructEq
import Derived.Lib.IndexBytes
namespace Go.Proofs.YtgffiggnmklcoaaGreatDoor
open Go Go.RowKit

/-- Entries at these keys, in this order. -/
def ses : Nat → List (List UInt8) → List MapEntry
  | _, [] => []
  | i, x :: r => { key := .string ⟨x.toArray⟩, val := .agg #[], born := i } :: ses (i + 1) r
/-- The map's block. -/
def smap (l : List (List UInt8)) : Obj := .map (ses 0 l).toArray l.length

theorem ses_append (i : Nat) (l : List (List UInt8)) (x : List UInt8) : ses i (l ++ [x]) = ses i l ++ [{ key := .string ⟨x.toArray⟩, val := .agg #[], born := i + l.length }] := by
  induction l generalizing i with
  | nil => simp [ses]
  | cons y r ih => simp [ses, ih, Nat.add_comm, Nat.add_left_comm]

theorem mk_beq (s : ByteArray) (y : List UInt8) : (s == (⟨y.toArray⟩ : ByteArray)) = decide (s.data.toList = y) := by
  have e : (⟨y.toArray⟩ : ByteArray).data.toList = y := rfl
  rw [beq_toListBytes, Lib.toList_data, Lib.toList_data, e, Bool.eq_iff_iff, decide_eq_true_eq, beq_iff_eq]
theorem find_ses (l : List (List UInt8)) (s : ByteArray) (i j : Nat) : ∃ n, Instr.findNow .string (.string s) (ses i l) j = some (if s.data.toList ∈ l then some (n, .agg #[]) else none) := by
  induction l generalizing i j with
  | nil => exact ⟨0, rfl⟩
  | cons y r ih =>
    by_cases h : s.data.toList = y
    · refine ⟨j, ?_⟩
      simp [ses, Instr.findNow, Instr.sameNow, mk_beq, h]
    · obtain ⟨n, hn⟩ := ih (i + 1) (j + 1)
      refine ⟨n, ?_⟩
      simp [ses, Instr.findNow, Instr.sameNow, mk_beq, h, hn]

theorem set_push_last {α : Type} (a : Array α) (x y : α) : (a.push x).setIfInBounds a.size y = a.push y := by
  obtain ⟨l⟩ := a
  simp

section
variable {P : Program} {t k e : TypeId}
theorem run_look_smap (ht : P.underlying t = some (.map k e)) (hk : P.underlying k = some .string) (hz : ∀ w, (zeroValue e).run P w = .ok (.agg #[]) w) (l : List (List UInt8)) {w : World} {b : Nat} (hb : w.heap[b]? = some (smap l)) (s : ByteArray) :
    (Instr.lookup t (.map (some b)) (.string s) true).run P w = .ok (.tuple #[.agg #[], .bool (decide (s.data.toList ∈ l))]) w := by
  obtain ⟨n, hn⟩ := find_ses l s 0 0
  have hb' : w.heap[b]? = some (.map (ses 0 l).toArray l.length) := hb
  have hf := MapKept.run_findKey (P := P) (w := w) hk hn
  by_cases h : s.data.toList ∈ l
  · simp only [if_pos h] at hf
    simp [Instr.lookup, run_underlying ht, MapKept.run_getObj_map hb', MapKept.run_checkKey hk (k := .string s) trivial, hf, Result.andThen, h]
  · simp only [if_neg h] at hf
    simp [Instr.lookup, run_underlying ht, MapKept.run_getObj_map hb', MapKept.run_checkKey hk (k := .string s) trivial, hf, hz, Result.andThen, h]
/-- a literal's next entry -/
theorem run_put_smap (ht : P.underlying t = some (.map k e)) (hk : P.underlying k = some .string) (l : List (List UInt8)) (w : World) (x : List UInt8) (hx : x ∉ l) :
    (Instr.mapUpdate t (.map (some w.heap.size)) (.string ⟨x.toArray⟩) (.agg #[])).run P (w.alloc (smap l)) = .ok () (w.alloc (smap (l ++ [x]))) := by
  obtain ⟨n, hn⟩ := find_ses l ⟨x.toArray⟩ 0 0
  have hb : (w.alloc (smap l)).heap[w.heap.size]? = some (.map (ses 0 l).toArray l.length) := (MapKept.heap_alloc w _).1
  have hf := MapKept.run_findKey (P := P) (w := w.alloc (smap l)) hk hn
  rw [if_neg (show (⟨x.toArray⟩ : ByteArray).data.toList ∉ l from hx)] at hf
  have e1 : ({ w.alloc (smap l) with heap := (w.alloc (smap l)).heap.setIfInBounds w.heap.size (smap (l ++ [x])) } : World) = w.alloc (smap (l ++ [x])) := by
    show ({ w with heap := (w.heap.push (smap l)).setIfInBounds w.heap.size (smap (l ++ [x])) } : World) = { w with heap := w.heap.push (smap (l ++ [x])) }
    rw [set_push_last]
  simp [Instr.mapUpdate, run_underlying ht, MapKept.run_getObj_map hb, MapKept.run_checkKey hk (k := .string ⟨x.toArray⟩) trivial, hf, MapKept.run_setObj_map _ hb, Result.andThen]
  rw [← e1]
  simp [smap, ses_append]
end
/-- .. as a table's first n entries -/
def stb (T : List (List UInt8)) (n : Nat) : Obj := smap (T.take n)
theorem run_put_stb {P : Program} {t k e : TypeId} (ht : P.underlying t = some (.map k e)) (hk : P.underlying k = some .string) (T : List (List UInt8)) (n : Nat) (x : List UInt8) (hT : T[n]? = some x) (hx : x ∉ T.take n) (w : World) :
    (Instr.mapUpdate t (.map (some w.heap.size)) (.string ⟨x.toArray⟩) (.agg #[])).run P (w.alloc (stb T n)) = .ok () (w.alloc (stb T (n + 1))) := by
  have h := run_put_smap ht hk (T.take n) w x hx
  have e1 : T.take (n + 1) = T.take n ++ [x] := by rw [List.take_add_one, hT]; rfl
  rw [← e1] at h
  exact h
end Go.Proofs.YtgffiggnmklcoaaGreatDoor
