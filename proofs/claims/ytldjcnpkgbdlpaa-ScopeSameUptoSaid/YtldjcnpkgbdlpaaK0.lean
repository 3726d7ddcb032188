/- append onto what was clipped; placeIn's value. -/
import Derived.Test.YtldjcnpkgbdlpaaJ7
namespace Go.Proofs.Ytldjcnpkgbdlpaa
open Go.RowKit

def strCells (l : List (List UInt8)) : List Value := l.map fun s => .string (str s)
theorem str_list {w : World} : ∀ (l : List (List UInt8)) (b o : Nat), Row (StrAt w) 1 l b o → ∀ j u, (strCells l)[j]? = some u → w.cell? ⟨b, o + j, none⟩ = some u
  | [], _, _, _, j, u, h => by simp [strCells] at h
  | x :: l, b, o, h, 0, u, hu => by simp [strCells] at hu; subst hu; exact h.1
  | x :: l, b, o, h, j + 1, u, hu => by
    have := str_list l b (o + 1) h.2 j u (by simpa [strCells] using hu)
    rw [show o + (j + 1) = o + 1 + j by omega]; exact this
theorem str_of {w : World} : ∀ (l : List (List UInt8)) (b o : Nat), (∀ j u, (strCells l)[j]? = some u → w.cell? ⟨b, o + j, none⟩ = some u) → Row (StrAt w) 1 l b o
  | [], _, _, _ => trivial
  | x :: l, b, o, h => ⟨h 0 _ (by simp [strCells]), str_of l b (o + 1) fun j u hu => by
    have := h (j + 1) u (by simpa [strCells] using hu)
    rw [show o + (j + 1) = o + 1 + j by omega] at this; exact this⟩
theorem infoStr : (Try.prog.info? 9).map (fun i => (i.zero, i.size, i.bytes)) = some (some (.string ⟨#[]⟩), 1, 16) := by kernel_rfl
theorem clip_append (l : List (List UInt8)) (nm : List UInt8) (p : Option Addr) (g N : Nat) (w : World) (h : RowIn N (StrAt w) 1 l p) (hg : w.cell? ⟨g, 0, none⟩ = some (.string (str nm))) (hl : l.length ≤ 1000) (ty : TypeId) :
    ∃ w2 c2, (Builtin.append_ #[32, 32] ty #[.slice p l.length l.length, .slice (some ⟨g, 0, none⟩) 1 1]).run Try.prog w = .ok (.slice (some ⟨w.heap.size, 0, none⟩) (l.length + 1) c2) w2 ∧ RowIn w2.heap.size (StrAt w2) 1 (l ++ [nm]) (some ⟨w.heap.size, 0, none⟩) ∧ l.length + 1 ≤ c2 ∧ Below w.heap.size w w2 := by
  obtain ⟨i0, hi, hz0, hz1, hz2⟩ := info_parts infoStr
  have key : ∀ (Z : Array Value) (w2 : World), w2 = w.drew.alloc (.cells ((strCells l).toArray ++ #[.string (str nm)] ++ Z) 9) → RowIn w2.heap.size (StrAt w2) 1 (l ++ [nm]) (some ⟨w.heap.size, 0, none⟩) ∧ Below w.heap.size w w2 := by
    rintro Z w2 rfl
    refine ⟨⟨by simp; omega, .inr ⟨w.heap.size, 0, rfl, by simp, str_of _ _ _ fun j u hu => ?_⟩⟩, (Below.refl _ w).drew.alloc (Nat.le_refl _) _⟩
    rw [Nat.zero_add]
    refine cell_blk (heap_alloc_new w.drew _) ?_
    have hj : j < (strCells (l ++ [nm])).length := (List.getElem?_eq_some_iff.1 hu).1
    have e : (strCells l).toArray ++ #[Value.string (str nm)] = (strCells (l ++ [nm])).toArray := by simp [strCells]
    rw [e, Array.getElem?_append_left (by simpa using hj), List.getElem?_toArray]
    exact hu
  cases p with
  | none =>
    have h0 : l.length = 0 := by
      rcases h.2 with h0 | ⟨b, o, hp, _⟩
      · exact h0
      · cases hp
    obtain rfl : l = [] := List.eq_nil_of_length_eq_zero h0
    have hr := run_append_nil (P := Try.prog) (w := w) 32 ty 9 i0 _ Try.underlying32 hi hz0 ⟨g, 0, none⟩ 1 1 [.string (str nm)] (by rw [hz1]; rfl) (fun j v hv => by
      match j, hv with
      | 0, hv => simp at hv; subst hv; simpa [Addr.add] using hg) (by omega) (by omega) (by rw [hz2]; omega)
    have hge := grownCap_ge w 1 0 9
    obtain ⟨k1, k2⟩ := key _ _ (by simp [strCells]; rfl)
    exact ⟨_, _, hr, k1, by simpa using hge, k2⟩
  | some b =>
    have holds : ∀ j v, (strCells l)[j]? = some v → w.cell? (b.add j) = some v := by
      intro j v hv
      rcases h.2 with h0 | ⟨bb, o, hp, _, ha⟩
      · obtain rfl : l = [] := List.eq_nil_of_length_eq_zero h0
        simp [strCells] at hv
      · cases hp
        rw [add_of]
        exact str_list l bb o ha j v hv
    have hr := run_append_grow (P := Try.prog) (w := w) 32 ty 9 i0 _ Try.underlying32 hi hz0 b l.length l.length (strCells l) (by rw [hz1]; simp [strCells]) holds ⟨g, 0, none⟩ 1 1 [.string (str nm)] (by rw [hz1]; rfl) (fun j v hv => by
      match j, hv with
      | 0, hv => simp at hv; subst hv; simpa [Addr.add] using hg) (by omega) (by omega) (by rw [hz2]; have := nextslicecap_le (need := l.length + 1) (old := l.length) (by omega); omega)
    have hge := grownCap_ge w (l.length + 1) l.length 9
    obtain ⟨k1, k2⟩ := key _ _ rfl
    exact ⟨_, _, hr, k1, hge, k2⟩
theorem clip_any (l : List (List UInt8)) (p : Option Addr) (c : Nat) (w : World) (hc : l.length ≤ c) (_hl : l.length ≤ 1000) : Calls Try.prog 87 #[.slice p l.length c] w fun z w' => z = .returned (.slice p l.length l.length) ∧ w = w' := by
  cases p with
  | none =>
    go_enter Try.func87, Try.ntmps87
    go_wp2_with fail
    go_ret
    exact ⟨rfl, rfl⟩
  | some a =>
    go_enter Try.func87, Try.ntmps87
    go_wp2_with fail
    go_ret
    exact ⟨rfl, rfl⟩
end Go.Proofs.Ytldjcnpkgbdlpaa
