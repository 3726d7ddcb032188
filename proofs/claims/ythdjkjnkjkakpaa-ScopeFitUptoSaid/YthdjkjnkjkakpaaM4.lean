/- What asks of names, one behind the other. -/
import Derived.Test.YthdjkjnkjkakpaaM3
namespace Go.Proofs.Ythdjkjnkjkakpaa
open Go.RowKit

/-- all as it was but one block -/
structure But (g : Nat) (w w' : World) : Prop where
  os : w'.os = w.os
  tape : w'.tape = w.tape
  output : w'.output = w.output
  size : w.heap.size ≤ w'.heap.size
  block : ∀ k, k < w.heap.size → k ≠ g → w'.heap[k]? = w.heap[k]?
theorem But.refl (g : Nat) (w : World) : But g w w := ⟨rfl, rfl, rfl, Nat.le_refl _, fun _ _ _ => rfl⟩
theorem But.trans {g : Nat} {a b c : World} (h : But g a b) (k : But g b c) : But g a c :=
  ⟨k.os.trans h.os, k.tape.trans h.tape, k.output.trans h.output, Nat.le_trans h.size k.size, fun i hi hn => (k.block i (Nat.lt_of_lt_of_le hi h.size) hn).trans (h.block i hi hn)⟩
theorem But.of_below {g : Nat} {w w' : World} (h : Below w.heap.size w w') : But g w w' := ⟨h.os, h.tape, h.output, h.size, fun k hk _ => h.block k hk⟩
/-- all below B is as it was in a, though block g, which is not, was written -/
theorem But.below {g B : Nat} {a w w' : World} (h : Below B a w) (hb : But g w w') (hg : B ≤ g) (hz : B ≤ w.heap.size) : Below B a w' :=
  ⟨hb.os.trans h.os, hb.tape.trans h.tape, hb.output.trans h.output, Nat.le_trans h.size hb.size, fun k hk => (hb.block k (Nat.lt_of_lt_of_le hk hz) (by omega)).trans (h.block k hk)⟩
theorem cell_blk {w : World} {g : Nat} {A : Array Value} {t : TypeId} {fz : Nat × Nat} (h : w.heap[g]? = some (.cells A t fz)) {j : Nat} {v : Value} (hv : A[j]? = some v) : w.cell? ⟨g, j, none⟩ = some v := by
  simp [World.cell?, h, hv]
theorem lt_blk {w : World} {g : Nat} {o : Obj} (h : w.heap[g]? = some o) : g < w.heap.size := (Array.getElem?_eq_some_iff.1 h).1

theorem Cm.but {w w' : World} {b g : Nat} {f : List UInt8 → Nat} (h : Cm w b f) (hB : But g w w') (hg : b ≠ g) : Cm w' b f := h.of_block (hB.block b h.lt hg)
def add (f : List UInt8 → Nat) (s : List UInt8) : List UInt8 → Nat := fun s' => f s' + if s' = s then 1 else 0
/-- what asks of names: its map in block b, of which cell g tells -/
def Nm (w : World) (g b : Nat) (f : List UInt8 → Nat) : Prop := w.heap[g]? = some (.cells #[.map (some b)] 79 (0, 0)) ∧ Cm w b f ∧ g ≠ b
theorem Nm.later {w w' : World} {g b : Nat} {f : List UInt8 → Nat} (h : Nm w g b f) (hB : Below w.heap.size w w') : Nm w' g b f := ⟨(hB.block g (lt_blk h.1)).trans h.1, h.2.1.later hB, h.2.2⟩
theorem Nm.but {w w' : World} {g b k : Nat} {f : List UInt8 → Nat} (h : Nm w g b f) (hB : But k w w') (h1 : g ≠ k) (h2 : b ≠ k) : Nm w' g b f := ⟨(hB.block g (lt_blk h.1) h1).trans h.1, h.2.1.but hB h2, h.2.2⟩
def nmFn (g : Nat) : Value := .func (.func 78) #[] #[.pointer (some ⟨g, 0, none⟩)]
theorem names_any (w : World) : Calls Try.prog 59 #[] w fun z w' => ∃ g b, z = .returned (nmFn g) ∧ Nm w' g b (fun _ => 0) ∧ w.heap.size ≤ g ∧ w.heap.size ≤ b ∧ Below w.heap.size w w' := by
  have hmm := @run_makeMap Try.prog
  go_enter Try.func59, Try.ntmps59
  go_wp2_with fail
  have hB := ((Below.refl _ w).alloc (Nat.le_refl _) (.map #[] 0)).alloc (by simp) (.cells #[.map (some w.heap.size)] 79)
  have h1 := heap_alloc_new (w.alloc (.map #[] 0)) (.cells #[.map (some w.heap.size)] 79)
  have h2 := (Cm.new w).later ((Below.refl _ _).alloc (Nat.le_refl _) (.cells #[.map (some w.heap.size)] 79))
  go_ret
  exact ⟨w.heap.size + 1, w.heap.size, rfl, ⟨by simpa using h1, h2, by omega⟩, by omega, Nat.le_refl _, hB⟩

theorem zeroInt (w : World) : (zeroValue 3).run Try.prog w = .ok (.int .i64 0) w := by kernel_rfl
set_option maxHeartbeats 800000 in
theorem name1_no (s : List UInt8) (g b : Nat) (f : List UInt8 → Nat) (w : World) (h : Nm w g b f) (hn : (nameB s && decide (f s = 0)) = false) :
    Calls Try.prog 78 #[.string (str s), .pointer (some ⟨g, 0, none⟩)] w fun z w' => z = Pn 8 ∧ w' = w := by
  have c0 := cell_blk h.1 (j := 0) rfl
  have hlk := h.2.1.look Try.underlying79 Try.underlying9 zeroInt s
  have HN := Lib.hid (fun w => name_any (str s) w)
  rw [str_data] at HN
  cases hs : nameB s with
  | false =>
    rw [hs] at HN
    go_enter Try.func78, Try.ntmps78
    go_wp2_with (first | (go_at_call 79; refine (HN.out _).mono ?_; rintro e w' ⟨rfl, rfl⟩) | (go_at_call 57; refine (must_no 8 _).mono ?_; rintro e w' ⟨rfl, rfl⟩; unfold Pn))
    exact ⟨rfl, rfl, rfl⟩
  | true =>
    rw [hs] at HN hn
    have h0 : ((f s : Int) == 0) = false := by simp at hn ⊢; omega
    go_enter Try.func78, Try.ntmps78
    go_wp2_with (first | (go_at_call 79; refine (HN.out _).mono ?_; rintro e w' ⟨rfl, rfl⟩) | (go_at_call 57; refine (must_no 8 _).mono ?_; rintro e w' ⟨rfl, rfl⟩; unfold Pn))
    exact ⟨rfl, rfl, rfl⟩
set_option maxHeartbeats 800000 in
theorem name1_yes (s : List UInt8) (g b : Nat) (f : List UInt8 → Nat) (w : World) (h : Nm w g b f) (hn : (nameB s && decide (f s = 0)) = true) :
    Calls Try.prog 78 #[.string (str s), .pointer (some ⟨g, 0, none⟩)] w fun z w' => z = .returned (.tuple #[]) ∧ Nm w' g b (add f s) ∧ But b w w' := by
  have c0 := cell_blk h.1 (j := 0) rfl
  simp only [Bool.and_eq_true, decide_eq_true_eq] at hn
  have hlk := h.2.1.look Try.underlying79 Try.underlying9 zeroInt s
  obtain ⟨w2, hup, hc, hz, hb, ho, ht, hp⟩ := h.2.1.put Try.underlying79 Try.underlying9 s
  rw [hn.2] at hlk hup
  have HR := Lib.hid (show Nm w2 g b (add f s) ∧ But b w w2 from ⟨⟨(hb g h.2.2).trans h.1, hc, h.2.2⟩, ⟨ho, ht, hp, by omega, fun k _ hk => hb k hk⟩⟩)
  have HN := Lib.hid (fun w => name_any (str s) w)
  rw [str_data, hn.1] at HN
  have e0 : ((0 : Nat) : Int) = 0 := rfl
  have e1 : ((0 + 1 : Nat) : Int) = 1 := rfl
  rw [e0] at hlk
  rw [e1] at hup
  clear e0 e1 hc hz hb ho ht hp hn h
  go_enter Try.func78, Try.ntmps78
  go_wp2_with (first | (go_at_call 79; refine (HN.out _).mono ?_; rintro e w' ⟨rfl, rfl⟩) | (go_at_call 57; refine (must_yes 8 _).mono ?_; rintro e w' ⟨rfl, rfl⟩))

  go_end0
  exact ⟨rfl, HR.out⟩
end Go.Proofs.Ythdjkjnkjkakpaa
