/- A memory is made. -/
import Derived.Test.YtajjpaabkdgjbaaB4
namespace Go.Proofs.Ytajjpaabkdgjbaa
open Go.RowKit

def isZ : Value → Bool
  | .int .u64 0 => true
  | _ => false
def allZ : List Value → Nat → Bool
  | [], n => n == 0
  | x :: xs, n + 1 => isZ x && allZ xs n
  | _ :: _, 0 => false
theorem allZ_at : ∀ (xs : List Value) (n : Nat), allZ xs n = true → ∀ j, j < n → xs[j]? = some (.int .u64 0)
  | [], n, h, j, hj => by simp [allZ] at h; omega
  | x :: xs, 0, h, j, hj => by omega
  | x :: xs, n + 1, h, 0, _ => by
    simp only [allZ, Bool.and_eq_true] at h
    have h1 := h.1
    unfold isZ at h1
    split at h1
    · rfl
    · cases h1
  | x :: xs, n + 1, h, j + 1, hj => by
    simp only [allZ, Bool.and_eq_true] at h
    simpa using allZ_at xs n h.2 j (by omega)
theorem z76 : allZ (Try.zeroCells83.toList.drop 2) 8192 = true := by kernel_rfl
theorem z74 : allZ Try.zeroCells81.toList 8192 = true := by kernel_rfl

/-- the cells of a new memory -/
noncomputable def newCells (v u : Value) : Array Value := (Try.zeroCells83.setIfInBounds 0 v).setIfInBounds 1 u
theorem newCells_size (v u : Value) : (newCells v u).size = 8194 := by simp [newCells, Try.zeroCells83_size]
theorem newCells_0 (v u : Value) : (newCells v u)[0]? = some v := by
  simp [newCells, Try.zeroCells83_size]
theorem newCells_1 (v u : Value) : (newCells v u)[1]? = some u := by
  simp [newCells, Try.zeroCells83_size]
theorem newCells_2 (v u : Value) (j : Nat) (hj : j < 8192) : (newCells v u)[2 + j]? = some (.int .u64 0) := by
  have h := allZ_at _ _ z76 j hj
  rw [List.getElem?_drop] at h
  rw [newCells, Array.getElem?_setIfInBounds, if_neg (by omega), Array.getElem?_setIfInBounds, if_neg (by omega)]
  simpa using h

set_option maxHeartbeats 400000 in
theorem locate_any (q : Option Addr) (n d : Nat) (w : World) :
    Calls Try.prog 55 #[.slice q n d] w fun e w' => e = .returned (.func (.func 63) #[] #[.pointer (some ⟨w.heap.size, 0, none⟩)]) ∧ w' = w.alloc (.cells #[.slice q n d] 22 (0, 0)) := by
  go_enter Try.func55, Try.ntmps55
  go_wp2_with fail
  go_ret
  exact ⟨rfl, rfl⟩

/-- a memory at block g: its blocks are from B on -/
def MemIs (w : World) (B g : Nat) (l : List Rg) (f : Nat → Nat) : Prop :=
  ∃ (p : Option Addr) (c q : Nat), w.cell? ⟨g, 0, none⟩ = some (.slice p l.length c) ∧ w.cell? ⟨g, 1, none⟩ = some (.func (.func 63) #[] #[.pointer (some ⟨q, 0, none⟩)]) ∧
    w.cell? ⟨q, 0, none⟩ = some (.slice p l.length c) ∧ RgIn w g l p ∧ B ≤ q ∧ q < g ∧ g < w.heap.size ∧ l.length ≤ c ∧ c ≤ 9223372036854775807 ∧ (p = none → c = 0) ∧ (∀ b o, p = some ⟨b, o, none⟩ → B ≤ b) ∧
    (∀ j, j < 8192 → w.cell? ⟨g, 2 + j, none⟩ = some (.int .u64 (f j)) ∧ w.frozen? ⟨g, 2 + j, none⟩ = false) ∧ ∀ j, f j < 18446744073709551616

theorem new_of {w w1 w' : World} {l : List Rg} {v : Value} (h : RgOwn w.heap.size w1 l v) (hB : Below w.heap.size w w1)
    (hw : w' = (w1.alloc (.cells #[v] 22 (0, 0))).alloc (.cells (newCells v (.func (.func 63) #[] #[.pointer (some ⟨w1.heap.size, 0, none⟩)])) 83 (0, 0))) :
    MemIs w' w.heap.size (w1.heap.size + 1) l (fun _ => 0) ∧ Below w.heap.size w w' := by
  subst hw
  obtain ⟨q, d, rfl, hin, hd1, hd2, hd3, hd4⟩ := h
  have hs := hB.size
  have hblk : ((w1.alloc (.cells #[.slice q l.length d] 22 (0, 0))).alloc (.cells (newCells (.slice q l.length d) (.func (.func 63) #[] #[.pointer (some ⟨w1.heap.size, 0, none⟩)])) 83 (0, 0))).heap[w1.heap.size + 1]? = some (.cells (newCells (.slice q l.length d) (.func (.func 63) #[] #[.pointer (some ⟨w1.heap.size, 0, none⟩)])) 83 (0, 0)) := by
    have := heap_alloc_new (w1.alloc (.cells #[.slice q l.length d] 22 (0, 0))) (.cells (newCells (.slice q l.length d) (.func (.func 63) #[] #[.pointer (some ⟨w1.heap.size, 0, none⟩)])) 83 (0, 0))
    simpa using this
  refine ⟨⟨q, d, w1.heap.size, ?_, ?_, ?_, ?_, hs, by omega, by simp, hd1, hd2, hd3, hd4, fun j hj => ⟨?_, ?_⟩, fun _ => by simp⟩, (hB.alloc hs _).alloc (by simp; omega) _⟩
  · rw [cell_of_row _ _ _ _ _ _ hblk]; exact newCells_0 _ _
  · rw [cell_of_row _ _ _ _ _ _ hblk]; exact newCells_1 _ _
  · rw [World.cell?_alloc_past _ _ _ (by simp)]; simp [go_sem]
  · refine hin.later (((Below.refl _ _).alloc (Nat.le_refl _) _).alloc (by simp) _) (by omega)
  · rw [cell_of_row _ _ _ _ _ _ hblk]; exact newCells_2 _ _ j hj
  · unfold World.frozen?; simp only [hblk]; simp

set_option maxRecDepth 100000 in
set_option maxHeartbeats 1600000 in
theorem made_any (l : List Rg) (ad : Addr) (c N : Nat) (w : World) (h : RgIn w N l (some ad)) (hN : N ≤ w.heap.size) (hl : l.length ≤ 1000000) :
    Calls Try.prog 33 #[.slice (some ad) l.length c] w fun e w' => (∃ g, e = .returned (.pointer (some ⟨g, 0, none⟩)) ∧ MemIs w' w.heap.size g l (fun _ => 0)) ∧ Below w.heap.size w w' := by
  go_enter Try.func33, Try.ntmps33
  go_wp2_with (first | (go_at_call 54; refine (clone_any l ad c N _ h hN hl).mono ?_; rintro e w1 ⟨⟨v, rfl, hv⟩, hB⟩; have HV := Lib.hid hv; obtain ⟨q, d, rfl, _⟩ := hv) | (go_at_call 55; refine (locate_any _ _ _ _).mono ?_; rintro e w2 ⟨rfl, rfl⟩))
  go_ret
  obtain ⟨hm, hb⟩ := new_of HV.out hB rfl
  exact ⟨⟨_, rfl, hm⟩, hb⟩
set_option maxRecDepth 100000 in
set_option maxHeartbeats 1600000 in
theorem made_nil (w : World) :
    Calls Try.prog 33 #[.slice none 0 0] w fun e w' => (∃ g, e = .returned (.pointer (some ⟨g, 0, none⟩)) ∧ MemIs w' w.heap.size g [] (fun _ => 0)) ∧ Below w.heap.size w w' := by
  have HV := Lib.hid (show RgOwn w.heap.size w [] (.slice none 0 0) from ⟨none, 0, rfl, ⟨by simp, .inl rfl⟩, by simp, by simp, fun _ => rfl, fun _ _ h => by cases h⟩)
  go_enter Try.func33, Try.ntmps33
  go_wp2_with (first | (go_at_call 54; refine (clone_nil _).mono ?_; rintro e w1 ⟨rfl, rfl⟩) | (go_at_call 55; refine (locate_any _ _ _ _).mono ?_; rintro e w2 ⟨rfl, rfl⟩))
  go_ret
  obtain ⟨hm, hb⟩ := new_of HV.out (Below.refl _ _) rfl
  exact ⟨⟨_, rfl, hm⟩, hb⟩
theorem made_all (l : List Rg) (p : Option Addr) (c N : Nat) (w : World) (h : RgIn w N l p) (hN : N ≤ w.heap.size) (hl : l.length ≤ 1000000) (hp : p = none → c = 0) :
    Calls Try.prog 33 #[.slice p l.length c] w fun e w' => (∃ g, e = .returned (.pointer (some ⟨g, 0, none⟩)) ∧ MemIs w' w.heap.size g l (fun _ => 0)) ∧ Below w.heap.size w w' := by
  cases p with
  | none =>
    rcases h.2 with h0 | ⟨b, o, hq, _⟩
    · have : l = [] := List.eq_nil_of_length_eq_zero h0
      subst this
      rw [hp rfl]
      exact made_nil w
    · cases hq
  | some ad => exact made_any l ad c N w h hN hl
end Go.Proofs.Ytajjpaabkdgjbaa
