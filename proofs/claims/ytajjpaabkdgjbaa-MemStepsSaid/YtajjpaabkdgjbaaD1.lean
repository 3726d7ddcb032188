/- The document's memory: put. -/
import Derived.Test.YtajjpaabkdgjbaaC2
import Derived.Test.YtajjpaabkdgjbaaB9
namespace Go.Proofs.Ytajjpaabkdgjbaa
open Go.RowKit

/-- what is as it was: all but the blocks from B to g -/
structure AgX (B g : Nat) (w w' : World) : Prop where
  os : w'.os = w.os
  tape : w'.tape = w.tape
  output : w'.output = w.output
  size : w.heap.size ≤ w'.heap.size
  block : ∀ k, k < w.heap.size → ¬ (B ≤ k ∧ k ≤ g) → w'.heap[k]? = w.heap[k]?
theorem AgX.refl (B g : Nat) (w : World) : AgX B g w w := ⟨rfl, rfl, rfl, Nat.le_refl _, fun _ _ _ => rfl⟩
theorem AgX.of {B g : Nat} {w w' : World} (h : Below w.heap.size w w') : AgX B g w w' := ⟨h.os, h.tape, h.output, h.size, fun k hk _ => h.block k hk⟩
theorem AgX.agr {B g : Nat} {w w' : World} (h : Agr g w w') (hB : B ≤ g) : AgX B g w w' := ⟨h.os, h.tape, h.output, h.size, fun k hk hn => h.block k hk (by omega)⟩
theorem AgX.trans {B g : Nat} {a b c : World} (h : AgX B g a b) (k : AgX B g b c) : AgX B g a c :=
  ⟨k.os.trans h.os, k.tape.trans h.tape, k.output.trans h.output, Nat.le_trans h.size k.size, fun i hi hg => (k.block i (Nat.lt_of_lt_of_le hi h.size) hg).trans (h.block i hi hg)⟩
theorem AgX.below {B g N : Nat} {w0 w w' : World} (h : Below N w0 w) (k : AgX B g w w') (hg : N ≤ B) (hB : N ≤ w.heap.size) : Below N w0 w' :=
  h.trans ⟨k.os, k.tape, k.output, k.size, fun i hi => k.block i (Nat.lt_of_lt_of_le hi hB) (by omega)⟩
theorem AgX.setCell {B g q o : Nat} {w : World} (u : Value) (h1 : B ≤ q) (h2 : q ≤ g) : AgX B g w (w.setCell ⟨q, o, none⟩ u) :=
  ⟨rfl, rfl, rfl, by simp [World.setCell], fun k _ hk => Below.heap_setCell _ _ _ _ (by show k ≠ q; omega)⟩
theorem AgX.drewN {B g n : Nat} {w : World} : AgX B g w (w.drewN n) := ⟨rfl, rfl, rfl, Nat.le_refl _, fun _ _ _ => rfl⟩

theorem RefIs.ptr {w : World} {B g : Nat} {l : List Rg} {bt : Nat → Nat} (h : RefIs w B g l bt) : ∃ q, w.cell? ⟨g, 1, none⟩ = some (.slice (some ⟨q, 0, none⟩) 65536 65536) ∧ B ≤ q ∧ q < g ∧ g < w.heap.size := by
  obtain ⟨p, c, q, h1, h2, h4, h5, h6, h7, _⟩ := h
  exact ⟨q, h2, h5, h6, h7⟩
theorem RefIs.lt {w : World} {B g : Nat} {l : List Rg} {bt : Nat → Nat} (h : RefIs w B g l bt) (j : Nat) : bt j < 256 := by
  obtain ⟨p, c, q, h1, h2, h4, h5, h6, h7, h8, h9, h10, h11, h12, h13⟩ := h
  exact h13 j
theorem RefIs.byt {w : World} {B g q : Nat} {l : List Rg} {bt : Nat → Nat} (h : RefIs w B g l bt) (hq : w.cell? ⟨g, 1, none⟩ = some (.slice (some ⟨q, 0, none⟩) 65536 65536)) (j : Nat) (hj : j < 65536) : w.cell? ⟨q, j, none⟩ = some (.int .u8 (bt j)) ∧ w.frozen? ⟨q, j, none⟩ = false := by
  obtain ⟨p, c, q', h1, h2, h4, h5, h6, h7, h8, h9, h10, h11, h12, h13⟩ := h
  rw [h2] at hq
  cases hq
  exact h12 j hj
theorem RefIs.set {w : World} {B g q : Nat} {l : List Rg} {bt : Nat → Nat} (h : RefIs w B g l bt) (hq : w.cell? ⟨g, 1, none⟩ = some (.slice (some ⟨q, 0, none⟩) 65536 65536)) (j x : Nat) (hj : j < 65536) (hx : x < 256) : RefIs (w.setCell ⟨q, j, none⟩ (.int .u8 x)) B g l (upd bt j x) := by
  obtain ⟨p, c, q', h1, h2, h4, h5, h6, h7, h8, h9, h10, h11, h12, h13⟩ := h
  rw [h2] at hq
  cases hq
  have hc : ∀ b o, ¬ (b = q ∧ o = j) → (w.setCell ⟨q, j, none⟩ (.int .u8 x)).cell? ⟨b, o, none⟩ = w.cell? ⟨b, o, none⟩ := fun b o hne =>
    World.cell?_setCell_other _ _ _ _ (fun e => hne (by cases e; exact ⟨rfl, rfl⟩))
  refine ⟨p, c, q, (hc _ _ (by omega)).trans h1, (hc _ _ (by omega)).trans h2, ⟨h4.1, ?_⟩, h5, h6, by simpa [World.setCell] using h7, h8, h9, h10, h11, fun i hi => ⟨?_, ?_⟩, fun i => ?_⟩
  · rcases h4.2 with h0 | ⟨b, o, hp, hb, ha⟩
    · exact .inl h0
    · by_cases h0 : l.length = 0
      · exact .inl h0
      · exact .inr ⟨b, o, hp, hb, RgAt.keep (fun _ => hc _ _ (by have := (h11 (by omega) b o hp).2; omega)) l o ha⟩
  · by_cases e : i = j
    · subst e
      rw [World.cell?_setCell_same _ _ _ (h12 i hi).1, upd, if_pos rfl]
    · rw [hc _ _ (by omega), (h12 i hi).1, upd, if_neg e]
  · rw [World.frozen?_setCell]; exact (h12 i hi).2
  · have := h13 i
    unfold upd; split <;> simp_all

/-- bytes in which the first n of a word were put -/
def putN (bt : Nat → Nat) (a x n : Nat) : Nat → Nat := fun j => if a ≤ j ∧ j < a + n then byteOf x (j - a) else bt j
theorem putN_0 (bt : Nat → Nat) (a x : Nat) : putN bt a x 0 = bt := by funext j; unfold putN; rw [if_neg (by omega)]
theorem putN_succ (bt : Nat → Nat) (a x n : Nat) : upd (putN bt a x n) (a + n) (byteOf x n) = putN bt a x (n + 1) := by
  funext j
  unfold upd putN
  by_cases h : j = a + n
  · subst h; rw [if_pos rfl, if_pos (by omega), Nat.add_sub_cancel_left]
  · rw [if_neg h]
    by_cases h2 : a ≤ j ∧ j < a + n
    · rw [if_pos h2, if_pos (by omega)]
    · rw [if_neg h2, if_neg (by omega)]
/-- a word put: the words' bytes are these still -/
theorem RelWB.put {f bt : Nat → Nat} (hr : RelWB f bt) (j x : Nat) : RelWB (upd f j x) (putN bt (8 * j) x 8) := by
  intro a ha
  unfold putN upd
  by_cases h : a / 8 = j
  · rw [if_pos h, if_pos (by omega)]; congr 1; omega
  · rw [if_neg h, if_neg (by omega)]; exact hr a ha
theorem RelWB.byte {f bt : Nat → Nat} (hr : RelWB f bt) (a x : Nat) (hx : x < 256) : RelWB (upd f (a / 8) (setByte (f (a / 8)) (a % 8) x)) (upd bt a x) := by
  intro b hb
  unfold upd
  by_cases h : b / 8 = a / 8
  · rw [if_pos h, byte_set _ _ _ _ (by omega) (by omega) hx]
    by_cases h2 : b = a
    · subst h2; rw [if_pos rfl, if_pos rfl]
    · rw [if_neg h2, if_neg (by omega), hr b hb, h]
  · rw [if_neg h, if_neg (by intro e; exact h (by rw [e]))]; exact hr b hb

theorem put_val (x k : Nat) : (x : Int) / 2 ^ (8 * k) % 256 = ((byteOf x k : Nat) : Int) := by unfold byteOf; rw [Nat.mul_comm]; simp

set_option maxHeartbeats 1600000 in
theorem put_any (l : List Rg) (bt : Nat → Nat) (B g a x : Nat) (w : World) (h : RefIs w B g l bt) (ha : a + 8 ≤ 65536) (_hx : x < 18446744073709551616) :
    Calls Try.prog 56 #[.pointer (some ⟨g, 0, none⟩), .int .i64 a, .int .u64 x] w fun e w' => e = .returned (.tuple #[]) ∧ RefIs w' B g l (putN bt a x 8) ∧ AgX B g w w' := by
  obtain ⟨q, h2, h3, h4, h5⟩ := h.ptr
  have HR := Lib.hid h
  have H2 := Lib.hid h2
  clear h h2
  go_enter Try.func56, Try.ntmps56
  go_wp2_with fail
  go_loopg [6] 8 (fun gh i wr => ∃ (k : Nat), gh = 8 - k ∧ k ≤ 8 ∧ i = .int .i64 k ∧ Hid (RefIs wr B g l (putN bt a x k)) ∧ Hid (wr.cell? ⟨g, 1, none⟩ = some (.slice (some ⟨q, 0, none⟩) 65536 65536)) ∧ Hid (AgX B g w wr))
  case atStart => exact ⟨0, rfl, by omega, rfl, Lib.hid (by rw [putN_0]; exact HR.out), H2, Lib.hid (AgX.refl _ _ _)⟩
  case round =>
    obtain ⟨k, hgk, hk, rfl, HRr, H2r, HAr⟩ := hrel
    have hgk' : gk = 8 - k := by omega
    by_cases hlt : k < 8
    · obtain ⟨hc, hz⟩ := HRr.out.byt H2r.out (a + k) (by omega)
      clear hgk
      have h2r := H2r.out
      generalize (putN bt a x k (a + k)) = y0 at hc
      go_wp2_with fail
      rw [put_val]
      go_roundg (8 - (k + 1))
      case measure => omega
      case rel =>
        refine ⟨k + 1, rfl, by omega, by simp, Lib.hid ?_, Lib.hid ?_, Lib.hid (HAr.out.trans (AgX.setCell _ h3 (by omega)))⟩
        · rw [← putN_succ]; exact HRr.out.set H2r.out (a + k) (byteOf x k) (by omega) (byte_lt _ _)
        · rw [World.cell?_setCell_other _ _ _ _ (fun e => by have e1 := congrArg Addr.block e; simp at e1; omega)]; exact H2r.out
    · obtain rfl : k = 8 := by omega
      go_wp2_with fail
      go_end0
      exact ⟨rfl, HRr.out, HAr.out⟩
end Go.Proofs.Ytajjpaabkdgjbaa
