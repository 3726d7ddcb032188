/- Load, Store, LoadByte, Place. -/
import Derived.Test.YtajjpaabkdgjbaaB8
namespace Go.Proofs.Ytajjpaabkdgjbaa
open Go.RowKit

theorem MemIs.isn {w : World} {B g : Nat} {l : List Rg} {f : Nat → Nat} (h : MemIs w B g l f) :
    Calls Try.prog 43 #[.pointer (some ⟨g, 0, none⟩)] w fun e w' => e = .returned (.bool false) ∧ w = w' := by
  obtain ⟨p, c, q, h1, h2, _⟩ := h
  exact isNone_mem g ⟨q, 0, none⟩ w h2

theorem MemIs.cell {w : World} {B g : Nat} {l : List Rg} {f : Nat → Nat} (h : MemIs w B g l f) (j : Nat) (hj : j < 8192) : w.cell? ⟨g, 2 + j, none⟩ = some (.int .u64 (f j)) ∧ w.frozen? ⟨g, 2 + j, none⟩ = false := by
  obtain ⟨p, c, q, h1, h2, h3, h4, h5, h6, h7, h8, h9, h10, h11, h12, h13⟩ := h
  exact h12 j hj
theorem MemIs.lt {w : World} {B g : Nat} {l : List Rg} {f : Nat → Nat} (h : MemIs w B g l f) (j : Nat) : f j < 18446744073709551616 := by
  obtain ⟨p, c, q, h1, h2, h3, h4, h5, h6, h7, h8, h9, h10, h11, h12, h13⟩ := h
  exact h13 j

theorem placeIn_lt {l : List Rg} {a : Nat} (hok : l.all Rg.ok = true) : ∀ k, (placeIn l k a).1 ≠ -2 → a < 49152 := by
  induction l with
  | nil => intro k h; exact absurd rfl h
  | cons r rs ih =>
    intro k h
    simp only [List.all_cons, Bool.and_eq_true] at hok
    rw [placeIn] at h
    split at h
    · rename_i h1
      obtain ⟨_, r0, r8, rb⟩ := Rg.ok_iff.1 hok.1
      omega
    · exact ih hok.2 _ h
theorem errB_lt {l : List Rg} {a : Nat} (hok : l.all Rg.ok = true) (h : errB l a = 0) : a < 65536 := by
  unfold errB at h
  split at h
  · omega
  · rename_i h0
    unfold placeOf at h0
    split at h0
    · omega
    · have := placeIn_lt hok 0 h0; omega
theorem errW_0 {l : List Rg} {a : Nat} (h : errW l a = 0) : a % 8 = 0 ∧ errB l a = 0 := by
  unfold errW at h
  split at h
  · exact ⟨by assumption, h⟩
  · omega
theorem errB_or (l : List Rg) (a : Nat) : errB l a = 0 ∨ errB l a = 14 := by
  unfold errB; split <;> simp
theorem errW_or (l : List Rg) (a : Nat) : errW l a = 0 ∨ errW l a = 2 ∨ errW l a = 14 := by
  unfold errW; have := errB_or l a; split <;> omega

set_option maxHeartbeats 400000 in
theorem checkWord_any (l : List Rg) (f : Nat → Nat) (B g a : Nat) (w : World) (h : MemIs w B g l f) (hok : l.all Rg.ok = true) (ha : a < 18446744073709551616) :
    Calls Try.prog 38 #[.pointer (some ⟨g, 0, none⟩), .int .u64 a] w fun e w' => e = .returned (.int .i64 (errW l a)) ∧ Below w.heap.size w w' := by
  have HI := Lib.hid h.isn
  have HC := Lib.hid (checkByte_any l f B g a w h hok ha)
  clear h
  by_cases h8 : a % 8 = 0
  · rw [errW, if_pos h8]
    have d0 : ((a : Int) % 8 != 0) = false := by simp; omega
    generalize errB l a = z at HC ⊢
    clear h8
    go_enter Try.func38, Try.ntmps38
    go_wp2_with (first | (go_at_call 43; (with_reducible refine HI.out.mono ?_); rintro e w' ⟨rfl, rfl⟩) | (go_at_call 41; refine HC.out.mono ?_; rintro e w' ⟨rfl, hB⟩))
    go_ret
    exact ⟨rfl, hB⟩
  · rw [errW, if_neg h8]
    have d0 : ((a : Int) % 8 != 0) = true := by simp; omega
    clear h8
    go_enter Try.func38, Try.ntmps38
    go_wp2_with (first | (go_at_call 43; (with_reducible refine HI.out.mono ?_); rintro e w' ⟨rfl, rfl⟩))
    go_ret
    exact ⟨rfl, Below.refl _ _⟩

/-- what Load answers -/
def loadV (l : List Rg) (f : Nat → Nat) (a : Nat) : Nat := if errW l a = 0 then f (a / 8) else 0
set_option maxHeartbeats 400000 in
theorem load_any (l : List Rg) (f : Nat → Nat) (B g a : Nat) (w : World) (h : MemIs w B g l f) (hok : l.all Rg.ok = true) (ha : a < 18446744073709551616) :
    Calls Try.prog 13 #[.pointer (some ⟨g, 0, none⟩), .int .u64 a] w fun e w' => e = .returned (.tuple #[.int .u64 (loadV l f a), .int .i64 (errW l a)]) ∧ Below w.heap.size w w' := by
  have HC := Lib.hid (checkWord_any l f B g a w h hok ha)
  have HM := Lib.hid h
  by_cases h0 : errW l a = 0
  · have ha8 : a < 65536 := errB_lt hok (errW_0 h0).2
    rw [loadV, if_pos h0, h0]
    rw [h0] at HC
    obtain ⟨v, hv⟩ : ∃ v, f (a / 8) = v := ⟨_, rfl⟩
    rw [hv]
    have HV := Lib.hid hv
    clear hv h h0
    have hlt : a / 8 < 8192 := by omega
    go_enter Try.func13, Try.ntmps13
    go_wp2_with (first | (go_at_call 38; refine HC.out.mono ?_; rintro e w' ⟨rfl, hB⟩; have hc := ((HM.out.later hB).cell (a / 8) hlt).1; rw [HV.out] at hc; have HB := Lib.hid hB; clear hB))
    go_ret2
    exact ⟨rfl, HB.out⟩
  · have d0 : (errW l a != 0) = true := by simpa using h0
    rw [loadV, if_neg h0]
    generalize errW l a = z at HC d0 ⊢
    clear h h0
    go_enter Try.func13, Try.ntmps13
    go_wp2_with (first | (go_at_call 38; refine HC.out.mono ?_; rintro e w' ⟨rfl, hB⟩))
    go_ret2
    exact ⟨rfl, hB⟩
/-- a memory in which one word was stored -/
def upd (f : Nat → Nat) (j x : Nat) : Nat → Nat := fun i => if i = j then x else f i
/-- what was is as it was, but block g -/
structure Agr (g : Nat) (w w' : World) : Prop where
  os : w'.os = w.os
  tape : w'.tape = w.tape
  output : w'.output = w.output
  size : w.heap.size ≤ w'.heap.size
  block : ∀ k, k < w.heap.size → k ≠ g → w'.heap[k]? = w.heap[k]?
theorem Agr.of {g : Nat} {w w' : World} (h : Below w.heap.size w w') : Agr g w w' := ⟨h.os, h.tape, h.output, h.size, fun k hk _ => h.block k hk⟩
theorem Agr.trans {g : Nat} {a b c : World} (h : Agr g a b) (k : Agr g b c) : Agr g a c :=
  ⟨k.os.trans h.os, k.tape.trans h.tape, k.output.trans h.output, Nat.le_trans h.size k.size, fun i hi hg => (k.block i (Nat.lt_of_lt_of_le hi h.size) hg).trans (h.block i hi hg)⟩
theorem Agr.below {g B : Nat} {w0 w w' : World} (h : Below B w0 w) (k : Agr g w w') (hg : B ≤ g) (hB : B ≤ w.heap.size) : Below B w0 w' :=
  h.trans ⟨k.os, k.tape, k.output, k.size, fun i hi => k.block i (Nat.lt_of_lt_of_le hi hB) (by omega)⟩
theorem Agr.setCell {g o : Nat} {w : World} (u : Value) : Agr g w (w.setCell ⟨g, o, none⟩ u) :=
  ⟨rfl, rfl, rfl, by simp [World.setCell], fun k _ hk => Below.heap_setCell _ _ _ _ hk⟩
theorem Agr.drewN {g n : Nat} {w : World} : Agr g w (w.drewN n) := ⟨rfl, rfl, rfl, Nat.le_refl _, fun _ _ _ => rfl⟩

theorem MemIs.set {w : World} {B g : Nat} {l : List Rg} {f : Nat → Nat} (h : MemIs w B g l f) (j x : Nat) (hj : j < 8192) (hx : x < 18446744073709551616) : MemIs (w.setCell ⟨g, 2 + j, none⟩ (.int .u64 x)) B g l (upd f j x) := by
  obtain ⟨p, c, q, h1, h2, h3, h4, h5, h6, h7, h8, h9, h10, h11, h12, h13⟩ := h
  have hc : ∀ b o, ¬ (b = g ∧ o = 2 + j) → (w.setCell ⟨g, 2 + j, none⟩ (.int .u64 x)).cell? ⟨b, o, none⟩ = w.cell? ⟨b, o, none⟩ := fun b o hne =>
    World.cell?_setCell_other _ _ _ _ (fun e => hne (by cases e; exact ⟨rfl, rfl⟩))
  refine ⟨p, c, q, (hc _ _ (by omega)).trans h1, (hc _ _ (by omega)).trans h2, (hc _ _ (by omega)).trans h3, ⟨h4.1, ?_⟩, h5, h6, by simpa [World.setCell] using h7, h8, h9, h10, h11, fun i hi => ⟨?_, ?_⟩, fun i => ?_⟩
  · rcases h4.2 with h0 | ⟨b, o, hp, hb, ha⟩
    · exact .inl h0
    · exact .inr ⟨b, o, hp, hb, RgAt.keep (fun _ => hc _ _ (by omega)) l o ha⟩
  · by_cases e : i = j
    · subst e
      rw [World.cell?_setCell_same _ _ _ (h12 i hi).1, upd, if_pos rfl]
    · rw [hc _ _ (by omega), (h12 i hi).1, upd, if_neg e]
  · rw [World.frozen?_setCell]; exact (h12 i hi).2
  · unfold upd; split <;> simp_all
theorem MemIs.drewN {w : World} {B g n : Nat} {l : List Rg} {f : Nat → Nat} (h : MemIs w B g l f) : MemIs (w.drewN n) B g l f := h.later (below_drewN (Below.refl _ _) n)

set_option maxHeartbeats 400000 in
theorem store_no (l : List Rg) (f : Nat → Nat) (B g a x : Nat) (w : World) (h : MemIs w B g l f) (hok : l.all Rg.ok = true) (ha : a < 18446744073709551616) (h0 : errW l a ≠ 0) :
    Calls Try.prog 28 #[.pointer (some ⟨g, 0, none⟩), .int .u64 a, .int .u64 x] w fun e w' => e = .returned (.int .i64 (errW l a)) ∧ Below w.heap.size w w' := by
  have HC := Lib.hid (checkWord_any l f B g a w h hok ha)
  have d0 : (errW l a != 0) = true := by simpa using h0
  generalize errW l a = z at HC d0 ⊢
  clear h h0
  go_enter Try.func28, Try.ntmps28
  go_wp2_with (first | (go_at_call 38; refine HC.out.mono ?_; rintro e w' ⟨rfl, hB⟩))
  go_ret
  exact ⟨rfl, hB⟩
set_option maxHeartbeats 400000 in
theorem store_yes (l : List Rg) (f : Nat → Nat) (B g a x : Nat) (w : World) (h : MemIs w B g l f) (hok : l.all Rg.ok = true) (ha : a < 18446744073709551616) (h0 : errW l a = 0) (hx : x < 18446744073709551616) :
    Calls Try.prog 28 #[.pointer (some ⟨g, 0, none⟩), .int .u64 a, .int .u64 x] w fun e w' => e = .returned (.int .i64 0) ∧ MemIs w' B g l (upd f (a / 8) x) ∧ Agr g w w' := by
  have HC := Lib.hid (checkWord_any l f B g a w h hok ha)
  have HM := Lib.hid h
  have ha8 : a < 65536 := errB_lt hok (errW_0 h0).2
  rw [h0] at HC
  clear h h0
  have hlt : a / 8 < 8192 := by omega
  go_enter Try.func28, Try.ntmps28
  go_wp2_with (first | (go_at_call 38; refine HC.out.mono ?_; rintro e w' ⟨rfl, hB⟩; obtain ⟨hc, hz⟩ := (HM.out.later hB).cell (a / 8) hlt; have HB := Lib.hid hB; clear hB))
  go_ret
  exact ⟨rfl, (HM.out.later HB.out).set _ _ hlt hx, (Agr.of HB.out).trans (Agr.setCell _)⟩

set_option maxHeartbeats 400000 in
theorem place_any (l : List Rg) (f : Nat → Nat) (B g a : Nat) (w : World) (h : MemIs w B g l f) (hok : l.all Rg.ok = true) (ha : a < 18446744073709551616) :
    Calls Try.prog 17 #[.pointer (some ⟨g, 0, none⟩), .int .u64 a] w fun e w' => e = .returned (.tuple #[.int .i64 (placeOf l a).1, .int .i64 (placeOf l a).2]) ∧ Below w.heap.size w w' := by
  have HI := Lib.hid h.isn
  obtain ⟨p, c, q, h1, h2, h3, h4, h5, h6, h7, h8, h9, h10, h11, h12, h13⟩ := h
  have HW := Lib.hid (where_any l p c g q a w h4 (by omega) h3 (by omega) hok ha)
  clear h4 h8 h10 h11 h12 h1 h3
  generalize placeOf l a = z at HW ⊢
  go_enter Try.func17, Try.ntmps17
  go_wp2_with (first | (go_at_call 43; (with_reducible refine HI.out.mono ?_); rintro e w' ⟨rfl, rfl⟩) | (go_at_call 63; refine HW.out.mono ?_; rintro e w' ⟨rfl, hB⟩))
  go_ret2
  exact ⟨rfl, hB⟩
end Go.Proofs.Ytajjpaabkdgjbaa
