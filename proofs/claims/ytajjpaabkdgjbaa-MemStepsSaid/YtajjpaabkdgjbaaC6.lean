/- The stack's bytes; a text of bytes. -/
import Derived.Test.YtajjpaabkdgjbaaBA
import Derived.Test.YtajjpaabkdgjbaaBF
import Derived.Laws.IdiomStrings
namespace Go.Proofs.Ytajjpaabkdgjbaa
open Go.RowKit

theorem make_st : ∃ Z : Array Value, (∀ w : World, (Instr.makeSlice 49 (.int .i64 16384) (.int .i64 16384)).run Try.prog w = .ok (.slice (some ⟨w.heap.size, 0, none⟩) 16384 16384) (w.alloc (.cells Z 5 (0, 0)))) ∧ ∀ j, j < 16384 → Z[j]? = some (.int .u8 0) := by
  obtain ⟨i0, hi, hz0, hz1, hz2⟩ := info_parts info_u8
  refine ⟨madeCells #[.int .u8 0] 16384, fun w => ?_, fun j hj => ?_⟩
  · have h := run_make (P := Try.prog) w 49 5 i0 (.int .u8 0) Try.underlying49 hi hz0 .i64 .i64 16384 16384 (by decide) (by decide) (by rw [hz2]; decide) (by decide)
    rw [hz1] at h
    exact h
  · have h := toList_madeCells_one (.int .u8 0) 16384
    rw [← Array.getElem?_toList, h, List.getElem?_replicate, if_pos hj]

/-- the first k of the stack's bytes are there -/
def StIs (w : World) (go k : Nat) (f : Nat → Nat) : Prop :=
  ∀ i, i < 16384 → ∃ u, w.cell? ⟨go, i, none⟩ = some u ∧ w.frozen? ⟨go, i, none⟩ = false ∧ (i < k → u = .int .u8 (byteOf (f ((49152 + i) / 8)) ((49152 + i) % 8) : Nat))
theorem StIs.step {wr w1 : World} {go k : Nat} {f : Nat → Nat} (h : StIs wr go k f) (hgo : go < wr.heap.size) (hB : Below wr.heap.size wr w1) (hk : k < 16384) :
    StIs (w1.setCell ⟨go, k, none⟩ (.int .u8 (byteOf (f ((49152 + k) / 8)) ((49152 + k) % 8) : Nat))) go (k + 1) f := by
  intro i hi
  obtain ⟨u, hu, hf, hr⟩ := h i hi
  have hu1 := (hB.cell (p := ⟨go, i, none⟩) hgo).trans hu
  have hf1 := (hB.frozen (p := ⟨go, i, none⟩) hgo).trans hf
  by_cases e : i = k
  · subst e
    exact ⟨_, World.cell?_setCell_same _ _ _ hu1, by rw [World.frozen?_setCell]; exact hf1, fun _ => rfl⟩
  · refine ⟨u, ?_, by rw [World.frozen?_setCell]; exact hf1, fun hik => hr (by omega)⟩
    rw [World.cell?_setCell_other _ _ _ _ (fun h => e (by cases h; rfl))]; exact hu1

set_option maxRecDepth 100000 in
set_option maxHeartbeats 3200000 in
theorem stack_any (l : List Rg) (f : Nat → Nat) (B g : Nat) (w : World) (h : MemIs w B g l f) :
    Calls Try.prog 22 #[.pointer (some ⟨g, 0, none⟩)] w fun e w' => (e = .returned (.slice (some ⟨w.heap.size, 0, none⟩) 16384 16384) ∧ StIs w' w.heap.size 16384 f) ∧ Below w.heap.size w w' := by
  have HI := Lib.hid h.isn
  have HM := Lib.hid h
  obtain ⟨Z, hmk, hZ⟩ := make_st
  have HZ := Lib.hid hZ
  clear h hZ
  go_enter Try.func22, Try.ntmps22
  go_wp2_with (first | (go_at_call 43; (with_reducible refine HI.out.mono ?_); rintro e w' ⟨rfl, rfl⟩))
  have HB0 := Lib.hid ((Below.refl _ w).alloc (Nat.le_refl _) (.cells Z 5 (0, 0)))
  have HO0 : Hid (StIs (w.alloc (.cells Z 5 (0, 0))) w.heap.size 0 f) := Lib.hid fun i hi =>
    ⟨.int .u8 0, by rw [cell_of_row _ _ _ _ _ _ (heap_alloc_new w _)]; exact HZ.out i hi, by unfold World.frozen?; simp only [heap_alloc_new w (.cells Z 5 (0, 0))]; simp, fun h => absurd h (Nat.not_lt_zero _)⟩
  clear hmk
  go_loopw [10] (fun i wr => ∃ k : Nat, i = .int .i64 k ∧ k ≤ 16384 ∧ w.heap.size < wr.heap.size ∧ Hid (StIs wr w.heap.size k f) ∧ Hid (Below w.heap.size w wr)) (fun i _ => 16384 - (intOf i).toNat)
  case atStart => exact ⟨0, rfl, by omega, by simp, HO0, HB0⟩
  case round =>
    obtain ⟨k, rfl, hk, hgo, hOut, hB⟩ := hrel
    by_cases hlt : k < 16384
    · have HY := Lib.hid (byteAt_any l f B g (49152 + k) wr (HM.out.later hB.out) (by omega))
      simp only [Int.natCast_add, Int.cast_ofNat_Int] at HY
      have i0 : (0 : Int) ≤ (k : Int) := by omega
      have i1 : (k : Int) < 16384 := by omega
      have HST := Lib.hid (fun (w1 : World) (hb : Below wr.heap.size wr w1) => hOut.out.step hgo hb hlt)
      generalize byteOf (f ((49152 + k) / 8)) ((49152 + k) % 8) = y at HY HST
      go_wp2_with fail
      refine HY.out.mono ?_
      rintro e w1 ⟨rfl, hB1⟩
      obtain ⟨u0, hu0, hf0, _⟩ := hOut.out k hlt
      have hu1 := (hB1.cell (p := ⟨w.heap.size, k, none⟩) hgo).trans hu0
      have hf1 := (hB1.frozen (p := ⟨w.heap.size, k, none⟩) hgo).trans hf0
      have HO1 := Lib.hid (HST.out w1 hB1)
      have HB1 := Lib.hid ((hB.out.trans (hB1.mono hB.out.size)).setCell (p := ⟨w.heap.size, k, none⟩) (Nat.le_refl _) (.int .u8 (y : Int)))
      have hz1 := hB1.size
      clear hB1 hu0 hf0
      go_wp2_with fail
      go_roundw
      case rel => exact ⟨k + 1, by go_num, by omega, by simp [World.setCell]; omega, HO1, HB1⟩
      case measure => simp [intOf]; omega
    · obtain rfl : k = 16384 := by omega
      go_wp2_with fail
      go_ret
      exact ⟨⟨rfl, hOut.out⟩, hB.out⟩

/-- the text of bytes -/
def strOf (bt : Nat → Nat) (off n : Nat) : ByteArray := ⟨((List.range n).map fun i => UInt8.ofNat (bt (off + i))).toArray⟩
theorem conv_str (bt : Nat → Nat) (hb : ∀ j, bt j < 256) (off n b o cap : Nat) (w : World) (h : ∀ j, j < n → w.cell? ⟨b, o + j, none⟩ = some (.int .u8 (bt (off + j) : Nat))) :
    (convert 49 9 (.slice (some ⟨b, o, none⟩) n cap)).run Try.prog w = .ok (.string (strOf bt off n)) w := by
  have h0 := run_convert_bytes_back (P := Try.prog) w 49 9 5 ⟨b, o, none⟩ cap ((List.range n).map fun i => UInt8.ofNat (bt (off + i))) Try.underlying49 Try.underlying5 Try.underlying9 (fun j hj => by
    have hj' : j < n := by simpa using hj
    rw [add_of, h j hj']
    simp only [List.getElem_map, List.getElem_range]
    rw [UInt8.toNat_ofNat_of_lt' (hb _)])
  rw [List.length_map, List.length_range] at h0
  exact h0
end Go.Proofs.Ytajjpaabkdgjbaa
