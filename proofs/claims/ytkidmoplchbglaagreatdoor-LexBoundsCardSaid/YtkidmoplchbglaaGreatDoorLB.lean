/- The law at the bounds: its walk. -/
import Derived.Test.YtkidmoplchbglaaGreatDoorH4
import Derived.Laws.IdiomStrings
import Derived.Outline
namespace Go.Proofs.YtkidmoplchbglaaGreatDoor
open Go.RowKit

theorem info_u8 : (Tryz.prog.info? 5).map (fun i => (i.zero, i.size, i.bytes)) = some (some (.int .u8 0), 1, 1) := by kernel_rfl
theorem make_bytes : ∃ Z : Array Value, (∀ w : World, (Instr.makeSlice 53 (.int .i64 65536) (.int .i64 65536)).run Tryz.prog w = .ok (.slice (some ⟨w.heap.size, 0, none⟩) 65536 65536) (w.alloc (.cells Z 5 (0, 0)))) ∧ ∀ j, j < 65536 → Z[j]? = some (.int .u8 0) := by
  obtain ⟨i0, hi, hz0, hz1, hz2⟩ := info_parts info_u8
  refine ⟨madeCells #[.int .u8 0] 65536, fun w => ?_, fun j hj => ?_⟩
  · have h := run_make (P := Tryz.prog) w 53 5 i0 (.int .u8 0) Tryz.underlying53 hi hz0 .i64 .i64 65536 65536 (by decide) (by decide) (by rw [hz2]; decide) (by decide)
    rw [hz1] at h
    exact h
  · have h := toList_madeCells_one (.int .u8 0) 65536
    rw [← Array.getElem?_toList, h, List.getElem?_replicate, if_pos hj]
theorem conv_bytes (l : List UInt8) (b n c : Nat) (hn : n = l.length) (w : World) (h : ∀ j x, l[j]? = some x → w.cell? ⟨b, j, none⟩ = some (.int .u8 (x.toNat : Int))) :
    (convert 53 9 (.slice (some ⟨b, 0, none⟩) n c)).run Tryz.prog w = .ok (.string (str l)) w := by
  subst hn
  exact run_convert_bytes_back (P := Tryz.prog) w 53 9 5 ⟨b, 0, none⟩ c l Tryz.underlying53 Tryz.underlying5 Tryz.underlying9 (fun j hj => by
    have e : (⟨b, 0, none⟩ : Addr).add j = ⟨b, j, none⟩ := by
      rcases j with _ | j
      · rfl
      · simp [Addr.add]
    rw [e]; exact h j _ (List.getElem?_eq_getElem hj))
theorem lexF_blank (l : List UInt8) (h : ∀ c ∈ l, isBlank c = true) (f a : Nat) : lexF l f a = ([], none) := by
  induction f generalizing a with
  | zero => rfl
  | succ f ih =>
    rw [lexF]
    split
    · rfl
    · rename_i ha
      have hlt : a < l.length := by omega
      rw [drop_head hlt, if_pos (h _ (List.getElem_mem hlt))]
      exact ih _
/-- as many blanks as a text may have -/
structure Blanks (sp : List UInt8) : Prop where
  len : sp.length = 65536
  each : ∀ c ∈ sp, c = 32
theorem Blanks.some : ∃ sp, Blanks sp := ⟨List.replicate 65536 32, List.length_replicate, fun _ h => List.eq_of_mem_replicate h⟩
theorem Blanks.all {sp : List UInt8} (h : Blanks sp) : allT sp = [] ∧ allF sp = (0, 0, 0) := by
  have e : lexAll sp = ([], none) := lexF_blank sp (fun c hc => by rw [h.each c hc]; rfl) _ _
  have h1 := all_none (l := sp) (by rw [h.len]; omega) (by rw [e])
  rw [e] at h1
  exact h1
theorem Blanks.more {sp : List UInt8} (h : Blanks sp) : allT (sp ++ [32]) = [] ∧ allF (sp ++ [32]) = (3, 0, 0) := all_long (by rw [List.length_append, h.len]; decide)
/-- the bytes so far -/
def OutB (w : World) (g k : Nat) : Prop := g < w.heap.size ∧ ∀ i, i < 65536 → ∃ u, w.cell? ⟨g, i, none⟩ = some u ∧ w.frozen? ⟨g, i, none⟩ = false ∧ (i < k → u = .int .u8 32)
theorem OutB.put {w : World} {g k : Nat} (h : OutB w g k) (hk : k < 65536) : OutB (w.setCell ⟨g, k, none⟩ (.int .u8 32)) g (k + 1) := by
  refine ⟨by simp [World.setCell]; exact h.1, fun i hi => ?_⟩
  obtain ⟨u, h1, h2, h3⟩ := h.2 i hi
  by_cases e : i = k
  · subst e
    exact ⟨_, World.cell?_setCell_same _ _ _ h1, by rw [World.frozen?_setCell]; exact h2, fun _ => rfl⟩
  · refine ⟨u, ?_, by rw [World.frozen?_setCell]; exact h2, fun hik => h3 (by omega)⟩
    rw [World.cell?_setCell_other _ _ _ _ (fun h => e (by cases h; rfl))]; exact h1
theorem OutB.reads {w : World} {g : Nat} {sp : List UInt8} (h : OutB w g 65536) (hs : Blanks sp) : ∀ j x, sp[j]? = some x → w.cell? ⟨g, j, none⟩ = some (.int .u8 (x.toNat : Int)) := by
  intro j x hx
  have hj : j < 65536 := by rw [← hs.len]; exact (List.getElem?_eq_some_iff.1 hx).1
  obtain ⟨u, h1, _, h3⟩ := h.2 j hj
  rw [h1, h3 hj, hs.each x (List.mem_of_getElem? hx)]; rfl
theorem OutB.later {w w' : World} {g k : Nat} (h : OutB w g k) (hB : Below w.heap.size w w') : OutB w' g k :=
  ⟨Nat.lt_of_lt_of_le h.1 hB.size, fun i hi => by
    obtain ⟨u, h1, h2, h3⟩ := h.2 i hi
    exact ⟨u, (hB.cell (p := ⟨g, i, none⟩) h.1).trans h1, (hB.frozen (p := ⟨g, i, none⟩) h.1).trans h2, h3⟩⟩
theorem b_n : numV [49, 56, 52, 52, 54, 55, 52, 52, 48, 55, 51, 55, 48, 57, 53, 53, 49, 54, 49, 53] = 18446744073709551615 ∧ numE [49, 56, 52, 52, 54, 55, 52, 52, 48, 55, 51, 55, 48, 57, 53, 53, 49, 54, 49, 53] = 0 := by decide +kernel
theorem b_f0 : allT [97, 32, 33] = [] ∧ allF [97, 32, 33] = (15, 1, 3) := by decide +kernel
theorem b_f1 : allT [10, 10, 32, 49, 120] = [] ∧ allF [10, 10, 32, 49, 120] = (15, 3, 2) := by decide +kernel
theorem b_f2 : allT [120, 32, 35, 10, 57, 57, 57, 57, 57, 57, 57, 57, 57, 57, 57, 57, 57, 57, 57, 57, 57, 57, 57, 57] = [] ∧ allF [120, 32, 35, 10, 57, 57, 57, 57, 57, 57, 57, 57, 57, 57, 57, 57, 57, 57, 57, 57, 57, 57, 57, 57] = (15, 2, 1) := by decide +kernel
theorem b_f3 : allT [95, 97] = [] ∧ allF [95, 97] = (15, 1, 1) := by decide +kernel
theorem b_f4 : allT [65] = [] ∧ allF [65] = (15, 1, 1) := by decide +kernel
theorem b_t0 : plainL (allT [97, 98, 99, 100, 101, 102, 103, 104, 105, 106, 107, 108, 109, 110, 111, 112]) = [97, 98, 99, 100, 101, 102, 103, 104, 105, 106, 107, 108, 109, 110, 111, 112] ∧ allF [97, 98, 99, 100, 101, 102, 103, 104, 105, 106, 107, 108, 109, 110, 111, 112] = (0, 0, 0) ∧ (allT [97, 98, 99, 100, 101, 102, 103, 104, 105, 106, 107, 108, 109, 110, 111, 112]).length ≤ 1000000 ∧ (plainL (allT [97, 98, 99, 100, 101, 102, 103, 104, 105, 106, 107, 108, 109, 110, 111, 112])).length ≤ 140737488355328 := by decide +kernel
theorem b_t1 : plainL (allT [62, 62, 62, 62, 62, 61, 45, 62, 61, 61, 60, 60, 61]) = [62, 62, 62, 62, 32, 62, 32, 61, 32, 45, 62, 32, 61, 61, 32, 60, 60, 32, 61] ∧ allF [62, 62, 62, 62, 62, 61, 45, 62, 61, 61, 60, 60, 61] = (0, 0, 0) ∧ (allT [62, 62, 62, 62, 62, 61, 45, 62, 61, 61, 60, 60, 61]).length ≤ 1000000 ∧ (plainL (allT [62, 62, 62, 62, 62, 61, 45, 62, 61, 61, 60, 60, 61])).length ≤ 140737488355328 := by decide +kernel
theorem b_t2 : plainL (allT [35]) = [] ∧ allF [35] = (0, 0, 0) ∧ (allT [35]).length ≤ 1000000 ∧ (plainL (allT [35])).length ≤ 140737488355328 := by decide +kernel
theorem b_t3 : plainL (allT []) = [] ∧ allF [] = (0, 0, 0) ∧ (allT []).length ≤ 1000000 ∧ (plainL (allT [])).length ≤ 140737488355328 := by decide +kernel

set_option maxRecDepth 100000 in
set_option maxHeartbeats 3200000 in
theorem bounds_law (w : World) (hG : Glob w) : Calls Tryz.prog 8 #[] w fun e w' => e = .returned (.bool true) ∧ Below w.heap.size w w' := by
  obtain ⟨Z, hmk, hZ⟩ := make_bytes
  obtain ⟨sp, hsp⟩ := Blanks.some
  have HSp := Lib.hid hsp
  have HZ := Lib.hid hZ
  have HG := Lib.hid hG
  have h3 := hG.2.2.2
  clear hsp hZ hG
  have HF0 := Lib.hid (fun w h => fault_any ⟨#[97, 32, 33]⟩ 15 1 3 w (by decide) h b_f0.1 b_f0.2)
  have HF1 := Lib.hid (fun w h => fault_any ⟨#[10, 10, 32, 49, 120]⟩ 15 3 2 w (by decide) h b_f1.1 b_f1.2)
  have HF2 := Lib.hid (fun w h => fault_any ⟨#[120, 32, 35, 10, 57, 57, 57, 57, 57, 57, 57, 57, 57, 57, 57, 57, 57, 57, 57, 57, 57, 57, 57, 57]⟩ 15 2 1 w (by decide) h b_f2.1 b_f2.2)
  have HF3 := Lib.hid (fun w h => fault_any ⟨#[95, 97]⟩ 15 1 1 w (by decide) h b_f3.1 b_f3.2)
  have HF4 := Lib.hid (fun w h => fault_any ⟨#[65]⟩ 15 1 1 w (by decide) h b_f4.1 b_f4.2)
  have HT0 := Lib.hid (fun w h => texts_any ⟨#[97, 98, 99, 100, 101, 102, 103, 104, 105, 106, 107, 108, 109, 110, 111, 112]⟩ ⟨#[97, 98, 99, 100, 101, 102, 103, 104, 105, 106, 107, 108, 109, 110, 111, 112]⟩ w (by decide) h b_t0.2.2.1 b_t0.2.2.2 b_t0.2.1 b_t0.1)
  have HT1 := Lib.hid (fun w h => texts_any ⟨#[62, 62, 62, 62, 62, 61, 45, 62, 61, 61, 60, 60, 61]⟩ ⟨#[62, 62, 62, 62, 32, 62, 32, 61, 32, 45, 62, 32, 61, 61, 32, 60, 60, 32, 61]⟩ w (by decide) h b_t1.2.2.1 b_t1.2.2.2 b_t1.2.1 b_t1.1)
  have HT2 := Lib.hid (fun w h => texts_any ⟨#[35]⟩ ⟨#[]⟩ w (by decide) h b_t2.2.2.1 b_t2.2.2.2 b_t2.2.1 b_t2.1)
  have HT3 := Lib.hid (fun w h => texts_any ⟨#[]⟩ ⟨#[]⟩ w (by decide) h b_t3.2.2.1 b_t3.2.2.2 b_t3.2.1 b_t3.1)
  have HN := Lib.hid (fun w h => number_any ⟨#[49, 56, 52, 52, 54, 55, 52, 52, 48, 55, 51, 55, 48, 57, 53, 53, 49, 54, 49, 53]⟩ w (by decide) h)
  have HK := Lib.hid (fun w h => known_any w h)
  have HAll := Lib.hid (fun w h => all_any (str sp) w (by rw [size_len, str_data, HSp.out.len]; decide) h)
  go_enter Tryz.func8, Tryz.ntmps8
  go_wp2_with fail
  clear hmk
  have HB0 := Lib.hid ((Below.refl _ w).alloc (Nat.le_refl _) (.cells Z 5 (0, 0)))
  have HO0 : Hid (OutB (w.alloc (.cells Z 5 (0, 0))) w.heap.size 0) := Lib.hid ⟨by simp, fun i hi =>
    ⟨.int .u8 0, by rw [cell_of_row _ _ _ _ _ _ (heap_alloc_new w _)]; exact HZ.out i hi, by unfold World.frozen?; simp only [heap_alloc_new w (.cells Z 5 (0, 0))]; simp, fun h => absurd h (Nat.not_lt_zero _)⟩⟩
  go_loopw [2] (fun i wr => ∃ k : Nat, i = .int .i64 k ∧ k ≤ 65536 ∧ Hid (OutB wr w.heap.size k) ∧ Hid (Below w.heap.size w wr)) (fun i _ => 65536 - (intOf i).toNat)
  case atStart => exact ⟨0, rfl, by omega, HO0, HB0⟩
  case round =>
    obtain ⟨k, rfl, hk, hOut, hB⟩ := hrel
    by_cases hlt : k < 65536
    · obtain ⟨u, hu, hf, _⟩ := hOut.out.2 k hlt
      have HPt := Lib.hid (hOut.out.put hlt)
      have HBn := Lib.hid (hB.out.setCell (p := ⟨w.heap.size, k, none⟩) (Nat.le_refl _) (.int .u8 32))
      have i0 : (0 : Int) ≤ (k : Int) := by omega
      have i1 : (k : Int) < 65536 := by omega
      go_wp2_with fail
      go_roundw
      case rel => exact ⟨k + 1, by go_num, by omega, HPt, HBn⟩
      case measure => simp [intOf]; omega
    · obtain rfl : k = 65536 := by omega
      have hcv := conv_bytes sp w.heap.size 65536 65536 HSp.out.len.symm wr (hOut.out.reads HSp.out)
      go_wp2_with fail
      refine (HAll.out _ (HG.out.later h3 hB.out)).mono ?_
      rintro e w1 ⟨⟨v, rfl, hR⟩, hB1⟩
      rw [str_data, HSp.out.all.1] at hR
      rw [str_data, HSp.out.all.2]
      obtain ⟨p, cap, rfl, _⟩ := hR.reads
      have HB1 := Lib.hid (hB.out.trans (hB1.mono hB.out.size))
      have HB2 := Lib.hid (HB1.out.alloc HB1.out.size (.cells #[.int .i64 0, .int .i64 0, .int .i64 0] 26))
      have HFb := Lib.hid (heap_alloc_new w1 (.cells #[.int .i64 0, .int .i64 0, .int .i64 0] 26))
      have HO1 := Lib.hid ((hOut.out.later hB1).later ((Below.refl _ w1).alloc (Nat.le_refl _) (.cells #[.int .i64 0, .int .i64 0, .int .i64 0] 26)))
      clear hB1 hR hcv
      have q1 : ∀ w : World, (binOp .eql 26 (.agg #[.int .i64 0, .int .i64 0, .int .i64 0]) (.agg #[.int .i64 0, .int .i64 0, .int .i64 0])).run Tryz.prog w = .ok (.bool true) w := fun _ => by kernel_rfl
      go_wp2_with fail
      refine (HN.out _ (HG.out.later h3 HB2.out)).mono ?_
      rintro e w2 ⟨rfl, hB⟩
      have HB3 := Lib.hid (HB2.out.trans (hB.mono HB2.out.size))
      have hF2 := (hB.block w1.heap.size (by simp)).trans HFb.out
      have hcv := conv_bytes sp w.heap.size 65536 65536 HSp.out.len.symm w2 ((HO1.out.later hB).reads HSp.out)
      have n1 : (numV (⟨#[49, 56, 52, 52, 54, 55, 52, 52, 48, 55, 51, 55, 48, 57, 53, 53, 49, 54, 49, 53]⟩ : ByteArray).data.toList : Int) = 18446744073709551615 := by have := b_n.1; exact congrArg Int.ofNat this
      have n2 : numE (⟨#[49, 56, 52, 52, 54, 55, 52, 52, 48, 55, 51, 55, 48, 57, 53, 53, 49, 54, 49, 53]⟩ : ByteArray).data.toList = 0 := b_n.2
      rw [n1, n2]
      clear hB n1 n2 HFb HB2 HO1
      have d0 : w2.cell? ⟨w1.heap.size, 0, none⟩ = some (.int .i64 0) := by simp [World.cell?, hF2]
      have d1 : w2.cell? ⟨w1.heap.size, 1, none⟩ = some (.int .i64 0) := by simp [World.cell?, hF2]
      have d2 : w2.cell? ⟨w1.heap.size, 2, none⟩ = some (.int .i64 0) := by simp [World.cell?, hF2]
      clear hF2
      have hsz : ¬ 9223372036854775807 < (str sp).size + 1 := by rw [size_len, str_data, HSp.out.len]; decide
      have HLg := Lib.hid (fun w h => fault_any (str sp ++ ⟨#[32]⟩) 3 0 0 w (by rw [ByteArray.size_append, size_len, str_data, HSp.out.len]; decide) h (by rw [show (str sp ++ ⟨#[32]⟩ : ByteArray).data.toList = sp ++ [32] by rw [ByteArray.data_append]; simp [str]]; exact HSp.out.more.1) (by rw [show (str sp ++ ⟨#[32]⟩ : ByteArray).data.toList = sp ++ [32] by rw [ByteArray.data_append]; simp [str]]; exact HSp.out.more.2))
      go_wp2_with fail
      refine (HLg.out _ (HG.out.later h3 HB3.out)).mono ?_
      rintro e w3 ⟨rfl, hB⟩
      have HC3 := Lib.hid (HB3.out.trans (hB.mono HB3.out.size))
      clear hB HB3 d0 d1 d2 hcv
      go_wp2_with fail
      refine (num_any 0 _).mono ?_
      rintro e w' ⟨rfl, rfl⟩
      go_wp2_with fail
      refine (HT0.out _ (HG.out.later h3 HC3.out)).mono ?_
      rintro e w4 ⟨rfl, hB⟩
      have HC4 := Lib.hid (HC3.out.trans (hB.mono HC3.out.size))
      clear hB HC3
      go_wp2_with fail
      refine (HT1.out _ (HG.out.later h3 HC4.out)).mono ?_
      rintro e w5 ⟨rfl, hB⟩
      have HC5 := Lib.hid (HC4.out.trans (hB.mono HC4.out.size))
      clear hB HC4
      go_wp2_with fail
      refine (HF0.out _ (HG.out.later h3 HC5.out)).mono ?_
      rintro e w6 ⟨rfl, hB⟩
      have HC6 := Lib.hid (HC5.out.trans (hB.mono HC5.out.size))
      clear hB HC5
      go_wp2_with fail
      refine (HF1.out _ (HG.out.later h3 HC6.out)).mono ?_
      rintro e w7 ⟨rfl, hB⟩
      have HC7 := Lib.hid (HC6.out.trans (hB.mono HC6.out.size))
      clear hB HC6
      go_wp2_with fail
      refine (HF2.out _ (HG.out.later h3 HC7.out)).mono ?_
      rintro e w8 ⟨rfl, hB⟩
      have HC8 := Lib.hid (HC7.out.trans (hB.mono HC7.out.size))
      clear hB HC7
      go_wp2_with fail
      refine (HT2.out _ (HG.out.later h3 HC8.out)).mono ?_
      rintro e w9 ⟨rfl, hB⟩
      have HC9 := Lib.hid (HC8.out.trans (hB.mono HC8.out.size))
      clear hB HC8
      go_wp2_with fail
      refine (HT3.out _ (HG.out.later h3 HC9.out)).mono ?_
      rintro e w10 ⟨rfl, hB⟩
      have HC10 := Lib.hid (HC9.out.trans (hB.mono HC9.out.size))
      clear hB HC9
      go_wp2_with fail
      refine (HF3.out _ (HG.out.later h3 HC10.out)).mono ?_
      rintro e w11 ⟨rfl, hB⟩
      have HC11 := Lib.hid (HC10.out.trans (hB.mono HC10.out.size))
      clear hB HC10
      go_wp2_with fail
      refine (HF4.out _ (HG.out.later h3 HC11.out)).mono ?_
      rintro e w12 ⟨rfl, hB⟩
      have HC12 := Lib.hid (HC11.out.trans (hB.mono HC11.out.size))
      clear hB HC11
      go_wp2_with fail
      refine (HK.out _ (HG.out.later h3 HC12.out)).mono ?_
      rintro e w13 ⟨rfl, hB⟩
      have HC13 := Lib.hid (HC12.out.trans (hB.mono HC12.out.size))
      clear hB HC12
      go_wp2_with fail
      go_ret
      exact ⟨rfl, HC13.out⟩
end Go.Proofs.YtkidmoplchbglaaGreatDoor
