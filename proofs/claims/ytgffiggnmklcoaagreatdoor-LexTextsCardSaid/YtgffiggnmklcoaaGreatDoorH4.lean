/- The chapter's rows: known. -/
import Derived.Test.YtgffiggnmklcoaaGreatDoorH3
import Derived.Outline
namespace Go.Proofs.YtgffiggnmklcoaaGreatDoor
open Go.RowKit

theorem k_a : allT [97, 32, 35, 32, 98, 10, 99] = [⟨1, [97], 0, 1, 1⟩, ⟨1, [99], 0, 2, 1⟩] ∧ allF [97, 32, 35, 32, 98, 10, 99] = (0, 0, 0) := by decide +kernel
theorem k_x1 : allT [120, 49, 32, 61, 32, 48, 55] = [] ∧ allF [120, 49, 32, 61, 32, 48, 55] = (15, 1, 6) := by decide +kernel
theorem k_sh : plainL (allT [120, 60, 60, 60, 61]) = [120, 32, 60, 60, 60, 32, 61] ∧ allF [120, 60, 60, 60, 61] = (0, 0, 0) ∧ (allT [120, 60, 60, 60, 61]).length = 3 := by decide +kernel
theorem k_d : allT [36] = [] ∧ allF [36] = (15, 1, 1) := by decide +kernel
theorem k_l : allT [97, 98, 99, 100, 101, 102, 103, 104, 105, 106, 107, 108, 109, 110, 111, 112, 113] = [] ∧ allF [97, 98, 99, 100, 101, 102, 103, 104, 105, 106, 107, 108, 109, 110, 111, 112, 113] = (8, 1, 1) := by decide +kernel
theorem k_n : numV [49, 56, 52, 52, 54, 55, 52, 52, 48, 55, 51, 55, 48, 57, 53, 53, 49, 54, 49, 54] = 0 ∧ numE [49, 56, 52, 52, 54, 55, 52, 52, 48, 55, 51, 55, 48, 57, 53, 53, 49, 54, 49, 54] = 15 := by decide +kernel
theorem k_for : nameB [102, 111, 114] = false ∧ nameB [120, 95, 49] = true ∧ nameB [49, 120] = false := by decide +kernel

set_option maxRecDepth 100000 in
set_option maxHeartbeats 3200000 in
theorem known_any (w : World) (hG : Glob w) : Calls Tryz.prog 10 #[] w fun e w' => e = .returned (.bool true) ∧ Below w.heap.size w w' := by
  have HA := Lib.hid (fun w h => all_any ⟨#[97, 32, 35, 32, 98, 10, 99]⟩ w (by decide) h)
  have HN := Lib.hid (fun w h => number_any ⟨#[49, 56, 52, 52, 54, 55, 52, 52, 48, 55, 51, 55, 48, 57, 53, 53, 49, 54, 49, 54]⟩ w (by decide) h)
  have HX := Lib.hid (fun w h => fault_any ⟨#[120, 49, 32, 61, 32, 48, 55]⟩ 15 1 6 w (by decide) h k_x1.1 k_x1.2)
  have HS := Lib.hid (fun w h => texts_any ⟨#[120, 60, 60, 60, 61]⟩ ⟨#[120, 32, 60, 60, 60, 32, 61]⟩ w (by decide) h (by show (allT [120, 60, 60, 60, 61]).length ≤ _; rw [k_sh.2.2]; decide) (by show (plainL (allT [120, 60, 60, 60, 61])).length ≤ _; rw [k_sh.1]; decide) k_sh.2.1 k_sh.1)
  have HD := Lib.hid (fun w h => fault_any ⟨#[36]⟩ 15 1 1 w (by decide) h k_d.1 k_d.2)
  have HL := Lib.hid (fun w h => fault_any ⟨#[97, 98, 99, 100, 101, 102, 103, 104, 105, 106, 107, 108, 109, 110, 111, 112, 113]⟩ 8 1 1 w (by decide) h k_l.1 k_l.2)
  have HF := Lib.hid (fun w => name_any ⟨#[102, 111, 114]⟩ w)
  have HY := Lib.hid (fun w => name_any ⟨#[120, 95, 49]⟩ w)
  have HZ := Lib.hid (fun w => name_any ⟨#[49, 120]⟩ w)
  have HG := Lib.hid hG
  have h3 := hG.2.2.2
  clear hG
  go_enter Tryz.func10, Tryz.ntmps10
  go_wp2_with fail
  refine (HA.out _ HG.out).mono ?_
  rintro e w1 ⟨⟨v, rfl, hR⟩, hB1⟩
  have e1 : allT (⟨#[97, 32, 35, 32, 98, 10, 99]⟩ : ByteArray).data.toList = [⟨1, [97], 0, 1, 1⟩, ⟨1, [99], 0, 2, 1⟩] := k_a.1
  have e2 : allF (⟨#[97, 32, 35, 32, 98, 10, 99]⟩ : ByteArray).data.toList = (0, 0, 0) := k_a.2
  rw [e1] at hR
  rw [e2]
  obtain ⟨p, cap, rfl, r1, r2, r3, r4⟩ := hR.reads
  have HB1 := Lib.hid hB1
  have HR := Lib.hid r4
  clear hB1 hR e1 e2 r4 r3 HA
  have HB2 := Lib.hid (HB1.out.alloc HB1.out.size (.cells #[.int .i64 0, .int .i64 0, .int .i64 0] 26))
  have HBa := Lib.hid ((Below.refl _ w1).alloc (Nat.le_refl _) (.cells #[.int .i64 0, .int .i64 0, .int .i64 0] 26))
  have HFb := Lib.hid (heap_alloc_new w1 (.cells #[.int .i64 0, .int .i64 0, .int .i64 0] 26))
  have q1 : ∀ w : World, (binOp .eql 26 (.agg #[.int .i64 0, .int .i64 0, .int .i64 0]) (.agg #[.int .i64 0, .int .i64 0, .int .i64 0])).run Tryz.prog w = .ok (.bool true) w := fun _ => by kernel_rfl
  have q2 : ∀ w : World, (binOp .eql 52 (.agg #[.int .i64 1, .string ⟨#[97]⟩, .int .u64 0, .int .i64 1, .int .i64 1]) (.agg #[.int .i64 1, .string ⟨#[97]⟩, .int .u64 0, .int .i64 1, .int .i64 1])).run Tryz.prog w = .ok (.bool true) w := fun _ => by kernel_rfl
  have q3 : ∀ w : World, (binOp .eql 52 (.agg #[.int .i64 1, .string ⟨#[99]⟩, .int .u64 0, .int .i64 2, .int .i64 1]) (.agg #[.int .i64 1, .string ⟨#[99]⟩, .int .u64 0, .int .i64 2, .int .i64 1])).run Tryz.prog w = .ok (.bool true) w := fun _ => by kernel_rfl
  obtain ⟨b, o, rfl, hb, hc⟩ : ∃ b o, p = some ⟨b, o, none⟩ ∧ b < w1.heap.size ∧ ∀ i t, [(⟨1, [97], 0, 1, 1⟩ : Tk), ⟨1, [99], 0, 2, 1⟩][i]? = some t → TokAt w1 t b (o + i * 5) := by
    rcases HR.out with h | h
    · simp at h
    · exact h
  have HT := Lib.hid (And.intro (hc 0 _ rfl) (hc 1 _ rfl))
  clear hc HR
  go_wp2_with fail
  refine (HN.out _ (HG.out.later h3 HB2.out)).mono ?_
  rintro e w2 ⟨rfl, hB⟩
  have HB3 := Lib.hid (HBa.out.trans (hB.mono (by simp)))
  have HB4 := Lib.hid (HB2.out.trans (hB.mono HB2.out.size))
  have HF2 := Lib.hid ((hB.block w1.heap.size (by simp)).trans HFb.out)
  have n1 : numV (⟨#[49, 56, 52, 52, 54, 55, 52, 52, 48, 55, 51, 55, 48, 57, 53, 53, 49, 54, 49, 54]⟩ : ByteArray).data.toList = 0 := k_n.1
  have n2 : numE (⟨#[49, 56, 52, 52, 54, 55, 52, 52, 48, 55, 51, 55, 48, 57, 53, 53, 49, 54, 49, 54]⟩ : ByteArray).data.toList = 15 := k_n.2
  rw [n1, n2]
  clear hB n1 n2 HBa HFb HB2
  go_wp2_with fail
  refine (HX.out _ (HG.out.later h3 HB4.out)).mono ?_
  rintro e w3 ⟨rfl, hB⟩
  have HB5 := Lib.hid (HB3.out.trans (hB.mono HB3.out.size))
  have HB6 := Lib.hid (HB4.out.trans (hB.mono HB4.out.size))
  have HF3 := Lib.hid ((hB.block w1.heap.size (lt_of_block HF2.out)).trans HF2.out)
  clear hB HB3 HB4 HF2
  go_wp2_with fail
  refine (HS.out _ (HG.out.later h3 HB6.out)).mono ?_
  rintro e w4 ⟨rfl, hB⟩
  have HB7 := Lib.hid (HB5.out.trans (hB.mono HB5.out.size))
  have HB8 := Lib.hid (HB6.out.trans (hB.mono HB6.out.size))
  have hF4 := (hB.block w1.heap.size (lt_of_block HF3.out)).trans HF3.out
  clear hB HB5 HB6 HF3
  have d0 : w4.cell? ⟨w1.heap.size, 0, none⟩ = some (.int .i64 0) := by simp [World.cell?, hF4]
  have d1 : w4.cell? ⟨w1.heap.size, 1, none⟩ = some (.int .i64 0) := by simp [World.cell?, hF4]
  have d2 : w4.cell? ⟨w1.heap.size, 2, none⟩ = some (.int .i64 0) := by simp [World.cell?, hF4]
  obtain ⟨x0, x1, x2, x3, x4⟩ := HT.out.1.later hb HB7.out
  obtain ⟨y0, y1, y2, y3, y4⟩ := HT.out.2.later hb HB7.out
  clear hF4
  have xx0 : w4.cell? ⟨b, o, none⟩ = some (.int .i64 1) := x0
  have xx1 : w4.cell? ⟨b, o + 1, none⟩ = some (.string ⟨#[97]⟩) := x1
  have xx2 : w4.cell? ⟨b, o + 2, none⟩ = some (.int .u64 0) := x2
  have xx3 : w4.cell? ⟨b, o + 3, none⟩ = some (.int .i64 1) := x3
  have xx4 : w4.cell? ⟨b, o + 4, none⟩ = some (.int .i64 1) := x4
  have yy5 : w4.cell? ⟨b, o + 5, none⟩ = some (.int .i64 1) := y0
  have yy6 : w4.cell? ⟨b, o + 6, none⟩ = some (.string ⟨#[99]⟩) := y1
  have yy7 : w4.cell? ⟨b, o + 7, none⟩ = some (.int .u64 0) := y2
  have yy8 : w4.cell? ⟨b, o + 8, none⟩ = some (.int .i64 2) := y3
  have yy9 : w4.cell? ⟨b, o + 9, none⟩ = some (.int .i64 1) := y4
  clear x0 x1 x2 x3 x4 y0 y1 y2 y3 y4
  go_wp2_with fail
  refine (HD.out _ (HG.out.later h3 HB8.out)).mono ?_
  rintro e w5 ⟨rfl, hB⟩
  have HB9 := Lib.hid (HB8.out.trans (hB.mono HB8.out.size))
  clear hB HB7 HB8 d0 d1 d2 xx0 xx1 xx2 xx3 xx4 yy5 yy6 yy7 yy8 yy9
  go_wp2_with fail
  refine (HL.out _ (HG.out.later h3 HB9.out)).mono ?_
  rintro e w6 ⟨rfl, hB⟩
  have HBA := Lib.hid (HB9.out.trans (hB.mono HB9.out.size))
  clear hB HB9
  have n1 : nameB (⟨#[102, 111, 114]⟩ : ByteArray).data.toList = false := k_for.1
  have n2 : nameB (⟨#[120, 95, 49]⟩ : ByteArray).data.toList = true := k_for.2.1
  have n3 : nameB (⟨#[49, 120]⟩ : ByteArray).data.toList = false := k_for.2.2
  rw [n1] at HF
  rw [n2] at HY
  rw [n3] at HZ
  clear n1 n2 n3
  go_wp2_with fail
  refine (HF.out _).mono ?_
  rintro e w' ⟨rfl, rfl⟩
  go_wp2_with fail
  refine (HY.out _).mono ?_
  rintro e w' ⟨rfl, rfl⟩
  go_wp2_with fail
  refine (HZ.out _).mono ?_
  rintro e w' ⟨rfl, rfl⟩
  go_wp2_with fail
  refine (num_any 15 _).mono ?_
  rintro e w' ⟨rfl, rfl⟩
  go_wp2_with fail
  go_ret
  exact ⟨rfl, HBA.out⟩
end Go.Proofs.YtgffiggnmklcoaaGreatDoor
