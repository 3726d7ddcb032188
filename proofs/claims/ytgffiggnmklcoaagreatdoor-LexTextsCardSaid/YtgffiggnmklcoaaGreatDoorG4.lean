/- What an error of a scan says of the text. -/
import Derived.Test.YtgffiggnmklcoaaGreatDoorG3
namespace Go.Proofs.YtgffiggnmklcoaaGreatDoor
open Go.RowKit

def faultV (e line col : Nat) : Value := .agg #[.int .i64 e, .int .i64 line, .int .i64 col]
set_option maxRecDepth 100000 in
set_option maxHeartbeats 3200000 in
theorem faultOf_long (s : ByteArray) (a : Nat) (w : World) :
    Calls Tryz.prog 35 #[.string s, .iface 75 (.agg #[.int .i64 a, .int .i64 3])] w fun e w' => e = .returned (.agg #[.int .i64 3, .int .i64 0, .int .i64 0]) ∧ Below w.heap.size w w' := by
  have HI := Lib.hid (fun w => is_any a 3 w)
  rw [show ((3 : Int) == 3) = true from rfl] at HI
  go_enter Tryz.func35, Tryz.ntmps35
  go_wp2_with fail
  refine (HI.out _).mono ?_
  rintro e w1 ⟨rfl, hB1⟩
  have d0 : w1.cell? ⟨w.heap.size, 0, none⟩ = some (.int .i64 0) := (hB1.cell (p := ⟨w.heap.size, 0, none⟩) (by simp)).trans (by simp [go_sem])
  have d1 : w1.cell? ⟨w.heap.size, 1, none⟩ = some (.int .i64 0) := (hB1.cell (p := ⟨w.heap.size, 1, none⟩) (by simp)).trans (by simp [go_sem])
  have d2 : w1.cell? ⟨w.heap.size, 2, none⟩ = some (.int .i64 0) := (hB1.cell (p := ⟨w.heap.size, 2, none⟩) (by simp)).trans (by simp [go_sem])
  have z0 : w1.frozen? ⟨w.heap.size, 0, none⟩ = false := (hB1.frozen (p := ⟨w.heap.size, 0, none⟩) (by simp)).trans (by simp [go_sem])
  have z1 : w1.frozen? ⟨w.heap.size, 1, none⟩ = false := (hB1.frozen (p := ⟨w.heap.size, 1, none⟩) (by simp)).trans (by simp [go_sem])
  have z2 : w1.frozen? ⟨w.heap.size, 2, none⟩ = false := (hB1.frozen (p := ⟨w.heap.size, 2, none⟩) (by simp)).trans (by simp [go_sem])
  have HB := Lib.hid (((Below.refl _ w).alloc (Nat.le_refl _) _).trans (hB1.mono (by simp)))
  clear hB1
  go_wp2_with fail
  refine bodyPost_ret (v := .agg #[.int .i64 3, .int .i64 0, .int .i64 0]) (by simp [results, Tryz.results35, go_sem, d0, d1, d2]) rfl ⟨rfl, ?_⟩
  exact ((HB.out.setCell (Nat.le_refl _) _).setCell (Nat.le_refl _) _).setCell (Nat.le_refl _) _

set_option maxRecDepth 100000 in
set_option maxHeartbeats 3200000 in
theorem faultOf_any (s : ByteArray) (a e : Nat) (w : World) (hs : s.size ≤ 65536) (ha : a ≤ s.size) (he : e ≠ 3) (hG : Glob w) :
    Calls Tryz.prog 35 #[.string s, .iface 75 (.agg #[.int .i64 a, .int .i64 e])] w fun en w' => en = .returned (.agg #[.int .i64 e, .int .i64 (lc (s.data.toList.take a)).1, .int .i64 (lc (s.data.toList.take a)).2]) ∧ Below w.heap.size w w' := by
  have HI := Lib.hid (fun w => is_any a e w)
  rw [show ((e : Int) == 3) = false by simp; omega] at HI
  have HLn := Lib.hid (fun w => line_any s a w (by omega) (by omega) (by omega))
  have hcl : clampN a s.size = a := by rw [clampN]; omega
  rw [hcl] at HLn
  have HG := Lib.hid hG
  clear hG hcl
  generalize (lc (s.data.toList.take a)).1 = L at HLn ⊢
  generalize (lc (s.data.toList.take a)).2 = C at HLn ⊢
  have h3 := HG.out.2.2.2
  go_enter Tryz.func35, Tryz.ntmps35
  go_wp2_with fail
  refine (HI.out _).mono ?_
  rintro en w1 ⟨rfl, hB1⟩
  have hz1 := hB1.size
  simp at hz1
  have D1 := Lib.hid (show ((w1.cell? ⟨w.heap.size, 0, none⟩ = some (.int .i64 0) ∧ w1.cell? ⟨w.heap.size, 1, none⟩ = some (.int .i64 0) ∧ w1.cell? ⟨w.heap.size, 2, none⟩ = some (.int .i64 0)) ∧
    (w1.frozen? ⟨w.heap.size, 0, none⟩ = false ∧ w1.frozen? ⟨w.heap.size, 1, none⟩ = false ∧ w1.frozen? ⟨w.heap.size, 2, none⟩ = false)) from
    ⟨⟨(hB1.cell (p := ⟨w.heap.size, 0, none⟩) (by simp)).trans (by simp [go_sem]), (hB1.cell (p := ⟨w.heap.size, 1, none⟩) (by simp)).trans (by simp [go_sem]), (hB1.cell (p := ⟨w.heap.size, 2, none⟩) (by simp)).trans (by simp [go_sem])⟩,
     ⟨(hB1.frozen (p := ⟨w.heap.size, 0, none⟩) (by simp)).trans (by simp [go_sem]), (hB1.frozen (p := ⟨w.heap.size, 1, none⟩) (by simp)).trans (by simp [go_sem]), (hB1.frozen (p := ⟨w.heap.size, 2, none⟩) (by simp)).trans (by simp [go_sem])⟩⟩)
  have HB := Lib.hid (((Below.refl _ w).alloc (Nat.le_refl _) _).trans (hB1.mono (by simp)))
  clear hB1
  go_wp2_with fail
  have HBa := Lib.hid ((Below.refl _ w1).alloc (Nat.le_refl _) (.cells #[.int .i64 0, .int .i64 0] 75))
  refine (as_hit a e w1.heap.size (.int .i64 0) (.int .i64 0) _ ((HG.out.later h3 HB.out).later (n := w1.heap.size) (by omega) HBa.out) (by simp [go_sem]) (by simp [go_sem]) (by simp [go_sem]) (by simp [go_sem])).mono ?_
  rintro en w2 ⟨rfl, hw2⟩
  have hB2 : Below w1.heap.size w1 w2 := by
    rw [hw2]
    exact (((((HBa.out.alloc (by simp) _).alloc (by simp; omega) _).alloc (by simp; omega) _).alloc (by simp; omega) _).setCell (p := ⟨w1.heap.size, 0, none⟩) (Nat.le_refl _) _).setCell (p := ⟨w1.heap.size, 1, none⟩) (Nat.le_refl _) _
  have y0 : w2.cell? ⟨w1.heap.size, 0, none⟩ = some (.int .i64 a) ∧ w2.cell? ⟨w1.heap.size, 1, none⟩ = some (.int .i64 e) := by
    rw [hw2]; constructor <;> simp [go_sem]
  have HB3 := Lib.hid (HB.out.trans (hB2.mono (by omega)))
  have c0 := y0.1
  have HY := Lib.hid y0.2
  have HY2 := Lib.hid (World.block_lt_of_cell? w2 _ y0.2)
  have D2 := Lib.hid (show ((w2.cell? ⟨w.heap.size, 0, none⟩ = some (.int .i64 0) ∧ w2.cell? ⟨w.heap.size, 1, none⟩ = some (.int .i64 0) ∧ w2.cell? ⟨w.heap.size, 2, none⟩ = some (.int .i64 0)) ∧
    (w2.frozen? ⟨w.heap.size, 0, none⟩ = false ∧ w2.frozen? ⟨w.heap.size, 1, none⟩ = false ∧ w2.frozen? ⟨w.heap.size, 2, none⟩ = false)) from
    ⟨⟨(hB2.cell (p := ⟨w.heap.size, 0, none⟩) (by show w.heap.size < w1.heap.size; omega)).trans D1.out.1.1, (hB2.cell (p := ⟨w.heap.size, 1, none⟩) (by show w.heap.size < w1.heap.size; omega)).trans D1.out.1.2.1, (hB2.cell (p := ⟨w.heap.size, 2, none⟩) (by show w.heap.size < w1.heap.size; omega)).trans D1.out.1.2.2⟩,
     ⟨(hB2.frozen (p := ⟨w.heap.size, 0, none⟩) (by show w.heap.size < w1.heap.size; omega)).trans D1.out.2.1, (hB2.frozen (p := ⟨w.heap.size, 1, none⟩) (by show w.heap.size < w1.heap.size; omega)).trans D1.out.2.2.1, (hB2.frozen (p := ⟨w.heap.size, 2, none⟩) (by show w.heap.size < w1.heap.size; omega)).trans D1.out.2.2.2⟩⟩)
  have hz2 := hB2.size
  clear hw2 hB2 y0
  go_wp2_with fail
  refine (HLn.out _).mono ?_
  rintro en w3 ⟨rfl, hB3'⟩
  have k1 := (hB3'.cell (p := ⟨w1.heap.size, 1, none⟩) HY2.out).trans HY.out
  have d0 := (hB3'.cell (p := ⟨w.heap.size, 0, none⟩) (by show w.heap.size < w2.heap.size; omega)).trans D2.out.1.1
  have d1 := (hB3'.cell (p := ⟨w.heap.size, 1, none⟩) (by show w.heap.size < w2.heap.size; omega)).trans D2.out.1.2.1
  have d2 := (hB3'.cell (p := ⟨w.heap.size, 2, none⟩) (by show w.heap.size < w2.heap.size; omega)).trans D2.out.1.2.2
  have z0 := (hB3'.frozen (p := ⟨w.heap.size, 0, none⟩) (by show w.heap.size < w2.heap.size; omega)).trans D2.out.2.1
  have z1 := (hB3'.frozen (p := ⟨w.heap.size, 1, none⟩) (by show w.heap.size < w2.heap.size; omega)).trans D2.out.2.2.1
  have z2 := (hB3'.frozen (p := ⟨w.heap.size, 2, none⟩) (by show w.heap.size < w2.heap.size; omega)).trans D2.out.2.2.2
  have HB4 := Lib.hid (HB3.out.trans (hB3'.mono HB3.out.size))
  clear hB3' c0
  go_wp2_with fail
  refine bodyPost_ret (v := .agg #[.int .i64 e, .int .i64 L, .int .i64 C]) (by simp [results, Tryz.results35, go_sem, d0, d1, d2]) rfl ⟨rfl, ?_⟩
  exact ((HB4.out.setCell (Nat.le_refl _) _).setCell (Nat.le_refl _) _).setCell (Nat.le_refl _) _
end Go.Proofs.YtgffiggnmklcoaaGreatDoor
