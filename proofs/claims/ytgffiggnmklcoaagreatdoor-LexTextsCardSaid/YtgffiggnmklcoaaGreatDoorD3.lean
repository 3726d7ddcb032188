/- The longest sign with which a text begins. -/
import Derived.Test.YtgffiggnmklcoaaGreatDoorD2
import Derived.Outline
namespace Go.Proofs.YtgffiggnmklcoaaGreatDoor
open Go.RowKit

/-- the greatest length, at most so many, at which a text's beginning is a sign -/
def signDown (l : List UInt8) : Nat → Nat
  | 0 => 0
  | n + 1 => if l.take (n + 1) ∈ signT then n + 1 else signDown l n
def signLen (l : List UInt8) : Nat := signDown l (min 4 l.length)
theorem signDown_le (l : List UInt8) (n : Nat) : signDown l n ≤ n := by
  induction n with
  | zero => exact Nat.le_refl _
  | succ n ih => unfold signDown; split <;> omega
theorem signLen_le (l : List UInt8) : signLen l ≤ l.length := Nat.le_trans (signDown_le _ _) (Nat.min_le_right _ _)
theorem signLen_4 (l : List UInt8) : signLen l ≤ 4 := Nat.le_trans (signDown_le _ _) (Nat.min_le_left _ _)
theorem signDown_yes {l : List UInt8} {n : Nat} (h : decide (l.take (n + 1) ∈ signT) = true) : signDown l (n + 1) = n + 1 := by
  unfold signDown; rw [if_pos (of_decide_eq_true h)]
theorem signDown_no {l : List UInt8} {n : Nat} (h : decide (l.take (n + 1) ∈ signT) = false) : signDown l (n + 1) = signDown l n := by
  rw [signDown, if_neg (of_decide_eq_false h)]

/-- a token's value -/
def tokV (k : Nat) (s : ByteArray) (x line col : Nat) : Value := .agg #[.int .i64 k, .string s, .int .u64 x, .int .i64 line, .int .i64 col]
def signV (s : ByteArray) : Ending :=
  if signLen s.data.toList = 0 then .returned (.tuple #[tokV 0 ⟨#[]⟩ 0 0 0, .int .i64 15]) else .returned (.tuple #[tokV 4 (s.extract 0 (signLen s.data.toList)) 0 0 0, .int .i64 0])
theorem signV_no {s : ByteArray} (h : signLen s.data.toList = 0) : signV s = .returned (.tuple #[.agg #[.int .i64 0, .string ⟨#[]⟩, .int .u64 0, .int .i64 0, .int .i64 0], .int .i64 15]) := by rw [signV, if_pos h]; rfl
theorem signV_yes {s : ByteArray} {n : Nat} (h : signLen s.data.toList = n + 1) : signV s = .returned (.tuple #[.agg #[.int .i64 4, .string (s.extract 0 (n + 1)), .int .u64 0, .int .i64 0, .int .i64 0], .int .i64 0]) := by rw [signV, if_neg (by omega), h]; rfl

theorem bz : ∀ w, (zeroValue 94).run Tryz.prog w = .ok (.agg #[]) w := fun _ => by kernel_rfl
theorem extract_take (s : ByteArray) (n : Nat) : (s.extract 0 n).data.toList = s.data.toList.take n := by rw [Lib.extract_data]; rfl

set_option maxRecDepth 100000 in
set_option maxHeartbeats 3200000 in
theorem signToken_any (s : ByteArray) (b : Nat) (w : World) (hm : w.heap[b]? = some (smap signT)) (hs : s.size ≤ 281474976710656) :
    Calls Tryz.prog 54 #[.map (some b), .string s] w fun e w' => e = signV s ∧ Below w.heap.size w w' := by
  have hb : b < w.heap.size := (Array.getElem?_eq_some_iff.1 hm).1
  have HM := Lib.hid hm
  obtain ⟨m, hmn⟩ : ∃ m : Nat, min 4 s.size = m := ⟨_, rfl⟩
  have hm4 : m ≤ 4 := by omega
  have hms : m ≤ s.size := by omega
  have HL := Lib.hid (show signLen s.data.toList = signDown s.data.toList m by rw [signLen, ← size_len, hmn])
  have hmi : min 4 (s.size : Int) = (m : Int) := by omega
  clear hm hmn
  go_enter Tryz.func54, Tryz.ntmps54
  go_wp2
  obtain ⟨wz, hwz⟩ : ∃ wz, w.alloc (.cells #[.int .i64 0, .string ⟨#[]⟩, .int .u64 0, .int .i64 0, .int .i64 0] 52) = wz := ⟨_, rfl⟩
  have HBz := Lib.hid (show Below w.heap.size w wz by rw [← hwz]; exact (Below.refl _ _).alloc (Nat.le_refl _) _)
  have HT := Lib.hid (show (∀ i, i < 5 → (wz.cell? ⟨w.heap.size, i, none⟩).isSome ∧ wz.frozen? ⟨w.heap.size, i, none⟩ = false) ∧ w.heap.size < wz.heap.size by
    rw [← hwz]; refine ⟨fun i hi => ?_, by simp⟩
    rcases i with _|_|_|_|_|i <;> first | omega | exact ⟨by simp [go_sem], by simp [go_sem]⟩)
  rw [hwz]
  clear hwz hmi
  go_loopw [6] (fun i wr => ∃ n : Nat, i = .int .i64 n ∧ n ≤ m ∧ Hid (signLen s.data.toList = signDown s.data.toList n) ∧ Hid (Below wz.heap.size wz wr)) (fun i _ => (intOf i).toNat)
  case atStart => exact ⟨m, rfl, Nat.le_refl _, HL, Lib.hid (Below.refl _ _)⟩
  case round =>
    obtain ⟨n, rfl, hn, hS, hB⟩ := hrel
    have HBw := Lib.hid (HBz.out.trans (hB.out.mono HBz.out.size))
    rcases n with _ | n
    · have HV := Lib.hid (signV_no (s := s) (hS.out.trans rfl))
      obtain ⟨v0, k0⟩ := Option.isSome_iff_exists.1 (HT.out.1 0 (by omega)).1
      obtain ⟨v1, k1⟩ := Option.isSome_iff_exists.1 (HT.out.1 1 (by omega)).1
      obtain ⟨v2, k2⟩ := Option.isSome_iff_exists.1 (HT.out.1 2 (by omega)).1
      obtain ⟨v3, k3⟩ := Option.isSome_iff_exists.1 (HT.out.1 3 (by omega)).1
      obtain ⟨v4, k4⟩ := Option.isSome_iff_exists.1 (HT.out.1 4 (by omega)).1
      have d0 := (hB.out.cell (p := ⟨w.heap.size, 0, none⟩) HT.out.2).trans k0
      have d1 := (hB.out.cell (p := ⟨w.heap.size, 1, none⟩) HT.out.2).trans k1
      have d2 := (hB.out.cell (p := ⟨w.heap.size, 2, none⟩) HT.out.2).trans k2
      have d3 := (hB.out.cell (p := ⟨w.heap.size, 3, none⟩) HT.out.2).trans k3
      have d4 := (hB.out.cell (p := ⟨w.heap.size, 4, none⟩) HT.out.2).trans k4
      have z0 := (hB.out.frozen (p := ⟨w.heap.size, 0, none⟩) HT.out.2).trans (HT.out.1 0 (by omega)).2
      have z1 := (hB.out.frozen (p := ⟨w.heap.size, 1, none⟩) HT.out.2).trans (HT.out.1 1 (by omega)).2
      have z2 := (hB.out.frozen (p := ⟨w.heap.size, 2, none⟩) HT.out.2).trans (HT.out.1 2 (by omega)).2
      have z3 := (hB.out.frozen (p := ⟨w.heap.size, 3, none⟩) HT.out.2).trans (HT.out.1 3 (by omega)).2
      have z4 := (hB.out.frozen (p := ⟨w.heap.size, 4, none⟩) HT.out.2).trans (HT.out.1 4 (by omega)).2
      clear k0 k1 k2 k3 k4
      go_wp2
      refine bodyPost_ret (v := .tuple #[.agg #[.int .i64 0, .string ⟨#[]⟩, .int .u64 0, .int .i64 0, .int .i64 0], .int .i64 15]) (by simp [results, Tryz.results54, go_sem, d0, d1, d2, d3, d4]) rfl ⟨HV.out.symm, ?_⟩
      exact ((((HBw.out.setCell (Nat.le_refl _) _).setCell (Nat.le_refl _) _).setCell (Nat.le_refl _) _).setCell (Nat.le_refl _) _).setCell (Nat.le_refl _) _
    · have hlk := run_look_smap Tryz.underlying77 Tryz.underlying9 bz signT ((hB.out.block b (Nat.lt_of_lt_of_le (Nat.lt_succ_of_lt hb) HT.out.2)).trans (HBz.out.block b hb ▸ HM.out)) (s.extract 0 (n + 1))
      rw [extract_take] at hlk
      cases hx : decide (s.data.toList.take (n + 1) ∈ signT)
      · have HS := Lib.hid (hS.out.trans (signDown_no hx))
        rw [hx] at hlk
        clear hx
        have hn1 : n + 1 ≤ s.size := by omega
        go_wp2
        go_roundw
        case rel => exact ⟨n, by go_num, by omega, HS, Lib.hid (hB.out.alloc hB.out.size _)⟩
        case measure => simp [intOf]
      · have HV := Lib.hid (signV_yes (s := s) (hS.out.trans (signDown_yes hx)))
        have hz := Nat.lt_of_lt_of_le HT.out.2 hB.out.size
        have ha : ∀ (W : World) (i : Nat), W.heap.size = wr.heap.size → (W.alloc (.cells #[] 94)).cell? ⟨w.heap.size, i, none⟩ = W.cell? ⟨w.heap.size, i, none⟩ := fun W i h => World.cell?_alloc_lt W _ ⟨w.heap.size, i, none⟩ (by rw [h]; exact hz)
        have hzn : w.heap.size ≠ wr.heap.size := Nat.ne_of_lt hz
        rw [hx] at hlk
        clear hx
        have hn1 : n + 1 ≤ s.size := by omega
        obtain ⟨v0, k0⟩ := Option.isSome_iff_exists.1 (HT.out.1 0 (by omega)).1
        obtain ⟨v1, k1⟩ := Option.isSome_iff_exists.1 (HT.out.1 1 (by omega)).1
        obtain ⟨v2, k2⟩ := Option.isSome_iff_exists.1 (HT.out.1 2 (by omega)).1
        obtain ⟨v3, k3⟩ := Option.isSome_iff_exists.1 (HT.out.1 3 (by omega)).1
        obtain ⟨v4, k4⟩ := Option.isSome_iff_exists.1 (HT.out.1 4 (by omega)).1
        have d0 := (hB.out.cell (p := ⟨w.heap.size, 0, none⟩) HT.out.2).trans k0
        have d1 := (hB.out.cell (p := ⟨w.heap.size, 1, none⟩) HT.out.2).trans k1
        have d2 := (hB.out.cell (p := ⟨w.heap.size, 2, none⟩) HT.out.2).trans k2
        have d3 := (hB.out.cell (p := ⟨w.heap.size, 3, none⟩) HT.out.2).trans k3
        have d4 := (hB.out.cell (p := ⟨w.heap.size, 4, none⟩) HT.out.2).trans k4
        have z0 := (hB.out.frozen (p := ⟨w.heap.size, 0, none⟩) HT.out.2).trans (HT.out.1 0 (by omega)).2
        have z1 := (hB.out.frozen (p := ⟨w.heap.size, 1, none⟩) HT.out.2).trans (HT.out.1 1 (by omega)).2
        have z2 := (hB.out.frozen (p := ⟨w.heap.size, 2, none⟩) HT.out.2).trans (HT.out.1 2 (by omega)).2
        have z3 := (hB.out.frozen (p := ⟨w.heap.size, 3, none⟩) HT.out.2).trans (HT.out.1 3 (by omega)).2
        have z4 := (hB.out.frozen (p := ⟨w.heap.size, 4, none⟩) HT.out.2).trans (HT.out.1 4 (by omega)).2
        clear k0 k1 k2 k3 k4
        go_wp2
        refine bodyPost_ret (v := .tuple #[.agg #[.int .i64 4, .string (s.extract 0 (n + 1)), .int .u64 0, .int .i64 0, .int .i64 0], .int .i64 0]) (by simp [results, Tryz.results54, go_sem, ha, d0, d1, d2, d3, d4]) rfl ⟨HV.out.symm, ?_⟩
        exact Below.alloc (a := w) (B := w.heap.size) (((((HBw.out.setCell (Nat.le_refl _) _).setCell (Nat.le_refl _) _).setCell (Nat.le_refl _) _).setCell (Nat.le_refl _) _).setCell (Nat.le_refl _) _) (by simp [World.setCell]; omega) _
end Go.Proofs.YtgffiggnmklcoaaGreatDoor
