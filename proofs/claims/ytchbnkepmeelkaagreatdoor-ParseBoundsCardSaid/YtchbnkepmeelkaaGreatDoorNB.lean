/- N2, N3 as one. -/
import Derived.Test.YtchbnkepmeelkaaGreatDoorNA
/- The rows of the law of bounds. -/
namespace Go.Proofs.YtchbnkepmeelkaaGreatDoor
open Go.RowKit

def wWh : List UInt8 := [119, 104, 105, 108, 101, 32, 49, 32, 123]
/-- so many loops begun -/
def opens : Nat → List UInt8
  | 0 => []
  | n + 1 => opens n ++ wWh
def shuts : Nat → List UInt8
  | 0 => []
  | n + 1 => shuts n ++ [125]
def tA : List UInt8 := opens 62 ++ [120, 32, 61, 32, 49, 59] ++ shuts 62
def tB : List UInt8 := opens 62 ++ [120, 32, 61, 32, 126, 49, 59] ++ shuts 62
def tC : List UInt8 := [105, 102, 32, 49, 32, 123] ++ opens 62 ++ [120, 32, 61, 32, 49, 59] ++ shuts 62 ++ [125]
set_option maxRecDepth 1000000 in
theorem rowA : faultR (readP onlyStmtsP tA) = F0 := by kernel_rfl
theorem len_tA : tA.length = 626 ∧ tB.length = 627 ∧ tC.length = 633 := ⟨by kernel_rfl, by kernel_rfl, by kernel_rfl⟩
theorem opens_len : ∀ k, (opens k).length = k * 9 ∧ (shuts k).length = k
  | 0 => ⟨rfl, rfl⟩
  | k + 1 => by
    have h1 := (opens_len k).1
    have h2 := (opens_len k).2
    have h3 : wWh.length = 9 := rfl
    refine ⟨?_, ?_⟩
    · rw [opens, List.length_append, h1, h3]; omega
    · rw [shuts, List.length_append, h2, List.length_singleton]
set_option maxRecDepth 1000000 in
theorem rowB : faultR (readP onlyStmtsP tB) = FT 12 1 564 ∧ resS (readP onlyStmtsP tB) = .nil := ⟨by kernel_rfl, by kernel_rfl⟩
set_option maxRecDepth 1000000 in
theorem rowC : faultR (readP onlyStmtsP tC) = FT 12 1 569 ∧ resS (readP onlyStmtsP tC) = .nil := ⟨by kernel_rfl, by kernel_rfl⟩
set_option maxRecDepth 100000 in
theorem rowD : resP (readP programP [114, 101, 103, 105, 111, 110, 32, 97, 32, 50, 49, 52, 55, 52, 56, 51, 54, 52, 55, 32, 50, 49, 52, 55, 52, 56, 51, 54, 52, 55, 59]) = ⟨[⟨[97], 2147483647, 2147483647, false⟩], []⟩ ∧ faultR (readP programP [114, 101, 103, 105, 111, 110, 32, 97, 32, 50, 49, 52, 55, 52, 56, 51, 54, 52, 55, 32, 50, 49, 52, 55, 52, 56, 51, 54, 52, 55, 59]) = F0 := ⟨by kernel_rfl, by kernel_rfl⟩
set_option maxRecDepth 100000 in
theorem rowE : resP (readP programP [114, 101, 103, 105, 111, 110, 32, 97, 32, 50, 49, 52, 55, 52, 56, 51, 54, 52, 56, 32, 49, 59]) = ⟨[], []⟩ ∧ faultR (readP programP [114, 101, 103, 105, 111, 110, 32, 97, 32, 50, 49, 52, 55, 52, 56, 51, 54, 52, 56, 32, 49, 59]) = FT 15 1 10 := ⟨by kernel_rfl, by kernel_rfl⟩
set_option maxRecDepth 100000 in
theorem rowF : resP (readP programP [102, 110, 32, 102, 40, 120, 44, 32, 121, 32, 115, 101, 99, 114, 101, 116, 41, 32, 45, 62, 32, 97, 44, 32, 98, 32, 123, 32, 118, 97, 114, 32, 97, 59, 32, 115, 116, 97, 99, 107, 32, 115, 32, 52, 32, 115, 101, 99, 114, 101, 116, 59, 32, 97, 32, 61, 32, 49, 59, 32, 118, 97, 114, 32, 98, 59, 32, 125]) = ⟨[], []⟩ ∧ faultR (readP programP [102, 110, 32, 102, 40, 120, 44, 32, 121, 32, 115, 101, 99, 114, 101, 116, 41, 32, 45, 62, 32, 97, 44, 32, 98, 32, 123, 32, 118, 97, 114, 32, 97, 59, 32, 115, 116, 97, 99, 107, 32, 115, 32, 52, 32, 115, 101, 99, 114, 101, 116, 59, 32, 97, 32, 61, 32, 49, 59, 32, 118, 97, 114, 32, 98, 59, 32, 125]) = FT 15 1 61 := ⟨by kernel_rfl, by kernel_rfl⟩
set_option maxRecDepth 100000 in
theorem rw0 : resS (readP onlyStmtsP [120, 32, 61, 32, 49]) = .nil ∧ faultR (readP onlyStmtsP [120, 32, 61, 32, 49]) = FT 15 1 6 := ⟨by kernel_rfl, by kernel_rfl⟩
set_option maxRecDepth 100000 in
theorem rw1 : resS (readP onlyStmtsP [120, 32, 49, 59]) = .nil ∧ faultR (readP onlyStmtsP [120, 32, 49, 59]) = FT 15 1 3 := ⟨by kernel_rfl, by kernel_rfl⟩
set_option maxRecDepth 100000 in
theorem rw2 : resS (readP onlyStmtsP [120, 32, 61, 32, 40, 49, 32, 43, 32, 41, 59]) = .nil ∧ faultR (readP onlyStmtsP [120, 32, 61, 32, 40, 49, 32, 43, 32, 41, 59]) = FT 15 1 10 := ⟨by kernel_rfl, by kernel_rfl⟩
set_option maxRecDepth 100000 in
theorem rw3 : resS (readP onlyStmtsP [120, 32, 61, 32, 40, 49, 32, 61, 32, 50, 41, 59]) = .nil ∧ faultR (readP onlyStmtsP [120, 32, 61, 32, 40, 49, 32, 61, 32, 50, 41, 59]) = FT 15 1 8 := ⟨by kernel_rfl, by kernel_rfl⟩
set_option maxRecDepth 100000 in
theorem rw4 : resS (readP onlyStmtsP [105, 102, 32, 123, 32, 125]) = .nil ∧ faultR (readP onlyStmtsP [105, 102, 32, 123, 32, 125]) = FT 15 1 4 := ⟨by kernel_rfl, by kernel_rfl⟩
set_option maxRecDepth 100000 in
theorem rw5 : resS (readP onlyStmtsP [101, 108, 115, 101, 32, 123, 32, 125]) = .nil ∧ faultR (readP onlyStmtsP [101, 108, 115, 101, 32, 123, 32, 125]) = FT 15 1 1 := ⟨by kernel_rfl, by kernel_rfl⟩
set_option maxRecDepth 100000 in
theorem rw6 : resS (readP onlyStmtsP [97, 44, 32, 61, 32, 102, 40, 41, 59]) = .nil ∧ faultR (readP onlyStmtsP [97, 44, 32, 61, 32, 102, 40, 41, 59]) = FT 15 1 4 := ⟨by kernel_rfl, by kernel_rfl⟩
set_option maxRecDepth 100000 in
theorem rw7 : resS (readP onlyStmtsP [97, 32, 61, 32, 102, 40, 49, 44, 41, 59]) = .nil ∧ faultR (readP onlyStmtsP [97, 32, 61, 32, 102, 40, 49, 44, 41, 59]) = FT 15 1 9 := ⟨by kernel_rfl, by kernel_rfl⟩
set_option maxRecDepth 100000 in
theorem rw8 : resS (readP onlyStmtsP [120, 32, 61, 32, 49, 59, 32, 36]) = .nil ∧ faultR (readP onlyStmtsP [120, 32, 61, 32, 49, 59, 32, 36]) = FT 15 1 8 := ⟨by kernel_rfl, by kernel_rfl⟩
set_option maxRecDepth 100000 in
theorem rw9 : resS (readP onlyStmtsP [102, 40, 41, 32, 61, 32, 49, 59]) = .nil ∧ faultR (readP onlyStmtsP [102, 40, 41, 32, 61, 32, 49, 59]) = FT 15 1 5 := ⟨by kernel_rfl, by kernel_rfl⟩
set_option maxRecDepth 100000 in
theorem rw10 : resS (readP onlyStmtsP [102, 111, 114, 32, 49, 32, 48, 32, 50, 32, 123, 32, 125]) = .nil ∧ faultR (readP onlyStmtsP [102, 111, 114, 32, 49, 32, 48, 32, 50, 32, 123, 32, 125]) = FT 15 1 5 := ⟨by kernel_rfl, by kernel_rfl⟩
set_option maxRecDepth 100000 in
theorem rw11 : resS (readP onlyStmtsP [10, 120, 32, 61, 32, 112, 105, 99, 107, 40, 49, 44, 32, 50, 41, 59]) = .nil ∧ faultR (readP onlyStmtsP [10, 120, 32, 61, 32, 112, 105, 99, 107, 40, 49, 44, 32, 50, 41, 59]) = FT 15 2 14 := ⟨by kernel_rfl, by kernel_rfl⟩
set_option maxRecDepth 100000 in
set_option maxHeartbeats 1600000 in
theorem stmts_yes (l : List UInt8) (a b c : Int) (hx : resS (readP onlyStmtsP l) = .nil) (hf : faultR (readP onlyStmtsP l) = FT a b c) (hl : l.length ≤ 1000) (w : World) (hG : Lx.Glob w) :
    Calls Tryz.prog 29 #[.string ⟨l.toArray⟩, .int .i64 a, .int .i64 b, .int .i64 c] w fun z w' => z = .returned (.bool true) ∧ Below w.heap.size w w' := by
  have HS := Lib.hid (sts_row l .nil (FT a b c) hx hf hl w hG)
  have HFa := Lib.hid (fun (w : World) => fault_yes a b c w)
  obtain ⟨T, hT⟩ : ∃ T, (⟨l.toArray⟩ : ByteArray) = T := ⟨_, rfl⟩
  rw [hT] at HS ⊢
  clear hx hf hl hG hT
  go_enter Tryz.func29, Tryz.ntmps29
  go_wp2_with fail
  refine HS.out.mono ?_
  rintro z w1 ⟨q, d, hz, _, hb⟩
  obtain rfl : z = .returned (.tuple #[.slice q 0 d, .agg #[.int .i64 a, .int .i64 b, .int .i64 c]]) := hz
  obtain ⟨A, hA⟩ : ∃ A, w1.alloc (.cells #[.int .i64 a, .int .i64 b, .int .i64 c] 29) = A := ⟨_, rfl⟩
  have hk : A.heap[w1.heap.size]? = some (.cells #[.int .i64 a, .int .i64 b, .int .i64 c] 29 (0, 0)) := by rw [← hA]; exact heap_alloc_new w1 _
  have HB := Lib.hid (show Below w.heap.size w A by rw [← hA]; exact hb.alloc hb.size _)
  have y0 := cell_blk hk (j := 0) rfl
  have y1 := cell_blk hk (j := 1) rfl
  have y2 := cell_blk hk (j := 2) rfl
  have HA := Lib.hid hA
  clear hb hA hk
  go_upto_region 2 with fail
  try rw [HA.out]
  go_wp2_with fail
  refine (HFa.out A).mono ?_
  rintro z w2 ⟨rfl, hb2⟩
  have HB2 := Lib.hid (HB.out.trans (hb2.mono HB.out.size))
  clear hb2
  go_wp2_with fail
  go_ret
  exact ⟨rfl, HB2.out⟩
end Go.Proofs.YtchbnkepmeelkaaGreatDoor
/- The law of bounds. -/
namespace Go.Proofs.YtchbnkepmeelkaaGreatDoor
open Go.RowKit

theorem cat_str (a c : List UInt8) (hz : a.length + c.length ≤ 1000) (w : World) : (Op.stringOp .add (str a) (str c)).run Tryz.prog w = .ok (.string (str (a ++ c))) w :=
  cat_run _ _ _ (bytes_ext (by rw [ByteArray.data_append, Array.toList_append, str_data, str_data, str_data])) (by rw [size_str, size_str]; exact hz) w
set_option maxRecDepth 100000 in
set_option maxHeartbeats 6400000 in
theorem bounds_any (w : World) (hG : Lx.Glob w) : Calls Tryz.prog 8 #[] w fun z w' => z = .returned (.bool true) ∧ Below w.heap.size w w' := by
  have CA := Lib.hid (fun (w : World) (hG : Lx.Glob w) => sts_row tA _ #[.int .i64 0, .int .i64 0, .int .i64 0] rfl rowA (by rw [len_tA.1]; decide) w hG)
  have CB := Lib.hid (fun (w : World) (hG : Lx.Glob w) => sts_row tB _ #[.int .i64 12, .int .i64 1, .int .i64 564] rowB.2 rowB.1 (by rw [len_tA.2.1]; decide) w hG)
  have CC := Lib.hid (fun (w : World) (hG : Lx.Glob w) => sts_row tC _ #[.int .i64 12, .int .i64 1, .int .i64 569] rowC.2 rowC.1 (by rw [len_tA.2.2]; decide) w hG)
  have CD := Lib.hid (fun (w : World) (hG : Lx.Glob w) => prg_row [114, 101, 103, 105, 111, 110, 32, 97, 32, 50, 49, 52, 55, 52, 56, 51, 54, 52, 55, 32, 50, 49, 52, 55, 52, 56, 51, 54, 52, 55, 59] ⟨[⟨[97], 2147483647, 2147483647, false⟩], []⟩ #[.int .i64 0, .int .i64 0, .int .i64 0] rowD.1 rowD.2 (by decide) w hG)
  have CE := Lib.hid (fun (w : World) (hG : Lx.Glob w) => prg_row [114, 101, 103, 105, 111, 110, 32, 97, 32, 50, 49, 52, 55, 52, 56, 51, 54, 52, 56, 32, 49, 59] ⟨[], []⟩ #[.int .i64 15, .int .i64 1, .int .i64 10] rowE.1 rowE.2 (by decide) w hG)
  have CF := Lib.hid (fun (w : World) (hG : Lx.Glob w) => prg_row [102, 110, 32, 102, 40, 120, 44, 32, 121, 32, 115, 101, 99, 114, 101, 116, 41, 32, 45, 62, 32, 97, 44, 32, 98, 32, 123, 32, 118, 97, 114, 32, 97, 59, 32, 115, 116, 97, 99, 107, 32, 115, 32, 52, 32, 115, 101, 99, 114, 101, 116, 59, 32, 97, 32, 61, 32, 49, 59, 32, 118, 97, 114, 32, 98, 59, 32, 125] ⟨[], []⟩ #[.int .i64 15, .int .i64 1, .int .i64 61] rowF.1 rowF.2 (by decide) w hG)
  have D0 := Lib.hid (fun (w : World) (hG : Lx.Glob w) => stmts_yes [120, 32, 61, 32, 49] 15 1 6 rw0.1 rw0.2 (by decide) w hG)
  have D1 := Lib.hid (fun (w : World) (hG : Lx.Glob w) => stmts_yes [120, 32, 49, 59] 15 1 3 rw1.1 rw1.2 (by decide) w hG)
  have D2 := Lib.hid (fun (w : World) (hG : Lx.Glob w) => stmts_yes [120, 32, 61, 32, 40, 49, 32, 43, 32, 41, 59] 15 1 10 rw2.1 rw2.2 (by decide) w hG)
  have D3 := Lib.hid (fun (w : World) (hG : Lx.Glob w) => stmts_yes [120, 32, 61, 32, 40, 49, 32, 61, 32, 50, 41, 59] 15 1 8 rw3.1 rw3.2 (by decide) w hG)
  have D4 := Lib.hid (fun (w : World) (hG : Lx.Glob w) => stmts_yes [105, 102, 32, 123, 32, 125] 15 1 4 rw4.1 rw4.2 (by decide) w hG)
  have D5 := Lib.hid (fun (w : World) (hG : Lx.Glob w) => stmts_yes [101, 108, 115, 101, 32, 123, 32, 125] 15 1 1 rw5.1 rw5.2 (by decide) w hG)
  have D6 := Lib.hid (fun (w : World) (hG : Lx.Glob w) => stmts_yes [97, 44, 32, 61, 32, 102, 40, 41, 59] 15 1 4 rw6.1 rw6.2 (by decide) w hG)
  have D7 := Lib.hid (fun (w : World) (hG : Lx.Glob w) => stmts_yes [97, 32, 61, 32, 102, 40, 49, 44, 41, 59] 15 1 9 rw7.1 rw7.2 (by decide) w hG)
  have D8 := Lib.hid (fun (w : World) (hG : Lx.Glob w) => stmts_yes [120, 32, 61, 32, 49, 59, 32, 36] 15 1 8 rw8.1 rw8.2 (by decide) w hG)
  have D9 := Lib.hid (fun (w : World) (hG : Lx.Glob w) => stmts_yes [102, 40, 41, 32, 61, 32, 49, 59] 15 1 5 rw9.1 rw9.2 (by decide) w hG)
  have D10 := Lib.hid (fun (w : World) (hG : Lx.Glob w) => stmts_yes [102, 111, 114, 32, 49, 32, 48, 32, 50, 32, 123, 32, 125] 15 1 5 rw10.1 rw10.2 (by decide) w hG)
  have D11 := Lib.hid (fun (w : World) (hG : Lx.Glob w) => stmts_yes [10, 120, 32, 61, 32, 112, 105, 99, 107, 40, 49, 44, 32, 50, 41, 59] 15 2 14 rw11.1 rw11.2 (by decide) w hG)
  have HKn := Lib.hid (fun (w : World) (hG : Lx.Glob w) => known_any w hG)
  have HG := Lib.hid hG
  have HNum := Lib.hid (fun (a : Int) (w : World) => num_any a w)
  have HFa := Lib.hid (fun (a b c : Int) (w : World) => fault_yes a b c w)
  have HB := Lib.hid (Below.refl w.heap.size w)
  have q0 := eq_fault0
  have hoA : ∀ k, k ≤ 62 → ∀ w, (Op.stringOp .add (str (opens k)) ⟨#[119, 104, 105, 108, 101, 32, 49, 32, 123]⟩).run Tryz.prog w = .ok (.string (str (opens (k + 1)))) w := fun k hk w => cat_str (opens k) wWh (by rw [(opens_len k).1]; show k * 9 + 9 ≤ 1000; omega) w
  have hoB : ∀ k, k ≤ 62 → ∀ w, (Op.stringOp .add (str (shuts k)) ⟨#[125]⟩).run Tryz.prog w = .ok (.string (str (shuts (k + 1)))) w := fun k hk w => cat_str (shuts k) [125] (by rw [(opens_len k).2]; show k + 1 ≤ 1000; omega) w
  have HoA := Lib.hid hoA
  have HoB := Lib.hid hoB
  clear hG hoA hoB
  go_enter Tryz.func8, Tryz.ntmps8
  go_wp2_with fail
  go_loopw [1, 2, 3] (fun s t i wr => ∃ k : Nat, i = .int .i64 k ∧ k ≤ 62 ∧ s = .string (str (opens k)) ∧ t = .string (str (shuts k)) ∧ wr = w) (fun _ _ i _ => 62 - (intOf i).toNat)
  case atStart => exact ⟨0, rfl, by omega, rfl, rfl, rfl⟩
  case round =>
    obtain ⟨k, rfl, hk, rfl, rfl, rfl⟩ := hrel
    by_cases hlt : k < 62
    · have ha := HoA.out k (by omega)
      have hb := HoB.out k (by omega)
      have hlt2 : (k : Int) < 62 := by omega
      obtain ⟨SA, hSA⟩ : ∃ SA, str (opens (k + 1)) = SA := ⟨_, rfl⟩
      obtain ⟨SB, hSB⟩ : ∃ SB, str (shuts (k + 1)) = SB := ⟨_, rfl⟩
      rw [hSA] at ha
      rw [hSB] at hb
      have HSA := Lib.hid hSA
      have HSB := Lib.hid hSB
      clear hSA hSB
      go_wp2_with fail
      go_roundw
      case rel => exact ⟨k + 1, by go_num, by omega, by rw [HSA.out], by rw [HSB.out], trivial⟩
      case measure => simp [intOf]; omega
    · obtain rfl : k = 62 := by omega
      have hlt2 : ¬ ((62 : Nat) : Int) < 62 := by omega
      obtain ⟨OA, hOA⟩ : ∃ OA, str (opens 62) = OA := ⟨_, rfl⟩
      obtain ⟨OB, hOB⟩ : ∃ OB, str (shuts 62) = OB := ⟨_, rfl⟩
      obtain ⟨T1, hT1⟩ : ∃ S, str (opens 62 ++ [120, 32, 61, 32, 49, 59]) = S := ⟨_, rfl⟩
      have sT1 : ∀ w, (Op.stringOp .add OA ⟨#[120, 32, 61, 32, 49, 59]⟩).run Tryz.prog w = .ok (.string T1) w := fun w => by rw [← hT1, ← hOA]; exact cat_str (opens 62) ([120, 32, 61, 32, 49, 59]) (by decide) w
      obtain ⟨T2, hT2⟩ : ∃ S, str (opens 62 ++ [120, 32, 61, 32, 49, 59] ++ shuts 62) = S := ⟨_, rfl⟩
      have sT2 : ∀ w, (Op.stringOp .add T1 OB).run Tryz.prog w = .ok (.string T2) w := fun w => by rw [← hT2, ← hOB, ← hT1]; exact cat_str (opens 62 ++ [120, 32, 61, 32, 49, 59]) (shuts 62) (by decide) w
      obtain ⟨T3, hT3⟩ : ∃ S, str (opens 62 ++ [120, 32, 61, 32, 126, 49, 59]) = S := ⟨_, rfl⟩
      have sT3 : ∀ w, (Op.stringOp .add OA ⟨#[120, 32, 61, 32, 126, 49, 59]⟩).run Tryz.prog w = .ok (.string T3) w := fun w => by rw [← hT3, ← hOA]; exact cat_str (opens 62) ([120, 32, 61, 32, 126, 49, 59]) (by decide) w
      obtain ⟨T4, hT4⟩ : ∃ S, str (opens 62 ++ [120, 32, 61, 32, 126, 49, 59] ++ shuts 62) = S := ⟨_, rfl⟩
      have sT4 : ∀ w, (Op.stringOp .add T3 OB).run Tryz.prog w = .ok (.string T4) w := fun w => by rw [← hT4, ← hOB, ← hT3]; exact cat_str (opens 62 ++ [120, 32, 61, 32, 126, 49, 59]) (shuts 62) (by decide) w
      obtain ⟨T5, hT5⟩ : ∃ S, str ([105, 102, 32, 49, 32, 123] ++ opens 62) = S := ⟨_, rfl⟩
      have sT5 : ∀ w, (Op.stringOp .add ⟨#[105, 102, 32, 49, 32, 123]⟩ OA).run Tryz.prog w = .ok (.string T5) w := fun w => by rw [← hT5, ← hOA]; exact cat_str ([105, 102, 32, 49, 32, 123]) (opens 62) (by decide) w
      obtain ⟨T6, hT6⟩ : ∃ S, str ([105, 102, 32, 49, 32, 123] ++ opens 62 ++ [120, 32, 61, 32, 49, 59]) = S := ⟨_, rfl⟩
      have sT6 : ∀ w, (Op.stringOp .add T5 ⟨#[120, 32, 61, 32, 49, 59]⟩).run Tryz.prog w = .ok (.string T6) w := fun w => by rw [← hT6, ← hT5]; exact cat_str ([105, 102, 32, 49, 32, 123] ++ opens 62) ([120, 32, 61, 32, 49, 59]) (by decide) w
      obtain ⟨T7, hT7⟩ : ∃ S, str ([105, 102, 32, 49, 32, 123] ++ opens 62 ++ [120, 32, 61, 32, 49, 59] ++ shuts 62) = S := ⟨_, rfl⟩
      have sT7 : ∀ w, (Op.stringOp .add T6 OB).run Tryz.prog w = .ok (.string T7) w := fun w => by rw [← hT7, ← hOB, ← hT6]; exact cat_str ([105, 102, 32, 49, 32, 123] ++ opens 62 ++ [120, 32, 61, 32, 49, 59]) (shuts 62) (by decide) w
      obtain ⟨T8, hT8⟩ : ∃ S, str ([105, 102, 32, 49, 32, 123] ++ opens 62 ++ [120, 32, 61, 32, 49, 59] ++ shuts 62 ++ [125]) = S := ⟨_, rfl⟩
      have sT8 : ∀ w, (Op.stringOp .add T7 ⟨#[125]⟩).run Tryz.prog w = .ok (.string T8) w := fun w => by rw [← hT8, ← hT7]; exact cat_str ([105, 102, 32, 49, 32, 123] ++ opens 62 ++ [120, 32, 61, 32, 49, 59] ++ shuts 62) ([125]) (by decide) w
      have hrT : T2 = ⟨tA.toArray⟩ ∧ T4 = ⟨tB.toArray⟩ ∧ T8 = ⟨tC.toArray⟩ := ⟨by rw [← hT2]; rfl, by rw [← hT4]; rfl, by rw [← hT8]; rfl⟩
      rw [← hrT.1] at CA
      rw [← hrT.2.1] at CB
      rw [← hrT.2.2] at CC
      rw [hOA, hOB]
      clear hOA hOB hrT hT1 hT2 hT3 hT4 hT5 hT6 hT7 hT8
      go_wp2_with fail
      refine (CA.out wr (HG.out.later HG.out.2.2.2 HB.out)).mono ?_
      rintro z w1 ⟨qA, cA, hz, _, hb⟩
      obtain ⟨lA, hlA⟩ : ∃ l, (resS (readP onlyStmtsP tA)).len = l := ⟨_, rfl⟩
      rw [hlA] at hz
      obtain rfl : z = .returned (.tuple #[.slice qA lA cA, .agg #[.int .i64 0, .int .i64 0, .int .i64 0]]) := hz
      replace HB := Lib.hid (HB.out.trans (hb.mono HB.out.size))
      clear hb hlA
      obtain ⟨A2, hA2⟩ : ∃ A, w1.alloc (.cells #[.int .i64 0, .int .i64 0, .int .i64 0] 29) = A := ⟨_, rfl⟩
      have hBA : Below w1.heap.size w1 A2 := by rw [← hA2]; exact ((Below.refl w1.heap.size w1).alloc (Nat.le_refl _) _)
      replace HB := Lib.hid (HB.out.trans (hBA.mono HB.out.size))
      have Kt5 := Lib.hid (show A2.heap[w1.heap.size]? = some (.cells #[.int .i64 0, .int .i64 0, .int .i64 0] 29 (0, 0)) from by rw [← hA2]; exact heap_alloc_new w1 _)
      have HA2 := Lib.hid hA2
      clear hBA hA2
      go_wp2_with fail
      try rw [HA2.out]
      clear HA2
      refine (CB.out A2 (HG.out.later HG.out.2.2.2 HB.out)).mono ?_
      rintro z w3 ⟨qB, cB, hz, _, hb⟩
      obtain rfl : z = .returned (.tuple #[.slice qB 0 cB, .agg #[.int .i64 12, .int .i64 1, .int .i64 564]]) := hz
      replace Kt5 := Lib.hid ((hb.block _ (Array.getElem?_eq_some_iff.1 Kt5.out).1).trans Kt5.out)
      replace HB := Lib.hid (HB.out.trans (hb.mono HB.out.size))
      clear hb
      obtain ⟨A4, hA4⟩ : ∃ A, w3.alloc (.cells #[.int .i64 12, .int .i64 1, .int .i64 564] 29) = A := ⟨_, rfl⟩
      have hBA : Below w3.heap.size w3 A4 := by rw [← hA4]; exact ((Below.refl w3.heap.size w3).alloc (Nat.le_refl _) _)
      replace Kt5 := Lib.hid ((hBA.block _ (Array.getElem?_eq_some_iff.1 Kt5.out).1).trans Kt5.out)
      replace HB := Lib.hid (HB.out.trans (hBA.mono HB.out.size))
      have Kt7 := Lib.hid (show A4.heap[w3.heap.size]? = some (.cells #[.int .i64 12, .int .i64 1, .int .i64 564] 29 (0, 0)) from by rw [← hA4]; exact heap_alloc_new w3 _)
      have HA4 := Lib.hid hA4
      clear hBA hA4
      go_wp2_with fail
      try rw [HA4.out]
      clear HA4
      refine (CC.out A4 (HG.out.later HG.out.2.2.2 HB.out)).mono ?_
      rintro z w5 ⟨qC, cC, hz, _, hb⟩
      obtain rfl : z = .returned (.tuple #[.slice qC 0 cC, .agg #[.int .i64 12, .int .i64 1, .int .i64 569]]) := hz
      replace Kt5 := Lib.hid ((hb.block _ (Array.getElem?_eq_some_iff.1 Kt5.out).1).trans Kt5.out)
      replace Kt7 := Lib.hid ((hb.block _ (Array.getElem?_eq_some_iff.1 Kt7.out).1).trans Kt7.out)
      replace HB := Lib.hid (HB.out.trans (hb.mono HB.out.size))
      clear hb
      obtain ⟨A6, hA6⟩ : ∃ A, w5.alloc (.cells #[.int .i64 12, .int .i64 1, .int .i64 569] 29) = A := ⟨_, rfl⟩
      have hBA : Below w5.heap.size w5 A6 := by rw [← hA6]; exact ((Below.refl w5.heap.size w5).alloc (Nat.le_refl _) _)
      replace Kt5 := Lib.hid ((hBA.block _ (Array.getElem?_eq_some_iff.1 Kt5.out).1).trans Kt5.out)
      replace Kt7 := Lib.hid ((hBA.block _ (Array.getElem?_eq_some_iff.1 Kt7.out).1).trans Kt7.out)
      replace HB := Lib.hid (HB.out.trans (hBA.mono HB.out.size))
      have Kt9 := Lib.hid (show A6.heap[w5.heap.size]? = some (.cells #[.int .i64 12, .int .i64 1, .int .i64 569] 29 (0, 0)) from by rw [← hA6]; exact heap_alloc_new w5 _)
      have HA6 := Lib.hid hA6
      clear hBA hA6
      go_wp2_with fail
      try rw [HA6.out]
      clear HA6
      refine (CD.out A6 (HG.out.later HG.out.2.2.2 HB.out)).mono ?_
      rintro z w7 ⟨qD, pD, cD, dD, hz, _, hb⟩
      obtain rfl : z = .returned (.tuple #[.agg #[.slice qD 1 cD, .slice pD 0 dD], .agg #[.int .i64 0, .int .i64 0, .int .i64 0]]) := hz
      replace Kt5 := Lib.hid ((hb.block _ (Array.getElem?_eq_some_iff.1 Kt5.out).1).trans Kt5.out)
      replace Kt7 := Lib.hid ((hb.block _ (Array.getElem?_eq_some_iff.1 Kt7.out).1).trans Kt7.out)
      replace Kt9 := Lib.hid ((hb.block _ (Array.getElem?_eq_some_iff.1 Kt9.out).1).trans Kt9.out)
      replace HB := Lib.hid (HB.out.trans (hb.mono HB.out.size))
      clear hb
      obtain ⟨A8, hA8⟩ : ∃ A, (w7.alloc (.cells #[.slice qD 1 cD, .slice pD 0 dD] 26)).alloc (.cells #[.int .i64 0, .int .i64 0, .int .i64 0] 29) = A := ⟨_, rfl⟩
      have hBA : Below w7.heap.size w7 A8 := by rw [← hA8]; exact (((Below.refl w7.heap.size w7).alloc (Nat.le_refl _) _).alloc (by simp) _)
      replace Kt5 := Lib.hid ((hBA.block _ (Array.getElem?_eq_some_iff.1 Kt5.out).1).trans Kt5.out)
      replace Kt7 := Lib.hid ((hBA.block _ (Array.getElem?_eq_some_iff.1 Kt7.out).1).trans Kt7.out)
      replace Kt9 := Lib.hid ((hBA.block _ (Array.getElem?_eq_some_iff.1 Kt9.out).1).trans Kt9.out)
      replace HB := Lib.hid (HB.out.trans (hBA.mono HB.out.size))
      have Kt10 := Lib.hid (show A8.heap[w7.heap.size]? = some (.cells #[.slice qD 1 cD, .slice pD 0 dD] 26 (0, 0)) from by rw [← hA8, Below.heap_alloc _ _ _ (by simp)]; exact heap_alloc_new w7 _)
      have Kt11 := Lib.hid (show A8.heap[w7.heap.size + 1]? = some (.cells #[.int .i64 0, .int .i64 0, .int .i64 0] 29 (0, 0)) from by rw [← hA8]; have := heap_alloc_new (w7.alloc (.cells #[.slice qD 1 cD, .slice pD 0 dD] 26)) (.cells #[.int .i64 0, .int .i64 0, .int .i64 0] 29); simpa using this)
      have HA8 := Lib.hid hA8
      clear hBA hA8
      go_wp2_with fail
      try rw [HA8.out]
      clear HA8
      refine (CE.out A8 (HG.out.later HG.out.2.2.2 HB.out)).mono ?_
      rintro z w9 ⟨qE, pE, cE, dE, hz, _, hb⟩
      obtain rfl : z = .returned (.tuple #[.agg #[.slice qE 0 cE, .slice pE 0 dE], .agg #[.int .i64 15, .int .i64 1, .int .i64 10]]) := hz
      replace Kt5 := Lib.hid ((hb.block _ (Array.getElem?_eq_some_iff.1 Kt5.out).1).trans Kt5.out)
      replace Kt7 := Lib.hid ((hb.block _ (Array.getElem?_eq_some_iff.1 Kt7.out).1).trans Kt7.out)
      replace Kt9 := Lib.hid ((hb.block _ (Array.getElem?_eq_some_iff.1 Kt9.out).1).trans Kt9.out)
      replace Kt10 := Lib.hid ((hb.block _ (Array.getElem?_eq_some_iff.1 Kt10.out).1).trans Kt10.out)
      replace Kt11 := Lib.hid ((hb.block _ (Array.getElem?_eq_some_iff.1 Kt11.out).1).trans Kt11.out)
      replace HB := Lib.hid (HB.out.trans (hb.mono HB.out.size))
      clear hb
      obtain ⟨A10, hA10⟩ : ∃ A, (w9.alloc (.cells #[.slice qE 0 cE, .slice pE 0 dE] 26)).alloc (.cells #[.int .i64 15, .int .i64 1, .int .i64 10] 29) = A := ⟨_, rfl⟩
      have hBA : Below w9.heap.size w9 A10 := by rw [← hA10]; exact (((Below.refl w9.heap.size w9).alloc (Nat.le_refl _) _).alloc (by simp) _)
      replace Kt5 := Lib.hid ((hBA.block _ (Array.getElem?_eq_some_iff.1 Kt5.out).1).trans Kt5.out)
      replace Kt7 := Lib.hid ((hBA.block _ (Array.getElem?_eq_some_iff.1 Kt7.out).1).trans Kt7.out)
      replace Kt9 := Lib.hid ((hBA.block _ (Array.getElem?_eq_some_iff.1 Kt9.out).1).trans Kt9.out)
      replace Kt10 := Lib.hid ((hBA.block _ (Array.getElem?_eq_some_iff.1 Kt10.out).1).trans Kt10.out)
      replace Kt11 := Lib.hid ((hBA.block _ (Array.getElem?_eq_some_iff.1 Kt11.out).1).trans Kt11.out)
      replace HB := Lib.hid (HB.out.trans (hBA.mono HB.out.size))
      have Kt12 := Lib.hid (show A10.heap[w9.heap.size]? = some (.cells #[.slice qE 0 cE, .slice pE 0 dE] 26 (0, 0)) from by rw [← hA10, Below.heap_alloc _ _ _ (by simp)]; exact heap_alloc_new w9 _)
      have Kt13 := Lib.hid (show A10.heap[w9.heap.size + 1]? = some (.cells #[.int .i64 15, .int .i64 1, .int .i64 10] 29 (0, 0)) from by rw [← hA10]; have := heap_alloc_new (w9.alloc (.cells #[.slice qE 0 cE, .slice pE 0 dE] 26)) (.cells #[.int .i64 15, .int .i64 1, .int .i64 10] 29); simpa using this)
      have HA10 := Lib.hid hA10
      clear hBA hA10
      go_wp2_with fail
      try rw [HA10.out]
      clear HA10
      refine (CF.out A10 (HG.out.later HG.out.2.2.2 HB.out)).mono ?_
      rintro z w11 ⟨qF, pF, cF, dF, hz, _, hb⟩
      obtain rfl : z = .returned (.tuple #[.agg #[.slice qF 0 cF, .slice pF 0 dF], .agg #[.int .i64 15, .int .i64 1, .int .i64 61]]) := hz
      replace Kt5 := Lib.hid ((hb.block _ (Array.getElem?_eq_some_iff.1 Kt5.out).1).trans Kt5.out)
      replace Kt7 := Lib.hid ((hb.block _ (Array.getElem?_eq_some_iff.1 Kt7.out).1).trans Kt7.out)
      replace Kt9 := Lib.hid ((hb.block _ (Array.getElem?_eq_some_iff.1 Kt9.out).1).trans Kt9.out)
      replace Kt10 := Lib.hid ((hb.block _ (Array.getElem?_eq_some_iff.1 Kt10.out).1).trans Kt10.out)
      replace Kt11 := Lib.hid ((hb.block _ (Array.getElem?_eq_some_iff.1 Kt11.out).1).trans Kt11.out)
      replace Kt12 := Lib.hid ((hb.block _ (Array.getElem?_eq_some_iff.1 Kt12.out).1).trans Kt12.out)
      replace Kt13 := Lib.hid ((hb.block _ (Array.getElem?_eq_some_iff.1 Kt13.out).1).trans Kt13.out)
      replace HB := Lib.hid (HB.out.trans (hb.mono HB.out.size))
      clear hb
      obtain ⟨A12, hA12⟩ : ∃ A, (w11.alloc (.cells #[.slice qF 0 cF, .slice pF 0 dF] 26)).alloc (.cells #[.int .i64 15, .int .i64 1, .int .i64 61] 29) = A := ⟨_, rfl⟩
      have hBA : Below w11.heap.size w11 A12 := by rw [← hA12]; exact (((Below.refl w11.heap.size w11).alloc (Nat.le_refl _) _).alloc (by simp) _)
      replace Kt5 := Lib.hid ((hBA.block _ (Array.getElem?_eq_some_iff.1 Kt5.out).1).trans Kt5.out)
      replace Kt7 := Lib.hid ((hBA.block _ (Array.getElem?_eq_some_iff.1 Kt7.out).1).trans Kt7.out)
      replace Kt9 := Lib.hid ((hBA.block _ (Array.getElem?_eq_some_iff.1 Kt9.out).1).trans Kt9.out)
      replace Kt10 := Lib.hid ((hBA.block _ (Array.getElem?_eq_some_iff.1 Kt10.out).1).trans Kt10.out)
      replace Kt11 := Lib.hid ((hBA.block _ (Array.getElem?_eq_some_iff.1 Kt11.out).1).trans Kt11.out)
      replace Kt12 := Lib.hid ((hBA.block _ (Array.getElem?_eq_some_iff.1 Kt12.out).1).trans Kt12.out)
      replace Kt13 := Lib.hid ((hBA.block _ (Array.getElem?_eq_some_iff.1 Kt13.out).1).trans Kt13.out)
      replace HB := Lib.hid (HB.out.trans (hBA.mono HB.out.size))
      have Kt14 := Lib.hid (show A12.heap[w11.heap.size]? = some (.cells #[.slice qF 0 cF, .slice pF 0 dF] 26 (0, 0)) from by rw [← hA12, Below.heap_alloc _ _ _ (by simp)]; exact heap_alloc_new w11 _)
      have Kt15 := Lib.hid (show A12.heap[w11.heap.size + 1]? = some (.cells #[.int .i64 15, .int .i64 1, .int .i64 61] 29 (0, 0)) from by rw [← hA12]; have := heap_alloc_new (w11.alloc (.cells #[.slice qF 0 cF, .slice pF 0 dF] 26)) (.cells #[.int .i64 15, .int .i64 1, .int .i64 61] 29); simpa using this)
      have HA12 := Lib.hid hA12
      clear hBA hA12
      go_wp2_with fail
      try rw [HA12.out]
      clear HA12
      refine (D0.out A12 (HG.out.later HG.out.2.2.2 HB.out)).mono ?_
      rintro z w13 ⟨rfl, hb⟩
      replace Kt5 := Lib.hid ((hb.block _ (Array.getElem?_eq_some_iff.1 Kt5.out).1).trans Kt5.out)
      replace Kt7 := Lib.hid ((hb.block _ (Array.getElem?_eq_some_iff.1 Kt7.out).1).trans Kt7.out)
      replace Kt9 := Lib.hid ((hb.block _ (Array.getElem?_eq_some_iff.1 Kt9.out).1).trans Kt9.out)
      replace Kt10 := Lib.hid ((hb.block _ (Array.getElem?_eq_some_iff.1 Kt10.out).1).trans Kt10.out)
      replace Kt11 := Lib.hid ((hb.block _ (Array.getElem?_eq_some_iff.1 Kt11.out).1).trans Kt11.out)
      replace Kt12 := Lib.hid ((hb.block _ (Array.getElem?_eq_some_iff.1 Kt12.out).1).trans Kt12.out)
      replace Kt13 := Lib.hid ((hb.block _ (Array.getElem?_eq_some_iff.1 Kt13.out).1).trans Kt13.out)
      replace Kt14 := Lib.hid ((hb.block _ (Array.getElem?_eq_some_iff.1 Kt14.out).1).trans Kt14.out)
      replace Kt15 := Lib.hid ((hb.block _ (Array.getElem?_eq_some_iff.1 Kt15.out).1).trans Kt15.out)
      replace HB := Lib.hid (HB.out.trans (hb.mono HB.out.size))
      clear hb
      go_wp2_with fail
      refine (D1.out w13 (HG.out.later HG.out.2.2.2 HB.out)).mono ?_
      rintro z w14 ⟨rfl, hb⟩
      replace Kt5 := Lib.hid ((hb.block _ (Array.getElem?_eq_some_iff.1 Kt5.out).1).trans Kt5.out)
      replace Kt7 := Lib.hid ((hb.block _ (Array.getElem?_eq_some_iff.1 Kt7.out).1).trans Kt7.out)
      replace Kt9 := Lib.hid ((hb.block _ (Array.getElem?_eq_some_iff.1 Kt9.out).1).trans Kt9.out)
      replace Kt10 := Lib.hid ((hb.block _ (Array.getElem?_eq_some_iff.1 Kt10.out).1).trans Kt10.out)
      replace Kt11 := Lib.hid ((hb.block _ (Array.getElem?_eq_some_iff.1 Kt11.out).1).trans Kt11.out)
      replace Kt12 := Lib.hid ((hb.block _ (Array.getElem?_eq_some_iff.1 Kt12.out).1).trans Kt12.out)
      replace Kt13 := Lib.hid ((hb.block _ (Array.getElem?_eq_some_iff.1 Kt13.out).1).trans Kt13.out)
      replace Kt14 := Lib.hid ((hb.block _ (Array.getElem?_eq_some_iff.1 Kt14.out).1).trans Kt14.out)
      replace Kt15 := Lib.hid ((hb.block _ (Array.getElem?_eq_some_iff.1 Kt15.out).1).trans Kt15.out)
      replace HB := Lib.hid (HB.out.trans (hb.mono HB.out.size))
      clear hb
      go_wp2_with fail
      refine (D2.out w14 (HG.out.later HG.out.2.2.2 HB.out)).mono ?_
      rintro z w15 ⟨rfl, hb⟩
      replace Kt5 := Lib.hid ((hb.block _ (Array.getElem?_eq_some_iff.1 Kt5.out).1).trans Kt5.out)
      replace Kt7 := Lib.hid ((hb.block _ (Array.getElem?_eq_some_iff.1 Kt7.out).1).trans Kt7.out)
      replace Kt9 := Lib.hid ((hb.block _ (Array.getElem?_eq_some_iff.1 Kt9.out).1).trans Kt9.out)
      replace Kt10 := Lib.hid ((hb.block _ (Array.getElem?_eq_some_iff.1 Kt10.out).1).trans Kt10.out)
      replace Kt11 := Lib.hid ((hb.block _ (Array.getElem?_eq_some_iff.1 Kt11.out).1).trans Kt11.out)
      replace Kt12 := Lib.hid ((hb.block _ (Array.getElem?_eq_some_iff.1 Kt12.out).1).trans Kt12.out)
      replace Kt13 := Lib.hid ((hb.block _ (Array.getElem?_eq_some_iff.1 Kt13.out).1).trans Kt13.out)
      replace Kt14 := Lib.hid ((hb.block _ (Array.getElem?_eq_some_iff.1 Kt14.out).1).trans Kt14.out)
      replace Kt15 := Lib.hid ((hb.block _ (Array.getElem?_eq_some_iff.1 Kt15.out).1).trans Kt15.out)
      replace HB := Lib.hid (HB.out.trans (hb.mono HB.out.size))
      clear hb
      go_wp2_with fail
      refine (D3.out w15 (HG.out.later HG.out.2.2.2 HB.out)).mono ?_
      rintro z w16 ⟨rfl, hb⟩
      replace Kt5 := Lib.hid ((hb.block _ (Array.getElem?_eq_some_iff.1 Kt5.out).1).trans Kt5.out)
      replace Kt7 := Lib.hid ((hb.block _ (Array.getElem?_eq_some_iff.1 Kt7.out).1).trans Kt7.out)
      replace Kt9 := Lib.hid ((hb.block _ (Array.getElem?_eq_some_iff.1 Kt9.out).1).trans Kt9.out)
      replace Kt10 := Lib.hid ((hb.block _ (Array.getElem?_eq_some_iff.1 Kt10.out).1).trans Kt10.out)
      replace Kt11 := Lib.hid ((hb.block _ (Array.getElem?_eq_some_iff.1 Kt11.out).1).trans Kt11.out)
      replace Kt12 := Lib.hid ((hb.block _ (Array.getElem?_eq_some_iff.1 Kt12.out).1).trans Kt12.out)
      replace Kt13 := Lib.hid ((hb.block _ (Array.getElem?_eq_some_iff.1 Kt13.out).1).trans Kt13.out)
      replace Kt14 := Lib.hid ((hb.block _ (Array.getElem?_eq_some_iff.1 Kt14.out).1).trans Kt14.out)
      replace Kt15 := Lib.hid ((hb.block _ (Array.getElem?_eq_some_iff.1 Kt15.out).1).trans Kt15.out)
      replace HB := Lib.hid (HB.out.trans (hb.mono HB.out.size))
      clear hb
      go_wp2_with fail
      refine (D4.out w16 (HG.out.later HG.out.2.2.2 HB.out)).mono ?_
      rintro z w17 ⟨rfl, hb⟩
      replace Kt5 := Lib.hid ((hb.block _ (Array.getElem?_eq_some_iff.1 Kt5.out).1).trans Kt5.out)
      replace Kt7 := Lib.hid ((hb.block _ (Array.getElem?_eq_some_iff.1 Kt7.out).1).trans Kt7.out)
      replace Kt9 := Lib.hid ((hb.block _ (Array.getElem?_eq_some_iff.1 Kt9.out).1).trans Kt9.out)
      replace Kt10 := Lib.hid ((hb.block _ (Array.getElem?_eq_some_iff.1 Kt10.out).1).trans Kt10.out)
      replace Kt11 := Lib.hid ((hb.block _ (Array.getElem?_eq_some_iff.1 Kt11.out).1).trans Kt11.out)
      replace Kt12 := Lib.hid ((hb.block _ (Array.getElem?_eq_some_iff.1 Kt12.out).1).trans Kt12.out)
      replace Kt13 := Lib.hid ((hb.block _ (Array.getElem?_eq_some_iff.1 Kt13.out).1).trans Kt13.out)
      replace Kt14 := Lib.hid ((hb.block _ (Array.getElem?_eq_some_iff.1 Kt14.out).1).trans Kt14.out)
      replace Kt15 := Lib.hid ((hb.block _ (Array.getElem?_eq_some_iff.1 Kt15.out).1).trans Kt15.out)
      replace HB := Lib.hid (HB.out.trans (hb.mono HB.out.size))
      clear hb
      go_wp2_with fail
      refine (D5.out w17 (HG.out.later HG.out.2.2.2 HB.out)).mono ?_
      rintro z w18 ⟨rfl, hb⟩
      replace Kt5 := Lib.hid ((hb.block _ (Array.getElem?_eq_some_iff.1 Kt5.out).1).trans Kt5.out)
      replace Kt7 := Lib.hid ((hb.block _ (Array.getElem?_eq_some_iff.1 Kt7.out).1).trans Kt7.out)
      replace Kt9 := Lib.hid ((hb.block _ (Array.getElem?_eq_some_iff.1 Kt9.out).1).trans Kt9.out)
      replace Kt10 := Lib.hid ((hb.block _ (Array.getElem?_eq_some_iff.1 Kt10.out).1).trans Kt10.out)
      replace Kt11 := Lib.hid ((hb.block _ (Array.getElem?_eq_some_iff.1 Kt11.out).1).trans Kt11.out)
      replace Kt12 := Lib.hid ((hb.block _ (Array.getElem?_eq_some_iff.1 Kt12.out).1).trans Kt12.out)
      replace Kt13 := Lib.hid ((hb.block _ (Array.getElem?_eq_some_iff.1 Kt13.out).1).trans Kt13.out)
      replace Kt14 := Lib.hid ((hb.block _ (Array.getElem?_eq_some_iff.1 Kt14.out).1).trans Kt14.out)
      replace Kt15 := Lib.hid ((hb.block _ (Array.getElem?_eq_some_iff.1 Kt15.out).1).trans Kt15.out)
      replace HB := Lib.hid (HB.out.trans (hb.mono HB.out.size))
      clear hb
      go_wp2_with fail
      refine (D6.out w18 (HG.out.later HG.out.2.2.2 HB.out)).mono ?_
      rintro z w19 ⟨rfl, hb⟩
      replace Kt5 := Lib.hid ((hb.block _ (Array.getElem?_eq_some_iff.1 Kt5.out).1).trans Kt5.out)
      replace Kt7 := Lib.hid ((hb.block _ (Array.getElem?_eq_some_iff.1 Kt7.out).1).trans Kt7.out)
      replace Kt9 := Lib.hid ((hb.block _ (Array.getElem?_eq_some_iff.1 Kt9.out).1).trans Kt9.out)
      replace Kt10 := Lib.hid ((hb.block _ (Array.getElem?_eq_some_iff.1 Kt10.out).1).trans Kt10.out)
      replace Kt11 := Lib.hid ((hb.block _ (Array.getElem?_eq_some_iff.1 Kt11.out).1).trans Kt11.out)
      replace Kt12 := Lib.hid ((hb.block _ (Array.getElem?_eq_some_iff.1 Kt12.out).1).trans Kt12.out)
      replace Kt13 := Lib.hid ((hb.block _ (Array.getElem?_eq_some_iff.1 Kt13.out).1).trans Kt13.out)
      replace Kt14 := Lib.hid ((hb.block _ (Array.getElem?_eq_some_iff.1 Kt14.out).1).trans Kt14.out)
      replace Kt15 := Lib.hid ((hb.block _ (Array.getElem?_eq_some_iff.1 Kt15.out).1).trans Kt15.out)
      replace HB := Lib.hid (HB.out.trans (hb.mono HB.out.size))
      clear hb
      go_wp2_with fail
      refine (D7.out w19 (HG.out.later HG.out.2.2.2 HB.out)).mono ?_
      rintro z w20 ⟨rfl, hb⟩
      replace Kt5 := Lib.hid ((hb.block _ (Array.getElem?_eq_some_iff.1 Kt5.out).1).trans Kt5.out)
      replace Kt7 := Lib.hid ((hb.block _ (Array.getElem?_eq_some_iff.1 Kt7.out).1).trans Kt7.out)
      replace Kt9 := Lib.hid ((hb.block _ (Array.getElem?_eq_some_iff.1 Kt9.out).1).trans Kt9.out)
      replace Kt10 := Lib.hid ((hb.block _ (Array.getElem?_eq_some_iff.1 Kt10.out).1).trans Kt10.out)
      replace Kt11 := Lib.hid ((hb.block _ (Array.getElem?_eq_some_iff.1 Kt11.out).1).trans Kt11.out)
      replace Kt12 := Lib.hid ((hb.block _ (Array.getElem?_eq_some_iff.1 Kt12.out).1).trans Kt12.out)
      replace Kt13 := Lib.hid ((hb.block _ (Array.getElem?_eq_some_iff.1 Kt13.out).1).trans Kt13.out)
      replace Kt14 := Lib.hid ((hb.block _ (Array.getElem?_eq_some_iff.1 Kt14.out).1).trans Kt14.out)
      replace Kt15 := Lib.hid ((hb.block _ (Array.getElem?_eq_some_iff.1 Kt15.out).1).trans Kt15.out)
      replace HB := Lib.hid (HB.out.trans (hb.mono HB.out.size))
      clear hb
      go_wp2_with fail
      refine (D8.out w20 (HG.out.later HG.out.2.2.2 HB.out)).mono ?_
      rintro z w21 ⟨rfl, hb⟩
      replace Kt5 := Lib.hid ((hb.block _ (Array.getElem?_eq_some_iff.1 Kt5.out).1).trans Kt5.out)
      replace Kt7 := Lib.hid ((hb.block _ (Array.getElem?_eq_some_iff.1 Kt7.out).1).trans Kt7.out)
      replace Kt9 := Lib.hid ((hb.block _ (Array.getElem?_eq_some_iff.1 Kt9.out).1).trans Kt9.out)
      replace Kt10 := Lib.hid ((hb.block _ (Array.getElem?_eq_some_iff.1 Kt10.out).1).trans Kt10.out)
      replace Kt11 := Lib.hid ((hb.block _ (Array.getElem?_eq_some_iff.1 Kt11.out).1).trans Kt11.out)
      replace Kt12 := Lib.hid ((hb.block _ (Array.getElem?_eq_some_iff.1 Kt12.out).1).trans Kt12.out)
      replace Kt13 := Lib.hid ((hb.block _ (Array.getElem?_eq_some_iff.1 Kt13.out).1).trans Kt13.out)
      replace Kt14 := Lib.hid ((hb.block _ (Array.getElem?_eq_some_iff.1 Kt14.out).1).trans Kt14.out)
      replace Kt15 := Lib.hid ((hb.block _ (Array.getElem?_eq_some_iff.1 Kt15.out).1).trans Kt15.out)
      replace HB := Lib.hid (HB.out.trans (hb.mono HB.out.size))
      clear hb
      go_wp2_with fail
      refine (D9.out w21 (HG.out.later HG.out.2.2.2 HB.out)).mono ?_
      rintro z w22 ⟨rfl, hb⟩
      replace Kt5 := Lib.hid ((hb.block _ (Array.getElem?_eq_some_iff.1 Kt5.out).1).trans Kt5.out)
      replace Kt7 := Lib.hid ((hb.block _ (Array.getElem?_eq_some_iff.1 Kt7.out).1).trans Kt7.out)
      replace Kt9 := Lib.hid ((hb.block _ (Array.getElem?_eq_some_iff.1 Kt9.out).1).trans Kt9.out)
      replace Kt10 := Lib.hid ((hb.block _ (Array.getElem?_eq_some_iff.1 Kt10.out).1).trans Kt10.out)
      replace Kt11 := Lib.hid ((hb.block _ (Array.getElem?_eq_some_iff.1 Kt11.out).1).trans Kt11.out)
      replace Kt12 := Lib.hid ((hb.block _ (Array.getElem?_eq_some_iff.1 Kt12.out).1).trans Kt12.out)
      replace Kt13 := Lib.hid ((hb.block _ (Array.getElem?_eq_some_iff.1 Kt13.out).1).trans Kt13.out)
      replace Kt14 := Lib.hid ((hb.block _ (Array.getElem?_eq_some_iff.1 Kt14.out).1).trans Kt14.out)
      replace Kt15 := Lib.hid ((hb.block _ (Array.getElem?_eq_some_iff.1 Kt15.out).1).trans Kt15.out)
      replace HB := Lib.hid (HB.out.trans (hb.mono HB.out.size))
      clear hb
      go_wp2_with fail
      refine (D10.out w22 (HG.out.later HG.out.2.2.2 HB.out)).mono ?_
      rintro z w23 ⟨rfl, hb⟩
      replace Kt5 := Lib.hid ((hb.block _ (Array.getElem?_eq_some_iff.1 Kt5.out).1).trans Kt5.out)
      replace Kt7 := Lib.hid ((hb.block _ (Array.getElem?_eq_some_iff.1 Kt7.out).1).trans Kt7.out)
      replace Kt9 := Lib.hid ((hb.block _ (Array.getElem?_eq_some_iff.1 Kt9.out).1).trans Kt9.out)
      replace Kt10 := Lib.hid ((hb.block _ (Array.getElem?_eq_some_iff.1 Kt10.out).1).trans Kt10.out)
      replace Kt11 := Lib.hid ((hb.block _ (Array.getElem?_eq_some_iff.1 Kt11.out).1).trans Kt11.out)
      replace Kt12 := Lib.hid ((hb.block _ (Array.getElem?_eq_some_iff.1 Kt12.out).1).trans Kt12.out)
      replace Kt13 := Lib.hid ((hb.block _ (Array.getElem?_eq_some_iff.1 Kt13.out).1).trans Kt13.out)
      replace Kt14 := Lib.hid ((hb.block _ (Array.getElem?_eq_some_iff.1 Kt14.out).1).trans Kt14.out)
      replace Kt15 := Lib.hid ((hb.block _ (Array.getElem?_eq_some_iff.1 Kt15.out).1).trans Kt15.out)
      replace HB := Lib.hid (HB.out.trans (hb.mono HB.out.size))
      clear hb
      go_wp2_with fail
      refine (D11.out w23 (HG.out.later HG.out.2.2.2 HB.out)).mono ?_
      rintro z w24 ⟨rfl, hb⟩
      replace Kt5 := Lib.hid ((hb.block _ (Array.getElem?_eq_some_iff.1 Kt5.out).1).trans Kt5.out)
      replace Kt7 := Lib.hid ((hb.block _ (Array.getElem?_eq_some_iff.1 Kt7.out).1).trans Kt7.out)
      replace Kt9 := Lib.hid ((hb.block _ (Array.getElem?_eq_some_iff.1 Kt9.out).1).trans Kt9.out)
      replace Kt10 := Lib.hid ((hb.block _ (Array.getElem?_eq_some_iff.1 Kt10.out).1).trans Kt10.out)
      replace Kt11 := Lib.hid ((hb.block _ (Array.getElem?_eq_some_iff.1 Kt11.out).1).trans Kt11.out)
      replace Kt12 := Lib.hid ((hb.block _ (Array.getElem?_eq_some_iff.1 Kt12.out).1).trans Kt12.out)
      replace Kt13 := Lib.hid ((hb.block _ (Array.getElem?_eq_some_iff.1 Kt13.out).1).trans Kt13.out)
      replace Kt14 := Lib.hid ((hb.block _ (Array.getElem?_eq_some_iff.1 Kt14.out).1).trans Kt14.out)
      replace Kt15 := Lib.hid ((hb.block _ (Array.getElem?_eq_some_iff.1 Kt15.out).1).trans Kt15.out)
      replace HB := Lib.hid (HB.out.trans (hb.mono HB.out.size))
      clear hb
      have yt5_0 := cell_blk Kt5.out (j := 0) rfl
      have yt5_1 := cell_blk Kt5.out (j := 1) rfl
      have yt5_2 := cell_blk Kt5.out (j := 2) rfl
      have yt7_0 := cell_blk Kt7.out (j := 0) rfl
      have yt7_1 := cell_blk Kt7.out (j := 1) rfl
      have yt7_2 := cell_blk Kt7.out (j := 2) rfl
      have yt9_0 := cell_blk Kt9.out (j := 0) rfl
      have yt9_1 := cell_blk Kt9.out (j := 1) rfl
      have yt9_2 := cell_blk Kt9.out (j := 2) rfl
      have yt11_0 := cell_blk Kt11.out (j := 0) rfl
      have yt11_1 := cell_blk Kt11.out (j := 1) rfl
      have yt11_2 := cell_blk Kt11.out (j := 2) rfl
      have yt13_0 := cell_blk Kt13.out (j := 0) rfl
      have yt13_1 := cell_blk Kt13.out (j := 1) rfl
      have yt13_2 := cell_blk Kt13.out (j := 2) rfl
      go_wp2_with fail
      refine (HNum.out 12 w24).mono ?_
      rintro z wz ⟨rfl, hwz⟩
      obtain rfl : w24 = wz := hwz.symm
      go_wp2_with fail
      refine (HNum.out 12 w24).mono ?_
      rintro z wz ⟨rfl, hwz⟩
      obtain rfl : w24 = wz := hwz.symm
      go_wp2_with fail
      refine (HFa.out 15 1 10 w24).mono ?_
      rintro z w25 ⟨rfl, hb⟩
      clear yt5_0 yt5_1 yt5_2 yt7_0 yt7_1 yt7_2 yt9_0 yt9_1 yt9_2 yt11_0 yt11_1 yt11_2 yt13_0 yt13_1 yt13_2
      replace Kt5 := Lib.hid ((hb.block _ (Array.getElem?_eq_some_iff.1 Kt5.out).1).trans Kt5.out)
      replace Kt7 := Lib.hid ((hb.block _ (Array.getElem?_eq_some_iff.1 Kt7.out).1).trans Kt7.out)
      replace Kt9 := Lib.hid ((hb.block _ (Array.getElem?_eq_some_iff.1 Kt9.out).1).trans Kt9.out)
      replace Kt10 := Lib.hid ((hb.block _ (Array.getElem?_eq_some_iff.1 Kt10.out).1).trans Kt10.out)
      replace Kt11 := Lib.hid ((hb.block _ (Array.getElem?_eq_some_iff.1 Kt11.out).1).trans Kt11.out)
      replace Kt12 := Lib.hid ((hb.block _ (Array.getElem?_eq_some_iff.1 Kt12.out).1).trans Kt12.out)
      replace Kt13 := Lib.hid ((hb.block _ (Array.getElem?_eq_some_iff.1 Kt13.out).1).trans Kt13.out)
      replace Kt14 := Lib.hid ((hb.block _ (Array.getElem?_eq_some_iff.1 Kt14.out).1).trans Kt14.out)
      replace Kt15 := Lib.hid ((hb.block _ (Array.getElem?_eq_some_iff.1 Kt15.out).1).trans Kt15.out)
      replace HB := Lib.hid (HB.out.trans (hb.mono HB.out.size))
      clear hb
      have yt15_0 := cell_blk Kt15.out (j := 0) rfl
      have yt15_1 := cell_blk Kt15.out (j := 1) rfl
      have yt15_2 := cell_blk Kt15.out (j := 2) rfl
      go_wp2_with fail
      refine (HFa.out 15 1 61 w25).mono ?_
      rintro z w26 ⟨rfl, hb⟩
      clear yt15_0 yt15_1 yt15_2
      replace Kt5 := Lib.hid ((hb.block _ (Array.getElem?_eq_some_iff.1 Kt5.out).1).trans Kt5.out)
      replace Kt7 := Lib.hid ((hb.block _ (Array.getElem?_eq_some_iff.1 Kt7.out).1).trans Kt7.out)
      replace Kt9 := Lib.hid ((hb.block _ (Array.getElem?_eq_some_iff.1 Kt9.out).1).trans Kt9.out)
      replace Kt10 := Lib.hid ((hb.block _ (Array.getElem?_eq_some_iff.1 Kt10.out).1).trans Kt10.out)
      replace Kt11 := Lib.hid ((hb.block _ (Array.getElem?_eq_some_iff.1 Kt11.out).1).trans Kt11.out)
      replace Kt12 := Lib.hid ((hb.block _ (Array.getElem?_eq_some_iff.1 Kt12.out).1).trans Kt12.out)
      replace Kt13 := Lib.hid ((hb.block _ (Array.getElem?_eq_some_iff.1 Kt13.out).1).trans Kt13.out)
      replace Kt14 := Lib.hid ((hb.block _ (Array.getElem?_eq_some_iff.1 Kt14.out).1).trans Kt14.out)
      replace Kt15 := Lib.hid ((hb.block _ (Array.getElem?_eq_some_iff.1 Kt15.out).1).trans Kt15.out)
      replace HB := Lib.hid (HB.out.trans (hb.mono HB.out.size))
      clear hb
      go_wp2_with fail
      refine (HKn.out w26 (HG.out.later HG.out.2.2.2 HB.out)).mono ?_
      rintro z w27 ⟨rfl, hb⟩
      replace Kt5 := Lib.hid ((hb.block _ (Array.getElem?_eq_some_iff.1 Kt5.out).1).trans Kt5.out)
      replace Kt7 := Lib.hid ((hb.block _ (Array.getElem?_eq_some_iff.1 Kt7.out).1).trans Kt7.out)
      replace Kt9 := Lib.hid ((hb.block _ (Array.getElem?_eq_some_iff.1 Kt9.out).1).trans Kt9.out)
      replace Kt10 := Lib.hid ((hb.block _ (Array.getElem?_eq_some_iff.1 Kt10.out).1).trans Kt10.out)
      replace Kt11 := Lib.hid ((hb.block _ (Array.getElem?_eq_some_iff.1 Kt11.out).1).trans Kt11.out)
      replace Kt12 := Lib.hid ((hb.block _ (Array.getElem?_eq_some_iff.1 Kt12.out).1).trans Kt12.out)
      replace Kt13 := Lib.hid ((hb.block _ (Array.getElem?_eq_some_iff.1 Kt13.out).1).trans Kt13.out)
      replace Kt14 := Lib.hid ((hb.block _ (Array.getElem?_eq_some_iff.1 Kt14.out).1).trans Kt14.out)
      replace Kt15 := Lib.hid ((hb.block _ (Array.getElem?_eq_some_iff.1 Kt15.out).1).trans Kt15.out)
      replace HB := Lib.hid (HB.out.trans (hb.mono HB.out.size))
      clear hb
      go_wp2_with fail
      go_ret
      exact ⟨rfl, HB.out⟩
end Go.Proofs.YtchbnkepmeelkaaGreatDoor
