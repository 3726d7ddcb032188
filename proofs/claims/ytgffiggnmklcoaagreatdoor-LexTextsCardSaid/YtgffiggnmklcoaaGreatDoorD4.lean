/- The token that a word is. -/
import Derived.Test.YtgffiggnmklcoaaGreatDoorD3
import Derived.Outline
namespace Go.Proofs.YtgffiggnmklcoaaGreatDoor
open Go.RowKit

/-- a word's error, kind, number -/
def wordE (l : List UInt8) : Nat :=
  if isDig (l.headD 0) then numE l else if isLet (l.headD 0) then (if ownB l then 0 else if 16 < l.length then 8 else 0) else 15
def wordK (l : List UInt8) : Nat := if wordE l = 0 then (if isDig (l.headD 0) then 3 else if ownB l then 2 else 1) else 0
def wordX (l : List UInt8) : Nat := if isDig (l.headD 0) then numV l else 0
def wordT (l : List UInt8) : List UInt8 := if wordE l = 0 then l else []
def wordV (s : ByteArray) : Ending := .returned (.tuple #[tokV (wordK s.data.toList) (str (wordT s.data.toList)) (wordX s.data.toList) 0 0, .int .i64 (wordE s.data.toList)])

theorem word_of {s : ByteArray} {k x e : Nat} {t : ByteArray} (h1 : wordK s.data.toList = k) (h2 : wordX s.data.toList = x) (h3 : wordE s.data.toList = e) (h4 : str (wordT s.data.toList) = t) :
    wordV s = .returned (.tuple #[.agg #[.int .i64 k, .string t, .int .u64 x, .int .i64 0, .int .i64 0], .int .i64 e]) := by rw [wordV, h1, h2, h3, h4]; rfl
theorem str_eta (s : ByteArray) : str s.data.toList = s := bytes_ext rfl
theorem word_num {s : ByteArray} (h0 : isDig (s.data.toList.headD 0) = true) (h1 : numE s.data.toList = 0) : wordV s = .returned (.tuple #[.agg #[.int .i64 3, .string s, .int .u64 (numV s.data.toList), .int .i64 0, .int .i64 0], .int .i64 0]) := by
  have e : wordE s.data.toList = 0 := by rw [wordE, if_pos h0, h1]
  exact word_of (by rw [wordK, if_pos e, if_pos h0]) (by rw [wordX, if_pos h0]) e (by rw [wordT, if_pos e, str_eta])
theorem word_bad {s : ByteArray} (h0 : isDig (s.data.toList.headD 0) = true) (h1 : numE s.data.toList = 15) (h2 : numV s.data.toList = 0) : wordV s = .returned (.tuple #[.agg #[.int .i64 0, .string ⟨#[]⟩, .int .u64 0, .int .i64 0, .int .i64 0], .int .i64 15]) := by
  have e : wordE s.data.toList = 15 := by rw [wordE, if_pos h0, h1]
  exact word_of (k := 0) (x := 0) (by rw [wordK, if_neg (by omega)]) (by rw [wordX, if_pos h0, h2]) e (by rw [wordT, if_neg (by omega)]; rfl)
theorem word_none {s : ByteArray} (h0 : isDig (s.data.toList.headD 0) = false) (h1 : isLet (s.data.toList.headD 0) = false) : wordV s = .returned (.tuple #[.agg #[.int .i64 0, .string ⟨#[]⟩, .int .u64 0, .int .i64 0, .int .i64 0], .int .i64 15]) := by
  have e : wordE s.data.toList = 15 := by rw [wordE, h0, h1]; rfl
  exact word_of (k := 0) (x := 0) (by rw [wordK, if_neg (by omega)]) (by rw [wordX, h0]; rfl) e (by rw [wordT, if_neg (by omega)]; rfl)
theorem word_own {s : ByteArray} (h0 : isDig (s.data.toList.headD 0) = false) (h1 : isLet (s.data.toList.headD 0) = true) (h2 : ownB s.data.toList = true) : wordV s = .returned (.tuple #[.agg #[.int .i64 2, .string s, .int .u64 0, .int .i64 0, .int .i64 0], .int .i64 0]) := by
  have e : wordE s.data.toList = 0 := by rw [wordE, h0, h1, h2]; rfl
  exact word_of (k := 2) (x := 0) (by rw [wordK, if_pos e, h0, h2]; rfl) (by rw [wordX, h0]; rfl) e (by rw [wordT, if_pos e, str_eta])
theorem word_long {s : ByteArray} (h0 : isDig (s.data.toList.headD 0) = false) (h1 : isLet (s.data.toList.headD 0) = true) (h2 : ownB s.data.toList = false) (h3 : 16 < s.data.toList.length) : wordV s = .returned (.tuple #[.agg #[.int .i64 0, .string ⟨#[]⟩, .int .u64 0, .int .i64 0, .int .i64 0], .int .i64 8]) := by
  have e : wordE s.data.toList = 8 := by rw [wordE, h0, h1, h2, if_pos h3]; rfl
  exact word_of (k := 0) (x := 0) (by rw [wordK, if_neg (by omega)]) (by rw [wordX, h0]; rfl) e (by rw [wordT, if_neg (by omega)]; rfl)
theorem word_name {s : ByteArray} (h0 : isDig (s.data.toList.headD 0) = false) (h1 : isLet (s.data.toList.headD 0) = true) (h2 : ownB s.data.toList = false) (h3 : ¬ 16 < s.data.toList.length) : wordV s = .returned (.tuple #[.agg #[.int .i64 1, .string s, .int .u64 0, .int .i64 0, .int .i64 0], .int .i64 0]) := by
  have e : wordE s.data.toList = 0 := by rw [wordE, h0, h1, h2, if_neg h3]; rfl
  exact word_of (k := 1) (x := 0) (by rw [wordK, if_pos e, h0, h2]; rfl) (by rw [wordX, h0]; rfl) e (by rw [wordT, if_pos e, str_eta])

set_option maxRecDepth 100000 in
set_option maxHeartbeats 3200000 in
theorem wordToken_any (s : ByteArray) (w : World) (hpos : 0 < s.size) (hs : s.size ≤ 281474976710656) (hG : Glob w) :
    Calls Tryz.prog 53 #[.string s] w fun e w' => e = wordV s ∧ Below w.heap.size w w' := by
  have hlen : 0 < s.data.toList.length := by rw [← size_len]; exact hpos
  have hhd : s.data.toList.headD 0 = s[0]'hpos := head_get _ hlen
  have HH := Lib.hid hhd
  have HL := Lib.hid (fun w => let_any (s[0]'hpos) w)
  have HD := Lib.hid (fun w => dig_any (s[0]'hpos) w)
  have HO := Lib.hid (fun w => own_any s w)
  have HG := Lib.hid hG
  have HNu := Lib.hid (fun w h => number_any s w hs h)
  clear hlen hhd hG
  cases hd : isDig (s[0]'hpos)
  · rw [hd] at HD
    cases hl : isLet (s[0]'hpos)
    · rw [hl] at HL
      have HV := Lib.hid (word_none (by rw [HH.out]; exact hd) (by rw [HH.out]; exact hl))
      clear hd hl
      go_enter Tryz.func53, Tryz.ntmps53
      go_wp2_with fail
      refine (HD.out _).mono ?_
      rintro e w' ⟨rfl, rfl⟩
      go_wp2_with fail
      refine (HL.out _).mono ?_
      rintro e w' ⟨rfl, rfl⟩
      go_wp2_with fail
      refine bodyPost_ret (v := .tuple #[.agg #[.int .i64 0, .string ⟨#[]⟩, .int .u64 0, .int .i64 0, .int .i64 0], .int .i64 15]) (by simp [results, Tryz.results53, go_sem]) rfl ⟨HV.out.symm, ?_⟩
      exact (Below.refl _ _).alloc (Nat.le_refl _) _
    · rw [hl] at HL
      cases ho : ownB s.data.toList
      · rw [ho] at HO
        by_cases h16 : 16 < s.size
        · have HV := Lib.hid (word_long (by rw [HH.out]; exact hd) (by rw [HH.out]; exact hl) ho (by rw [← size_len]; exact h16))
          clear hd hl ho
          go_enter Tryz.func53, Tryz.ntmps53
          go_wp2_with fail
          refine (HD.out _).mono ?_
          rintro e w' ⟨rfl, rfl⟩
          go_wp2_with fail
          refine (HL.out _).mono ?_
          rintro e w' ⟨rfl, rfl⟩
          go_wp2_with fail
          refine (HO.out _).mono ?_
          rintro e w' ⟨rfl, rfl⟩
          go_wp2_with fail
          refine bodyPost_ret (v := .tuple #[.agg #[.int .i64 0, .string ⟨#[]⟩, .int .u64 0, .int .i64 0, .int .i64 0], .int .i64 8]) (by simp [results, Tryz.results53, go_sem]) rfl ⟨HV.out.symm, ?_⟩
          exact (Below.refl _ _).alloc (Nat.le_refl _) _
        · have HV := Lib.hid (word_name (by rw [HH.out]; exact hd) (by rw [HH.out]; exact hl) ho (by rw [← size_len]; exact h16))
          clear hd hl ho
          go_enter Tryz.func53, Tryz.ntmps53
          go_wp2_with fail
          refine (HD.out _).mono ?_
          rintro e w' ⟨rfl, rfl⟩
          go_wp2_with fail
          refine (HL.out _).mono ?_
          rintro e w' ⟨rfl, rfl⟩
          go_wp2_with fail
          refine (HO.out _).mono ?_
          rintro e w' ⟨rfl, rfl⟩
          go_wp2_with fail
          refine bodyPost_ret (v := .tuple #[.agg #[.int .i64 1, .string s, .int .u64 0, .int .i64 0, .int .i64 0], .int .i64 0]) (by simp [results, Tryz.results53, go_sem]) rfl ⟨HV.out.symm, ?_⟩
          exact (Below.refl _ _).alloc (Nat.le_refl _) _
      · rw [ho] at HO
        have HV := Lib.hid (word_own (by rw [HH.out]; exact hd) (by rw [HH.out]; exact hl) ho)
        clear hd hl ho
        go_enter Tryz.func53, Tryz.ntmps53
        go_wp2_with fail
        refine (HD.out _).mono ?_
        rintro e w' ⟨rfl, rfl⟩
        go_wp2_with fail
        refine (HL.out _).mono ?_
        rintro e w' ⟨rfl, rfl⟩
        go_wp2_with fail
        refine (HO.out _).mono ?_
        rintro e w' ⟨rfl, rfl⟩
        go_wp2_with fail
        refine bodyPost_ret (v := .tuple #[.agg #[.int .i64 2, .string s, .int .u64 0, .int .i64 0, .int .i64 0], .int .i64 0]) (by simp [results, Tryz.results53, go_sem]) rfl ⟨HV.out.symm, ?_⟩
        exact (Below.refl _ _).alloc (Nat.le_refl _) _
  · rw [hd] at HD
    cases hn : numB s.data.toList
    · have HV := Lib.hid (word_bad (by rw [HH.out]; exact hd) (by simp [numE, hn]) (by simp [numV, hn]))
      have he : (numE s.data.toList : Int) = 15 := numE_no hn
      have hv : (numV s.data.toList : Int) = 0 := numV_no hn
      rw [he, hv] at HNu
      clear hd hn he hv
      go_enter Tryz.func53, Tryz.ntmps53
      go_wp2_with fail
      refine (HD.out _).mono ?_
      rintro e w' ⟨rfl, rfl⟩
      go_wp2_with fail
      refine (HNu.out _ (HG.out.later (by have := HG.out.2.2.2; omega) ((Below.refl _ _).alloc (Nat.le_refl _) _))).mono ?_
      rintro e w1 ⟨rfl, hB1⟩
      have d0 : w1.cell? ⟨w.heap.size, 0, none⟩ = some (.int .i64 0) := (hB1.cell (p := ⟨w.heap.size, 0, none⟩) (by simp)).trans (by simp [go_sem])
      have d1 : w1.cell? ⟨w.heap.size, 1, none⟩ = some (.string ⟨#[]⟩) := (hB1.cell (p := ⟨w.heap.size, 1, none⟩) (by simp)).trans (by simp [go_sem])
      have d2 : w1.cell? ⟨w.heap.size, 2, none⟩ = some (.int .u64 0) := (hB1.cell (p := ⟨w.heap.size, 2, none⟩) (by simp)).trans (by simp [go_sem])
      have d3 : w1.cell? ⟨w.heap.size, 3, none⟩ = some (.int .i64 0) := (hB1.cell (p := ⟨w.heap.size, 3, none⟩) (by simp)).trans (by simp [go_sem])
      have d4 : w1.cell? ⟨w.heap.size, 4, none⟩ = some (.int .i64 0) := (hB1.cell (p := ⟨w.heap.size, 4, none⟩) (by simp)).trans (by simp [go_sem])
      have z0 : w1.frozen? ⟨w.heap.size, 0, none⟩ = false := (hB1.frozen (p := ⟨w.heap.size, 0, none⟩) (by simp)).trans (by simp [go_sem])
      have z1 : w1.frozen? ⟨w.heap.size, 1, none⟩ = false := (hB1.frozen (p := ⟨w.heap.size, 1, none⟩) (by simp)).trans (by simp [go_sem])
      have z2 : w1.frozen? ⟨w.heap.size, 2, none⟩ = false := (hB1.frozen (p := ⟨w.heap.size, 2, none⟩) (by simp)).trans (by simp [go_sem])
      have z3 : w1.frozen? ⟨w.heap.size, 3, none⟩ = false := (hB1.frozen (p := ⟨w.heap.size, 3, none⟩) (by simp)).trans (by simp [go_sem])
      have z4 : w1.frozen? ⟨w.heap.size, 4, none⟩ = false := (hB1.frozen (p := ⟨w.heap.size, 4, none⟩) (by simp)).trans (by simp [go_sem])
      have HB := Lib.hid (((Below.refl _ w).alloc (Nat.le_refl _) _).trans (hB1.mono (by simp)))
      clear hB1
      go_wp2_with fail
      refine bodyPost_ret (v := .tuple #[.agg #[.int .i64 0, .string ⟨#[]⟩, .int .u64 0, .int .i64 0, .int .i64 0], .int .i64 15]) (by simp [results, Tryz.results53, go_sem, d0, d1, d2, d3, d4]) rfl ⟨HV.out.symm, ?_⟩
      exact ((((HB.out.setCell (Nat.le_refl _) _).setCell (Nat.le_refl _) _).setCell (Nat.le_refl _) _).setCell (Nat.le_refl _) _).setCell (Nat.le_refl _) _
    · have HV := Lib.hid (word_num (s := s) (by rw [HH.out]; exact hd) (by simp [numE, hn]))
      have he : (numE s.data.toList : Int) = 0 := numE_yes hn
      rw [he] at HNu
      clear hd hn he
      go_enter Tryz.func53, Tryz.ntmps53
      go_wp2_with fail
      refine (HD.out _).mono ?_
      rintro e w' ⟨rfl, rfl⟩
      go_wp2_with fail
      refine (HNu.out _ (HG.out.later (by have := HG.out.2.2.2; omega) ((Below.refl _ _).alloc (Nat.le_refl _) _))).mono ?_
      rintro e w1 ⟨rfl, hB1⟩
      have d0 : w1.cell? ⟨w.heap.size, 0, none⟩ = some (.int .i64 0) := (hB1.cell (p := ⟨w.heap.size, 0, none⟩) (by simp)).trans (by simp [go_sem])
      have d1 : w1.cell? ⟨w.heap.size, 1, none⟩ = some (.string ⟨#[]⟩) := (hB1.cell (p := ⟨w.heap.size, 1, none⟩) (by simp)).trans (by simp [go_sem])
      have d2 : w1.cell? ⟨w.heap.size, 2, none⟩ = some (.int .u64 0) := (hB1.cell (p := ⟨w.heap.size, 2, none⟩) (by simp)).trans (by simp [go_sem])
      have d3 : w1.cell? ⟨w.heap.size, 3, none⟩ = some (.int .i64 0) := (hB1.cell (p := ⟨w.heap.size, 3, none⟩) (by simp)).trans (by simp [go_sem])
      have d4 : w1.cell? ⟨w.heap.size, 4, none⟩ = some (.int .i64 0) := (hB1.cell (p := ⟨w.heap.size, 4, none⟩) (by simp)).trans (by simp [go_sem])
      have z0 : w1.frozen? ⟨w.heap.size, 0, none⟩ = false := (hB1.frozen (p := ⟨w.heap.size, 0, none⟩) (by simp)).trans (by simp [go_sem])
      have z1 : w1.frozen? ⟨w.heap.size, 1, none⟩ = false := (hB1.frozen (p := ⟨w.heap.size, 1, none⟩) (by simp)).trans (by simp [go_sem])
      have z2 : w1.frozen? ⟨w.heap.size, 2, none⟩ = false := (hB1.frozen (p := ⟨w.heap.size, 2, none⟩) (by simp)).trans (by simp [go_sem])
      have z3 : w1.frozen? ⟨w.heap.size, 3, none⟩ = false := (hB1.frozen (p := ⟨w.heap.size, 3, none⟩) (by simp)).trans (by simp [go_sem])
      have z4 : w1.frozen? ⟨w.heap.size, 4, none⟩ = false := (hB1.frozen (p := ⟨w.heap.size, 4, none⟩) (by simp)).trans (by simp [go_sem])
      have HB := Lib.hid (((Below.refl _ w).alloc (Nat.le_refl _) _).trans (hB1.mono (by simp)))
      clear hB1
      go_wp2_with fail
      refine bodyPost_ret (v := .tuple #[.agg #[.int .i64 3, .string s, .int .u64 (numV s.data.toList), .int .i64 0, .int .i64 0], .int .i64 0]) (by simp [results, Tryz.results53, go_sem, d0, d1, d2, d3, d4]) rfl ⟨HV.out.symm, ?_⟩
      exact ((((HB.out.setCell (Nat.le_refl _) _).setCell (Nat.le_refl _) _).setCell (Nat.le_refl _) _).setCell (Nat.le_refl _) _).setCell (Nat.le_refl _) _
end Go.Proofs.YtgffiggnmklcoaaGreatDoor
