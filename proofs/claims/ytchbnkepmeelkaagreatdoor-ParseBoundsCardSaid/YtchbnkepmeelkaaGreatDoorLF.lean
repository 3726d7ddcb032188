/- LxG3, LxG4, LxH1 as one. -/
import Derived.Test.YtchbnkepmeelkaaGreatDoorLD
import Derived.Test.YtchbnkepmeelkaaGreatDoorLE
import Derived.Outline
/- Line and column of a place; what an error of a scan says. -/
namespace Go.Proofs.YtchbnkepmeelkaaGreatDoor.Lx
open Go.RowKit

theorem lc_count (p : List UInt8) : (lc p).1 = Lib.countByte p 10 + 1 := by
  suffices h : ∀ (p : List UInt8) (a b : Nat), (p.foldl lcF (a, b)).1 = p.count 10 + a from h p 1 1
  intro p
  induction p with
  | nil => intro a b; simp
  | cons c r ih =>
    intro a b
    rw [List.foldl_cons]
    by_cases h : c.toNat = 10
    · have hc : c = 10 := UInt8.toNat_inj.1 (by rw [h]; rfl)
      rw [lcF, if_pos h, ih, hc, List.count_cons_self]; omega
    · have hc : c ≠ 10 := fun e => h (by rw [e]; rfl)
      rw [lcF, if_neg h, ih, List.count_cons_of_ne hc]
theorem lc_last (s : ByteArray) : ∀ k, k ≤ s.size → ((lc (s.data.toList.take k)).2 : Int) = (k : Int) - Lib.lastIdx s 10 k := by
  intro k
  induction k with
  | zero => intro _; rfl
  | succ k ih =>
    intro hk
    have hkl : k < s.data.toList.length := by rw [← size_len]; omega
    rw [lc_take_succ hkl, Lib.lastIdx]
    have e : s.data[k]! = s.data.toList[k] := by
      rw [getElem!_pos s.data k (by simpa using hkl)]; simp
    rw [e]
    by_cases h : s.data.toList[k].toNat = 10
    · rw [lcF, if_pos h, if_pos (by rw [h]; rfl)]; push_cast; omega
    · rw [lcF, if_neg h, if_neg (by omega)]
      have := ih (by omega)
      push_cast; omega

theorem ret_two {a b c d : Int} (h1 : a = c) (h2 : b = d) : Ending.returned (.tuple #[.int .i64 a, .int .i64 b]) = Ending.returned (.tuple #[.int .i64 c, .int .i64 d]) := by rw [h1, h2]
/-- the place that is nearest -/
def clampN (at' : Int) (n : Nat) : Nat := min at'.toNat n
theorem line_any (s : ByteArray) (at' : Int) (w : World) (hs : s.size ≤ 281474976710656) (_h1 : -9223372036854775808 ≤ at') (_h2 : at' ≤ 9223372036854775807) :
    Calls Tryz.prog 147 #[.string s, .int .i64 at'] w fun e w' => e = .returned (.tuple #[.int .i64 (lc (s.data.toList.take (clampN at' s.size))).1, .int .i64 (lc (s.data.toList.take (clampN at' s.size))).2]) ∧ Below w.heap.size w w' := by
  obtain ⟨k, hk⟩ : ∃ k, clampN at' s.size = k := ⟨_, rfl⟩
  have hks : k ≤ s.size := by rw [← hk]; exact Nat.min_le_right _ _
  have hm : min (max at' 0) (s.size : Int) = (k : Int) := by rw [← hk, clampN]; omega
  have hd : (s.extract 0 k).data.toList = s.data.toList.take k := extract_take s k
  have hz : (s.extract 0 k).size = k := by rw [size_len, hd, List.length_take, ← size_len]; omega
  have HC := Lib.hid (fun w => (Tryz.strings_Count_one (s.extract 0 k) 10 w).mono fun e w' h => (And.intro h.1 h.2.symm : _ ∧ w = w'))
  have HL := Lib.hid (fun w => (Tryz.strings_LastIndexByte (s.extract 0 k) 10 (by omega) w).mono fun e w' h => (And.intro h.1 h.2.symm : _ ∧ w = w'))
  have HE := Lib.hid (show (Lib.countByte (s.extract 0 k).data.toList 10 : Int) + 1 = ((lc (s.data.toList.take k)).1 : Int) by rw [lc_count, hd]; rfl)
  have hb := Lib.lastIndexByte_spec (s.extract 0 k) 10
  have HF := Lib.hid (show (k : Int) - Lib.lastIndexByte (s.extract 0 k) 10 = ((lc (s.data.toList.take k)).2 : Int) by
    have := lc_last (s.extract 0 k) k (by omega)
    rw [hd, List.take_take, Nat.min_self] at this
    rw [this, Lib.lastIndexByte, hz])
  rw [hk]
  have hi : -1 ≤ Lib.lastIndexByte (s.extract 0 k) 10 ∧ Lib.lastIndexByte (s.extract 0 k) 10 ≤ k := by
    rcases hb with ⟨h, _⟩ | ⟨i, h, h', _⟩ <;> omega
  have hcn : Lib.countByte (s.extract 0 k).data.toList 10 ≤ k := by
    have h0 := List.count_le_length (a := (10 : UInt8)) (l := (s.extract 0 k).data.toList)
    rw [← size_len, hz] at h0; exact h0
  clear hb hd hk
  generalize Lib.lastIndexByte (s.extract 0 k) 10 = j at HL HF hi
  generalize Lib.countByte (s.extract 0 k).data.toList 10 = n at HC HE hcn
  obtain ⟨hi1, hi2⟩ := hi
  go_enter Tryz.func147, Tryz.ntmps147
  go_wp2_with fail
  refine (HC.out _).mono ?_
  rintro e w' ⟨rfl, rfl⟩
  go_wp2_with fail
  refine (HL.out _).mono ?_
  rintro e w' ⟨rfl, rfl⟩
  go_wp2_with fail
  go_ret2
  exact ⟨ret_two HE.out HF.out, Below.refl _ _⟩
end Go.Proofs.YtchbnkepmeelkaaGreatDoor.Lx
/- What an error of a scan says of the text. -/
namespace Go.Proofs.YtchbnkepmeelkaaGreatDoor.Lx
open Go.RowKit

set_option maxRecDepth 100000 in
set_option maxHeartbeats 3200000 in
theorem faultOf_long (s : ByteArray) (a : Nat) (w : World) :
    Calls Tryz.prog 215 #[.string s, .iface 282 (.agg #[.int .i64 a, .int .i64 3])] w fun e w' => e = .returned (.agg #[.int .i64 3, .int .i64 0, .int .i64 0]) ∧ Below w.heap.size w w' := by
  have HI := Lib.hid (fun w => is_any a 3 w)
  rw [show ((3 : Int) == 3) = true from rfl] at HI
  go_enter Tryz.func215, Tryz.ntmps215
  go_wp2_with fail
  refine (HI.out _).mono ?_
  rintro e w1 ⟨rfl, hB1⟩
  have d0 : w1.cell? ⟨w.heap.size, 0, none⟩ = some (.int .i64 0) := (hB1.cell (p := ⟨w.heap.size, 0, none⟩) (by simp)).trans (by simp [go_sem])
  have d1 : w1.cell? ⟨w.heap.size, 1, none⟩ = some (.int .i64 0) := (hB1.cell (p := ⟨w.heap.size, 1, none⟩) (by simp)).trans (by simp [go_sem])
  have d2 : w1.cell? ⟨w.heap.size, 2, none⟩ = some (.int .i64 0) := (hB1.cell (p := ⟨w.heap.size, 2, none⟩) (by simp)).trans (by simp [go_sem])
  have z0 : w1.frozen? ⟨w.heap.size, 0, none⟩ = false := (hB1.frozen (p := ⟨w.heap.size, 0, none⟩) (by simp)).trans (by simp [go_sem])
  have z1 : w1.frozen? ⟨w.heap.size, 1, none⟩ = false := (hB1.frozen (p := ⟨w.heap.size, 1, none⟩) (by simp)).trans (by simp [go_sem])
  have z2 : w1.frozen? ⟨w.heap.size, 2, none⟩ = false := (hB1.frozen (p := ⟨w.heap.size, 2, none⟩) (by simp)).trans (by simp [go_sem])
  have HB := Lib.hid (((Below.refl _ w).alloc (Nat.le_refl _) _).trans (hB1.mono (by simp)))
  clear hB1
  go_wp2_with fail
  refine bodyPost_ret (v := .agg #[.int .i64 3, .int .i64 0, .int .i64 0]) (by simp [results, Tryz.results215, go_sem, d0, d1, d2]) rfl ⟨rfl, ?_⟩
  exact ((HB.out.setCell (Nat.le_refl _) _).setCell (Nat.le_refl _) _).setCell (Nat.le_refl _) _

set_option maxRecDepth 100000 in
set_option maxHeartbeats 3200000 in
theorem faultOf_any (s : ByteArray) (a e : Nat) (w : World) (hs : s.size ≤ 65536) (ha : a ≤ s.size) (he : e ≠ 3) (hG : Glob w) :
    Calls Tryz.prog 215 #[.string s, .iface 282 (.agg #[.int .i64 a, .int .i64 e])] w fun en w' => en = .returned (.agg #[.int .i64 e, .int .i64 (lc (s.data.toList.take a)).1, .int .i64 (lc (s.data.toList.take a)).2]) ∧ Below w.heap.size w w' := by
  have HI := Lib.hid (fun w => is_any a e w)
  rw [show ((e : Int) == 3) = false by simp; omega] at HI
  have HLn := Lib.hid (fun w => line_any s a w (by omega) (by omega) (by omega))
  have hcl : clampN a s.size = a := by rw [clampN]; omega
  rw [hcl] at HLn
  have HG := Lib.hid hG
  clear hG hcl
  generalize (lc (s.data.toList.take a)).1 = L at HLn ⊢
  generalize (lc (s.data.toList.take a)).2 = C at HLn ⊢
  have h3 := HG.out.2.2.2
  go_enter Tryz.func215, Tryz.ntmps215
  go_wp2_with fail
  refine (HI.out _).mono ?_
  rintro en w1 ⟨rfl, hB1⟩
  have hz1 := hB1.size
  simp at hz1
  have D1 := Lib.hid (show ((w1.cell? ⟨w.heap.size, 0, none⟩ = some (.int .i64 0) ∧ w1.cell? ⟨w.heap.size, 1, none⟩ = some (.int .i64 0) ∧ w1.cell? ⟨w.heap.size, 2, none⟩ = some (.int .i64 0)) ∧
    (w1.frozen? ⟨w.heap.size, 0, none⟩ = false ∧ w1.frozen? ⟨w.heap.size, 1, none⟩ = false ∧ w1.frozen? ⟨w.heap.size, 2, none⟩ = false)) from
    ⟨⟨(hB1.cell (p := ⟨w.heap.size, 0, none⟩) (by simp)).trans (by simp [go_sem]), (hB1.cell (p := ⟨w.heap.size, 1, none⟩) (by simp)).trans (by simp [go_sem]), (hB1.cell (p := ⟨w.heap.size, 2, none⟩) (by simp)).trans (by simp [go_sem])⟩,
     ⟨(hB1.frozen (p := ⟨w.heap.size, 0, none⟩) (by simp)).trans (by simp [go_sem]), (hB1.frozen (p := ⟨w.heap.size, 1, none⟩) (by simp)).trans (by simp [go_sem]), (hB1.frozen (p := ⟨w.heap.size, 2, none⟩) (by simp)).trans (by simp [go_sem])⟩⟩)
  have HB := Lib.hid (((Below.refl _ w).alloc (Nat.le_refl _) _).trans (hB1.mono (by simp)))
  clear hB1
  go_wp2_with fail
  have HBa := Lib.hid ((Below.refl _ w1).alloc (Nat.le_refl _) (.cells #[.int .i64 0, .int .i64 0] 282))
  refine (as_hit a e w1.heap.size (.int .i64 0) (.int .i64 0) _ ((HG.out.later h3 HB.out).later (n := w1.heap.size) (by omega) HBa.out) (by simp [go_sem]) (by simp [go_sem]) (by simp [go_sem]) (by simp [go_sem])).mono ?_
  rintro en w2 ⟨rfl, hw2⟩
  have hB2 : Below w1.heap.size w1 w2 := by
    rw [hw2]
    exact (((((HBa.out.alloc (by simp) _).alloc (by simp; omega) _).alloc (by simp; omega) _).alloc (by simp; omega) _).setCell (p := ⟨w1.heap.size, 0, none⟩) (Nat.le_refl _) _).setCell (p := ⟨w1.heap.size, 1, none⟩) (Nat.le_refl _) _
  have y0 : w2.cell? ⟨w1.heap.size, 0, none⟩ = some (.int .i64 a) ∧ w2.cell? ⟨w1.heap.size, 1, none⟩ = some (.int .i64 e) := by
    rw [hw2]; constructor <;> simp [go_sem]
  have HB3 := Lib.hid (HB.out.trans (hB2.mono (by omega)))
  have c0 := y0.1
  have HY := Lib.hid y0.2
  have HY2 := Lib.hid (World.block_lt_of_cell? w2 _ y0.2)
  have D2 := Lib.hid (show ((w2.cell? ⟨w.heap.size, 0, none⟩ = some (.int .i64 0) ∧ w2.cell? ⟨w.heap.size, 1, none⟩ = some (.int .i64 0) ∧ w2.cell? ⟨w.heap.size, 2, none⟩ = some (.int .i64 0)) ∧
    (w2.frozen? ⟨w.heap.size, 0, none⟩ = false ∧ w2.frozen? ⟨w.heap.size, 1, none⟩ = false ∧ w2.frozen? ⟨w.heap.size, 2, none⟩ = false)) from
    ⟨⟨(hB2.cell (p := ⟨w.heap.size, 0, none⟩) (by show w.heap.size < w1.heap.size; omega)).trans D1.out.1.1, (hB2.cell (p := ⟨w.heap.size, 1, none⟩) (by show w.heap.size < w1.heap.size; omega)).trans D1.out.1.2.1, (hB2.cell (p := ⟨w.heap.size, 2, none⟩) (by show w.heap.size < w1.heap.size; omega)).trans D1.out.1.2.2⟩,
     ⟨(hB2.frozen (p := ⟨w.heap.size, 0, none⟩) (by show w.heap.size < w1.heap.size; omega)).trans D1.out.2.1, (hB2.frozen (p := ⟨w.heap.size, 1, none⟩) (by show w.heap.size < w1.heap.size; omega)).trans D1.out.2.2.1, (hB2.frozen (p := ⟨w.heap.size, 2, none⟩) (by show w.heap.size < w1.heap.size; omega)).trans D1.out.2.2.2⟩⟩)
  have hz2 := hB2.size
  clear hw2 hB2 y0
  go_wp2_with fail
  refine (HLn.out _).mono ?_
  rintro en w3 ⟨rfl, hB3'⟩
  have k1 := (hB3'.cell (p := ⟨w1.heap.size, 1, none⟩) HY2.out).trans HY.out
  have d0 := (hB3'.cell (p := ⟨w.heap.size, 0, none⟩) (by show w.heap.size < w2.heap.size; omega)).trans D2.out.1.1
  have d1 := (hB3'.cell (p := ⟨w.heap.size, 1, none⟩) (by show w.heap.size < w2.heap.size; omega)).trans D2.out.1.2.1
  have d2 := (hB3'.cell (p := ⟨w.heap.size, 2, none⟩) (by show w.heap.size < w2.heap.size; omega)).trans D2.out.1.2.2
  have z0 := (hB3'.frozen (p := ⟨w.heap.size, 0, none⟩) (by show w.heap.size < w2.heap.size; omega)).trans D2.out.2.1
  have z1 := (hB3'.frozen (p := ⟨w.heap.size, 1, none⟩) (by show w.heap.size < w2.heap.size; omega)).trans D2.out.2.2.1
  have z2 := (hB3'.frozen (p := ⟨w.heap.size, 2, none⟩) (by show w.heap.size < w2.heap.size; omega)).trans D2.out.2.2.2
  have HB4 := Lib.hid (HB3.out.trans (hB3'.mono HB3.out.size))
  clear hB3' c0
  go_wp2_with fail
  refine bodyPost_ret (v := .agg #[.int .i64 e, .int .i64 L, .int .i64 C]) (by simp [results, Tryz.results215, go_sem, d0, d1, d2]) rfl ⟨rfl, ?_⟩
  exact ((HB4.out.setCell (Nat.le_refl _) _).setCell (Nat.le_refl _) _).setCell (Nat.le_refl _) _
end Go.Proofs.YtchbnkepmeelkaaGreatDoor.Lx
/- All of a text's tokens. -/
namespace Go.Proofs.YtchbnkepmeelkaaGreatDoor.Lx
open Go.RowKit

theorem oneE_cases (r : List UInt8) : oneE r = 0 ∨ oneE r = 8 ∨ oneE r = 15 := by
  have hw : ∀ l, wordE l = 0 ∨ wordE l = 8 ∨ wordE l = 15 := fun l => by
    unfold wordE numE
    split
    · split <;> omega
    · split
      · split
        · omega
        · split <;> omega
      · omega
  unfold oneE
  split
  · exact hw _
  · split <;> omega
theorem lexF_err (l : List UInt8) (f a : Nat) (x e : Nat) (h : (lexF l f a).2 = some (x, e)) : x ≤ l.length ∧ (e = 8 ∨ e = 15) := by
  induction f generalizing a with
  | zero => cases h
  | succ f ih =>
    rw [lexF] at h
    split at h
    · cases h
    · split at h
      · exact ih _ h
      · split at h
        · exact ih _ h
        · split at h
          · have hc := oneE_cases (l.drop a)
            cases h
            exact ⟨by omega, by omega⟩
          · exact ih _ h
/-- All's tokens; its fault -/
def allT (l : List UInt8) : List Tk := if 65536 < l.length then [] else match (lexAll l).2 with
  | none => (lexAll l).1.map (·.2)
  | some _ => []
def allF (l : List UInt8) : Nat × Nat × Nat := if 65536 < l.length then (3, 0, 0) else match (lexAll l).2 with
  | none => (0, 0, 0)
  | some (a, e) => (e, (lc (l.take a)).1, (lc (l.take a)).2)
theorem all_none {l : List UInt8} (h : ¬ 65536 < l.length) (he : (lexAll l).2 = none) : allT l = (lexAll l).1.map (·.2) ∧ allF l = (0, 0, 0) := by
  rw [allT, allF, if_neg h, if_neg h, he]; exact ⟨rfl, rfl⟩
theorem all_some {l : List UInt8} {a e : Nat} (h : ¬ 65536 < l.length) (he : (lexAll l).2 = some (a, e)) : allT l = [] ∧ allF l = (e, (lc (l.take a)).1, (lc (l.take a)).2) := by
  rw [allT, allF, if_neg h, if_neg h, he]; exact ⟨rfl, rfl⟩
theorem all_long {l : List UInt8} (h : 65536 < l.length) : allT l = [] ∧ allF l = (3, 0, 0) := by
  rw [allT, allF, if_pos h, if_pos h]; exact ⟨rfl, rfl⟩
/-- a row of tokens that the call has made -/
def TokRow (B : Nat) (w : World) (ts : List Tk) (v : Value) : Prop := w.ownsRow B 156 5 v ts.length (toksC ts)
/-- what All hands back -/
def AllIs (l : List UInt8) (B : Nat) (e : Ending) (w' : World) : Prop := ∃ v, e = .returned (.tuple #[v, .agg #[.int .i64 (allF l).1, .int .i64 (allF l).2.1, .int .i64 (allF l).2.2]]) ∧ TokRow B w' (allT l) v
theorem allIs_no {l : List UInt8} {B : Nat} {w' : World} {e a b : Int} (ht : allT l = []) (h : ((allF l).1 : Int) = e ∧ ((allF l).2.1 : Int) = a ∧ ((allF l).2.2 : Int) = b) : AllIs l B (.returned (.tuple #[.slice none 0 0, .agg #[.int .i64 e, .int .i64 a, .int .i64 b]])) w' :=
  ⟨_, by rw [h.1, h.2.1, h.2.2], by rw [ht]; exact ⟨rfl, .inl ⟨rfl, rfl⟩⟩⟩
theorem TokRow.later {B : Nat} {w w' : World} {ts : List Tk} {v : Value} (h : TokRow B w ts v) (hB : Below w.heap.size w w') : TokRow B w' ts v := by
  obtain ⟨h2, h3⟩ := h
  refine ⟨h2, ?_⟩
  rcases h3 with h3 | ⟨g, cap, cur, q1, q2, q3, q4⟩
  · exact .inl h3
  · exact .inr ⟨g, cap, cur, q1, q2, (hB.block g (lt_of_block q3)).trans q3, q4⟩
theorem TokRow.base {B B' : Nat} {w : World} {ts : List Tk} {v : Value} (h : TokRow B w ts v) (hB : B' ≤ B) : TokRow B' w ts v := by
  obtain ⟨h2, h3⟩ := h
  refine ⟨h2, ?_⟩
  rcases h3 with h3 | ⟨g, cap, cur, q1, q2, q3, q4⟩
  · exact .inl h3
  · exact .inr ⟨g, cap, cur, q1, Nat.le_trans hB q2, q3, q4⟩

set_option maxRecDepth 100000 in
set_option maxHeartbeats 3200000 in
theorem all_any (s : ByteArray) (w : World) (hs : s.size ≤ 281474976710656) (hG : Glob w) :
    Calls Tryz.prog 146 #[.string s] w fun e w' => AllIs s.data.toList w.heap.size e w' ∧ Below w.heap.size w w' := by
  have hsl := size_len s
  by_cases hlong : 65536 < s.size
  · obtain ⟨hT, hF⟩ := all_long (l := s.data.toList) (by rw [← hsl]; exact hlong)
    have HA := Lib.hid (fun B w' => allIs_no (l := s.data.toList) (B := B) (w' := w') (e := 3) (a := 0) (b := 0) hT (by rw [hF]; exact ⟨rfl, rfl, rfl⟩))
    have HS := Lib.hid (fun fv w => scan_long s fv w hlong hs)
    have HFt := Lib.hid (fun w => faultOf_long s 0 w)
    clear hT hF hsl
    go_enter Tryz.func146, Tryz.ntmps146
    go_wp2_with fail
    refine (HS.out _ _).mono ?_
    rintro e w1 ⟨rfl, hB1⟩
    have HB1 := Lib.hid (((((Below.refl _ w).alloc (Nat.le_refl _) _).alloc (by simp) _)).trans (hB1.mono (by simp; omega)))
    have hF1 : w1.heap[w.heap.size]? = some (.cells #[.int .i64 0, .int .i64 0, .int .i64 0] 29 (0, 0)) := by
      rw [hB1.block _ (by simp; omega), Below.heap_alloc _ _ _ (by simp)]; exact heap_alloc_new w _
    have HF1 := Lib.hid hF1
    clear hB1 hF1
    go_wp2_with fail
    refine (HFt.out _).mono ?_
    rintro e w2 ⟨rfl, hB2⟩
    have hF2 := (hB2.block _ (lt_of_block HF1.out)).trans HF1.out
    have HB2 := Lib.hid (HB1.out.trans (hB2.mono HB1.out.size))
    clear hB2
    have d0 : w2.cell? ⟨w.heap.size, 0, none⟩ = some (.int .i64 0) := by simp [World.cell?, hF2]
    have d1 : w2.cell? ⟨w.heap.size, 1, none⟩ = some (.int .i64 0) := by simp [World.cell?, hF2]
    have d2 : w2.cell? ⟨w.heap.size, 2, none⟩ = some (.int .i64 0) := by simp [World.cell?, hF2]
    have z0 : w2.frozen? ⟨w.heap.size, 0, none⟩ = false := by simp [World.frozen?, hF2]
    have z1 : w2.frozen? ⟨w.heap.size, 1, none⟩ = false := by simp [World.frozen?, hF2]
    have z2 : w2.frozen? ⟨w.heap.size, 2, none⟩ = false := by simp [World.frozen?, hF2]
    clear hF2
    go_wp2_with fail
    refine bodyPost_ret (v := .tuple #[.slice none 0 0, .agg #[.int .i64 3, .int .i64 0, .int .i64 0]]) (by simp [results, Tryz.results146, go_sem, d0, d1, d2]) rfl ⟨HA.out _ _, ?_⟩
    exact ((HB2.out.setCell (Nat.le_refl _) _).setCell (Nat.le_refl _) _).setCell (Nat.le_refl _) _
  · have hs6 : s.size ≤ 65536 := by omega
    have HGl := Lib.hid hG
    have h3 := hG.2.2.2
    clear hG
    rcases hx : (lexAll s.data.toList).2 with _ | ⟨a, er⟩
    · obtain ⟨hT, hF⟩ := all_none (l := s.data.toList) (by rw [← hsl]; exact hlong) hx
      have HS := Lib.hid (fun (B c : Nat) (w : World) (hT : TokL w B c []) (hB : B ≤ w.heap.size) (hBc : B ≤ c) (h3B : 6 < B) (hG : Glob w) => (scanAll_any s B c w hs6 hT hB hBc h3B hG).mono fun e w' h => (And.intro (h.1.1.trans (by rw [hx]; rfl)) (And.intro h.1.2 h.2) : e = .returned .nilIface ∧ TokL w' B c ((lexAll s.data.toList).1.map (·.2)) ∧ Kp B c w w'))
      go_enter Tryz.func146, Tryz.ntmps146
      go_wp2_with fail
      have HB0 := Lib.hid (((Below.refl _ w).alloc (Nat.le_refl _) (.cells #[.int .i64 0, .int .i64 0, .int .i64 0] 29)).alloc (by simp) (.cells #[.slice none 0 0] 85))
      have hc0 : ((w.alloc (.cells #[.int .i64 0, .int .i64 0, .int .i64 0] 29)).alloc (.cells #[.slice none 0 0] 85)).heap[w.heap.size + 1]? = some (.cells #[.slice none 0 0] 85 (0, 0)) := by
        have := heap_alloc_new (w.alloc (.cells #[.int .i64 0, .int .i64 0, .int .i64 0] 29)) (.cells #[.slice none 0 0] 85); simpa using this
      have hF0 : ((w.alloc (.cells #[.int .i64 0, .int .i64 0, .int .i64 0] 29)).alloc (.cells #[.slice none 0 0] 85)).heap[w.heap.size]? = some (.cells #[.int .i64 0, .int .i64 0, .int .i64 0] 29 (0, 0)) := by
        rw [Below.heap_alloc _ _ _ (by simp)]; exact heap_alloc_new w _
      have HF0 := Lib.hid hF0
      have hT0 : TokL ((w.alloc (.cells #[.int .i64 0, .int .i64 0, .int .i64 0] 29)).alloc (.cells #[.slice none 0 0] 85)) w.heap.size (w.heap.size + 1) [] := TokL.nil hc0
      clear hc0 hF0
      refine (HS.out w.heap.size (w.heap.size + 1) _ hT0 (by simp; omega) (by omega) h3 (HGl.out.later h3 HB0.out)).mono ?_
      rintro e w1 ⟨rfl, hT1, hK1⟩
      have hF1 := hK1.block _ _ HF0.out (by omega) (.inr (by show 29 ≠ 156; decide))
      have HB1 := Lib.hid (HB0.out.trans (hK1.below (by omega) (by simp; omega)))
      rw [← hT] at hT1
      obtain ⟨v, hc, hr⟩ := hT1
      have HR := Lib.hid hr
      have c1 := cell_of_one hc
      have HV := Lib.hid hF
      have HNe := Lib.hid (show v.ownBlock ≠ some w.heap.size from fun e => by
        obtain ⟨_, cur, h2⟩ := own_row hr _ e
        rw [hF1] at h2; cases h2)
      clear hT hF hsl hx hr hc hT0 hK1
      have d0 : w1.cell? ⟨w.heap.size, 0, none⟩ = some (.int .i64 0) := by simp [World.cell?, hF1]
      have d1 : w1.cell? ⟨w.heap.size, 1, none⟩ = some (.int .i64 0) := by simp [World.cell?, hF1]
      have d2 : w1.cell? ⟨w.heap.size, 2, none⟩ = some (.int .i64 0) := by simp [World.cell?, hF1]
      have z0 : w1.frozen? ⟨w.heap.size, 0, none⟩ = false := by simp [World.frozen?, hF1]
      have z1 : w1.frozen? ⟨w.heap.size, 1, none⟩ = false := by simp [World.frozen?, hF1]
      have z2 : w1.frozen? ⟨w.heap.size, 2, none⟩ = false := by simp [World.frozen?, hF1]
      clear hF1
      go_wp2_with fail
      refine bodyPost_ret (v := .tuple #[v, .agg #[.int .i64 0, .int .i64 0, .int .i64 0]]) (by simp [results, Tryz.results146, go_sem, d0, d1, d2]) rfl ⟨⟨v, by rw [HV.out]; rfl, ?_⟩, ?_⟩
      · exact ownsRow_setCell_other (ownsRow_setCell_other (ownsRow_setCell_other HR.out HNe.out _) HNe.out _) HNe.out _
      · exact ((HB1.out.setCell (Nat.le_refl _) _).setCell (Nat.le_refl _) _).setCell (Nat.le_refl _) _
    · have hx3 := lexF_err _ _ _ _ _ hx
      obtain ⟨hT, hF⟩ := all_some (l := s.data.toList) (by rw [← hsl]; exact hlong) hx
      have HFa := Lib.hid (fun w h => faultOf_any s a er w hs6 (by rw [hsl]; exact hx3.1) (by omega) h)
      have HA := Lib.hid (fun B w' => allIs_no (l := s.data.toList) (B := B) (w' := w') (e := er) (a := (lc (s.data.toList.take a)).1) (b := (lc (s.data.toList.take a)).2) hT (by rw [hF]; exact ⟨rfl, rfl, rfl⟩))
      clear hT hF
      generalize (lc (s.data.toList.take a)).1 = L at HFa HA
      generalize (lc (s.data.toList.take a)).2 = C at HFa HA
      have HS := Lib.hid (fun (B c : Nat) (w : World) (hT : TokL w B c []) (hB : B ≤ w.heap.size) (hBc : B ≤ c) (h3B : 6 < B) (hG : Glob w) => (scanAll_any s B c w hs6 hT hB hBc h3B hG).mono fun e w' h => (And.intro (h.1.1.trans (by rw [hx]; rfl)) (And.intro h.1.2 h.2) : e = .returned (.iface 282 (.agg #[.int .i64 a, .int .i64 er])) ∧ TokL w' B c ((lexAll s.data.toList).1.map (·.2)) ∧ Kp B c w w'))
      go_enter Tryz.func146, Tryz.ntmps146
      go_wp2_with fail
      have HB0 := Lib.hid (((Below.refl _ w).alloc (Nat.le_refl _) (.cells #[.int .i64 0, .int .i64 0, .int .i64 0] 29)).alloc (by simp) (.cells #[.slice none 0 0] 85))
      have hc0 : ((w.alloc (.cells #[.int .i64 0, .int .i64 0, .int .i64 0] 29)).alloc (.cells #[.slice none 0 0] 85)).heap[w.heap.size + 1]? = some (.cells #[.slice none 0 0] 85 (0, 0)) := by
        have := heap_alloc_new (w.alloc (.cells #[.int .i64 0, .int .i64 0, .int .i64 0] 29)) (.cells #[.slice none 0 0] 85); simpa using this
      have hF0 : ((w.alloc (.cells #[.int .i64 0, .int .i64 0, .int .i64 0] 29)).alloc (.cells #[.slice none 0 0] 85)).heap[w.heap.size]? = some (.cells #[.int .i64 0, .int .i64 0, .int .i64 0] 29 (0, 0)) := by
        rw [Below.heap_alloc _ _ _ (by simp)]; exact heap_alloc_new w _
      have HF0 := Lib.hid hF0
      have hT0 : TokL ((w.alloc (.cells #[.int .i64 0, .int .i64 0, .int .i64 0] 29)).alloc (.cells #[.slice none 0 0] 85)) w.heap.size (w.heap.size + 1) [] := TokL.nil hc0
      clear hc0 hF0
      refine (HS.out w.heap.size (w.heap.size + 1) _ hT0 (by simp; omega) (by omega) h3 (HGl.out.later h3 HB0.out)).mono ?_
      rintro e w1 ⟨rfl, hT1, hK1⟩
      have hF1 := hK1.block _ _ HF0.out (by omega) (.inr (by show 29 ≠ 156; decide))
      have HB1 := Lib.hid (HB0.out.trans (hK1.below (by omega) (by simp; omega)))
      have HF1 := Lib.hid hF1
      clear hT0 hK1 hT1 hF1 hx hsl hx3
      go_wp2_with fail
      refine (HFa.out _ (HGl.out.later h3 HB1.out)).mono ?_
      rintro e w2 ⟨rfl, hB2⟩
      have hF1 := (hB2.block _ (lt_of_block HF1.out)).trans HF1.out
      have HB2 := Lib.hid (HB1.out.trans (hB2.mono HB1.out.size))
      clear hB2
      have d0 : w2.cell? ⟨w.heap.size, 0, none⟩ = some (.int .i64 0) := by simp [World.cell?, hF1]
      have d1 : w2.cell? ⟨w.heap.size, 1, none⟩ = some (.int .i64 0) := by simp [World.cell?, hF1]
      have d2 : w2.cell? ⟨w.heap.size, 2, none⟩ = some (.int .i64 0) := by simp [World.cell?, hF1]
      have z0 : w2.frozen? ⟨w.heap.size, 0, none⟩ = false := by simp [World.frozen?, hF1]
      have z1 : w2.frozen? ⟨w.heap.size, 1, none⟩ = false := by simp [World.frozen?, hF1]
      have z2 : w2.frozen? ⟨w.heap.size, 2, none⟩ = false := by simp [World.frozen?, hF1]
      clear hF1
      go_wp2_with fail
      refine bodyPost_ret (v := .tuple #[.slice none 0 0, .agg #[.int .i64 er, .int .i64 L, .int .i64 C]]) (by simp [results, Tryz.results146, go_sem, d0, d1, d2]) rfl ⟨HA.out _ _, ?_⟩
      exact ((HB2.out.setCell (Nat.le_refl _) _).setCell (Nat.le_refl _) _).setCell (Nat.le_refl _) _
end Go.Proofs.YtchbnkepmeelkaaGreatDoor.Lx
