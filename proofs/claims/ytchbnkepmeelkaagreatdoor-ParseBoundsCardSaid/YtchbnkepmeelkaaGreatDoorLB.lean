/- LxC3, LxC4, LxD1, LxD2, LxD3, LxD4 as one. -/
import Derived.Test.YtchbnkepmeelkaaGreatDoorLA
import Derived.Test.YtchbnkepmeelkaaGreatDoorShelf
import Derived.Below
import Derived.Lib.SmallJoins
import Derived.Outline
import Derived.Maps.OwnSet
import Derived.Laws.StructEq
import Derived.Lib.IndexBytes
/- Numbers, the program's. -/
namespace Go.Proofs.YtchbnkepmeelkaaGreatDoor.Lx
open Go.RowKit

/-- what the library's own variables hold -/
def Glob (w : World) : Prop :=
  (∃ tp p, w.cell? ⟨5, 0, none⟩ = some (.iface tp p)) ∧ (∃ tp p, w.cell? ⟨6, 0, none⟩ = some (.iface tp p)) ∧ w.cell? ⟨0, 0, none⟩ = some (.iface 266 (.agg #[.pointer (some ⟨7, 124, none⟩)])) ∧ 6 < w.heap.size
theorem Glob.later {w w' : World} {n : Nat} (h : Glob w) (hn : 6 < n) (hB : Below n w w') : Glob w' := by
  obtain ⟨⟨t1, p1, h1⟩, ⟨t2, p2, h2⟩, h3, h4⟩ := h
  exact ⟨⟨t1, p1, (hB.cell (p := ⟨5, 0, none⟩) (by show 5 < n; omega)).trans h1⟩, ⟨t2, p2, (hB.cell (p := ⟨6, 0, none⟩) (by show 6 < n; omega)).trans h2⟩, (hB.cell (p := ⟨0, 0, none⟩) (by show 0 < n; omega)).trans h3, Nat.lt_of_lt_of_le h4 hB.size⟩

theorem ret_num {a b c d : Int} (h1 : a = c) (h2 : b = d) : Ending.returned (.tuple #[.int .u64 a, .int .i64 b]) = Ending.returned (.tuple #[.int .u64 c, .int .i64 d]) := by rw [h1, h2]
theorem numE_no {l : List UInt8} (h : numB l = false) : (numE l : Int) = 15 := by simp [numE, h]
theorem numV_no {l : List UInt8} (h : numB l = false) : (numV l : Int) = 0 := by simp [numV, h]
theorem numE_yes {l : List UInt8} (h : numB l = true) : (numE l : Int) = 0 := by simp [numE, h]
theorem numV_yes {l : List UInt8} (h : numB l = true) : (numV l : Int) = decN l := by simp [numV, h]
theorem num_nought {l : List UInt8} (h : (decide (1 < l.length) && decide (l.headD 0 = 48)) = true) : numB l = false := by
  simp only [numB, h, Bool.not_true, Bool.and_false, Bool.false_and]

theorem below_bytes {w w' : World} {T : TypeId} {s : ByteArray} (h : w' = w ∨ w' = Lib.bytesWorld w T s) : Below w.heap.size w w' := by
  rcases h with rfl | rfl
  · exact Below.refl _ _
  · exact Joins.below_bytesWorld _ _ _ _ (Nat.le_refl _)
set_option maxHeartbeats 1600000 in
theorem number_any (s : ByteArray) (w : World) (hs : s.size ≤ 281474976710656) (hG : Glob w) : Calls Tryz.prog 257 #[.string s] w fun e w' => e = .returned (.tuple #[.int .u64 (numV s.data.toList), .int .i64 (numE s.data.toList)]) ∧ Below w.heap.size w w' := by
  have HG := Lib.hid hG
  clear hG
  have key : ∀ b, (decide (1 < s.data.toList.length) && decide (s.data.toList.headD 0 = 48)) = b → (decide (1 < s.size) && decide (s.data.toList.headD 0 = 48)) = b := fun b h => by rw [size_len]; exact h
  by_cases h1 : 1 < s.size
  · have hlen : 0 < s.data.toList.length := by rw [← size_len]; omega
    have hhd : s.data.toList.headD 0 = s[0]'(by omega) := head_get _ hlen
    clear hlen
    by_cases h48 : ((s[0]'(by omega)).toNat : Int) = 48
    · have HF := Lib.hid (num_nought (l := s.data.toList) (by
        rw [← size_len, decide_eq_true h1, hhd]
        have : s[0]'(by omega) = 48 := UInt8.toNat_inj.1 (by show _ = 48; omega)
        rw [this]; rfl))
      have e48 : (((s[0]'(by omega)).toNat : Int) == 48) = true := by rw [h48]; rfl
      clear hhd h48 key
      go_enter Tryz.func257, Tryz.ntmps257
      go_wp2
      go_ret2
      exact ⟨ret_num (numV_no HF.out).symm (numE_no HF.out).symm, Below.refl _ _⟩
    · have e48 : (((s[0]'(by omega)).toNat : Int) == 48) = false := by simpa using h48
      have hne : (s.data.toList.headD 0) ≠ 48 := fun h => h48 (by rw [hhd] at h; rw [h]; rfl)
      have HF0 := Lib.hid (show (decide (1 < s.data.toList.length) && decide (s.data.toList.headD 0 = 48)) = false by rw [decide_eq_false hne, Bool.and_false])
      clear hhd h48 key hne
      cases hb : numB s.data.toList
      · rcases parse_no _ hb HF0.out with hp | hp
        · have HF := Lib.hid hb
          have HC := Lib.hid (Tryz.strconv_ParseUint_10_at64_syntax s hs hp)
          have HGw := Lib.hid HG.out
          obtain ⟨⟨tp, p, hv⟩, _⟩ := HGw.out
          have HP := Lib.hid (HC.out _ w hv (.inr ⟨tp, p, rfl⟩))
          clear hb hp HF0 HC hv
          go_enter Tryz.func257, Tryz.ntmps257
          go_wp2_with (go_at_call 261; refine HP.out.mono ?_; rintro e w1 ⟨N, rfl, hN, hO, hB1⟩)
          go_ret2
          exact ⟨ret_num (numV_no HF.out).symm (numE_no HF.out).symm, hB1⟩
        · have HF := Lib.hid hb
          have HC := Lib.hid (Tryz.strconv_ParseUint_10_at64_range s hs hp)
          have HGw := Lib.hid HG.out
          obtain ⟨_, ⟨tp, p, hv⟩, _⟩ := HGw.out
          have HP := Lib.hid (HC.out _ w hv (.inr ⟨tp, p, rfl⟩))
          clear hb hp HF0 HC hv
          go_enter Tryz.func257, Tryz.ntmps257
          go_wp2_with (go_at_call 261; refine HP.out.mono ?_; rintro e w1 ⟨N, rfl, hN, hO, hB1⟩)
          go_ret2
          exact ⟨ret_num (numV_no HF.out).symm (numE_no HF.out).symm, hB1⟩
      · have HF := Lib.hid hb
        have HP := Lib.hid (Tryz.strconv_ParseUint_10_at64_ok s (by omega) (decN s.data.toList) (parse_yes _ hb) w)
        clear hb HF0
        go_enter Tryz.func257, Tryz.ntmps257
        go_wp2_with (go_at_call 261; refine HP.out.mono ?_; rintro e w1 ⟨rfl, hw⟩)
        go_ret2
        exact ⟨ret_num (numV_yes HF.out).symm (numE_yes HF.out).symm, below_bytes hw⟩
  · have HF0 := Lib.hid (show (decide (1 < s.data.toList.length) && decide (s.data.toList.headD 0 = 48)) = false by rw [← size_len, decide_eq_false h1, Bool.false_and])
    clear key
    cases hb : numB s.data.toList
    · rcases parse_no _ hb HF0.out with hp | hp
      · have HF := Lib.hid hb
        have HC := Lib.hid (Tryz.strconv_ParseUint_10_at64_syntax s hs hp)
        have HGw := Lib.hid HG.out
        obtain ⟨⟨tp, p, hv⟩, _⟩ := HGw.out
        have HP := Lib.hid (HC.out _ w hv (.inr ⟨tp, p, rfl⟩))
        clear hb hp HF0 HC hv
        go_enter Tryz.func257, Tryz.ntmps257
        go_wp2_with (go_at_call 261; refine HP.out.mono ?_; rintro e w1 ⟨N, rfl, hN, hO, hB1⟩)
        go_ret2
        exact ⟨ret_num (numV_no HF.out).symm (numE_no HF.out).symm, hB1⟩
      · have HF := Lib.hid hb
        have HC := Lib.hid (Tryz.strconv_ParseUint_10_at64_range s hs hp)
        have HGw := Lib.hid HG.out
        obtain ⟨_, ⟨tp, p, hv⟩, _⟩ := HGw.out
        have HP := Lib.hid (HC.out _ w hv (.inr ⟨tp, p, rfl⟩))
        clear hb hp HF0 HC hv
        go_enter Tryz.func257, Tryz.ntmps257
        go_wp2_with (go_at_call 261; refine HP.out.mono ?_; rintro e w1 ⟨N, rfl, hN, hO, hB1⟩)
        go_ret2
        exact ⟨ret_num (numV_no HF.out).symm (numE_no HF.out).symm, hB1⟩
    · have HF := Lib.hid hb
      have HP := Lib.hid (Tryz.strconv_ParseUint_10_at64_ok s (by omega) (decN s.data.toList) (parse_yes _ hb) w)
      clear hb HF0
      go_enter Tryz.func257, Tryz.ntmps257
      go_wp2_with (go_at_call 261; refine HP.out.mono ?_; rintro e w1 ⟨rfl, hw⟩)
      go_ret2
      exact ⟨ret_num (numV_yes HF.out).symm (numE_yes HF.out).symm, below_bytes hw⟩
end Go.Proofs.YtchbnkepmeelkaaGreatDoor.Lx
/- Numbers, the document's. -/
namespace Go.Proofs.YtchbnkepmeelkaaGreatDoor.Lx
open Go.RowKit

end Go.Proofs.YtchbnkepmeelkaaGreatDoor.Lx
/- A map whose keys are texts, made by a call out of a literal: what a look-up in it comes to. Over any program. -/
namespace Go.Proofs.YtchbnkepmeelkaaGreatDoor.Lx
open Go Go.RowKit

/-- Entries at these keys, in this order. -/
def ses : Nat → List (List UInt8) → List MapEntry
  | _, [] => []
  | i, x :: r => { key := .string ⟨x.toArray⟩, val := .agg #[], born := i } :: ses (i + 1) r
/-- The map's block. -/
def smap (l : List (List UInt8)) : Obj := .map (ses 0 l).toArray l.length

theorem ses_append (i : Nat) (l : List (List UInt8)) (x : List UInt8) : ses i (l ++ [x]) = ses i l ++ [{ key := .string ⟨x.toArray⟩, val := .agg #[], born := i + l.length }] := by
  induction l generalizing i with
  | nil => simp [ses]
  | cons y r ih => simp [ses, ih, Nat.add_comm, Nat.add_left_comm]

theorem mk_beq (s : ByteArray) (y : List UInt8) : (s == (⟨y.toArray⟩ : ByteArray)) = decide (s.data.toList = y) := by
  have e : (⟨y.toArray⟩ : ByteArray).data.toList = y := rfl
  rw [beq_toListBytes, Lib.toList_data, Lib.toList_data, e, Bool.eq_iff_iff, decide_eq_true_eq, beq_iff_eq]
theorem find_ses (l : List (List UInt8)) (s : ByteArray) (i j : Nat) : ∃ n, Instr.findNow .string (.string s) (ses i l) j = some (if s.data.toList ∈ l then some (n, .agg #[]) else none) := by
  induction l generalizing i j with
  | nil => exact ⟨0, rfl⟩
  | cons y r ih =>
    by_cases h : s.data.toList = y
    · refine ⟨j, ?_⟩
      simp [ses, Instr.findNow, Instr.sameNow, mk_beq, h]
    · obtain ⟨n, hn⟩ := ih (i + 1) (j + 1)
      refine ⟨n, ?_⟩
      simp [ses, Instr.findNow, Instr.sameNow, mk_beq, h, hn]

theorem set_push_last {α : Type} (a : Array α) (x y : α) : (a.push x).setIfInBounds a.size y = a.push y := by
  obtain ⟨l⟩ := a
  simp

section
variable {P : Program} {t k e : TypeId}
theorem run_look_smap (ht : P.underlying t = some (.map k e)) (hk : P.underlying k = some .string) (hz : ∀ w, (zeroValue e).run P w = .ok (.agg #[]) w) (l : List (List UInt8)) {w : World} {b : Nat} (hb : w.heap[b]? = some (smap l)) (s : ByteArray) :
    (Instr.lookup t (.map (some b)) (.string s) true).run P w = .ok (.tuple #[.agg #[], .bool (decide (s.data.toList ∈ l))]) w := by
  obtain ⟨n, hn⟩ := find_ses l s 0 0
  have hb' : w.heap[b]? = some (.map (ses 0 l).toArray l.length) := hb
  have hf := MapKept.run_findKey (P := P) (w := w) hk hn
  by_cases h : s.data.toList ∈ l
  · simp only [if_pos h] at hf
    simp [Instr.lookup, run_underlying ht, MapKept.run_getObj_map hb', MapKept.run_checkKey hk (k := .string s) trivial, hf, Result.andThen, h]
  · simp only [if_neg h] at hf
    simp [Instr.lookup, run_underlying ht, MapKept.run_getObj_map hb', MapKept.run_checkKey hk (k := .string s) trivial, hf, hz, Result.andThen, h]
/-- a literal's next entry -/
theorem run_put_smap (ht : P.underlying t = some (.map k e)) (hk : P.underlying k = some .string) (l : List (List UInt8)) (w : World) (x : List UInt8) (hx : x ∉ l) :
    (Instr.mapUpdate t (.map (some w.heap.size)) (.string ⟨x.toArray⟩) (.agg #[])).run P (w.alloc (smap l)) = .ok () (w.alloc (smap (l ++ [x]))) := by
  obtain ⟨n, hn⟩ := find_ses l ⟨x.toArray⟩ 0 0
  have hb : (w.alloc (smap l)).heap[w.heap.size]? = some (.map (ses 0 l).toArray l.length) := (MapKept.heap_alloc w _).1
  have hf := MapKept.run_findKey (P := P) (w := w.alloc (smap l)) hk hn
  rw [if_neg (show (⟨x.toArray⟩ : ByteArray).data.toList ∉ l from hx)] at hf
  have e1 : ({ w.alloc (smap l) with heap := (w.alloc (smap l)).heap.setIfInBounds w.heap.size (smap (l ++ [x])) } : World) = w.alloc (smap (l ++ [x])) := by
    show ({ w with heap := (w.heap.push (smap l)).setIfInBounds w.heap.size (smap (l ++ [x])) } : World) = { w with heap := w.heap.push (smap (l ++ [x])) }
    rw [set_push_last]
  simp [Instr.mapUpdate, run_underlying ht, MapKept.run_getObj_map hb, MapKept.run_checkKey hk (k := .string ⟨x.toArray⟩) trivial, hf, MapKept.run_setObj_map _ hb, Result.andThen]
  rw [← e1]
  simp [smap, ses_append]
end
/-- .. as a table's first n entries -/
def stb (T : List (List UInt8)) (n : Nat) : Obj := smap (T.take n)
theorem run_put_stb {P : Program} {t k e : TypeId} (ht : P.underlying t = some (.map k e)) (hk : P.underlying k = some .string) (T : List (List UInt8)) (n : Nat) (x : List UInt8) (hT : T[n]? = some x) (hx : x ∉ T.take n) (w : World) :
    (Instr.mapUpdate t (.map (some w.heap.size)) (.string ⟨x.toArray⟩) (.agg #[])).run P (w.alloc (stb T n)) = .ok () (w.alloc (stb T (n + 1))) := by
  have h := run_put_smap ht hk (T.take n) w x hx
  have e1 : T.take (n + 1) = T.take n ++ [x] := by rw [List.take_add_one, hT]; rfl
  rw [← e1] at h
  exact h
end Go.Proofs.YtchbnkepmeelkaaGreatDoor.Lx
/- The map of signs. -/
namespace Go.Proofs.YtchbnkepmeelkaaGreatDoor.Lx
open Go.RowKit

/-- the signs -/
def signT : List (List UInt8) := [[40], [41], [123], [125], [91], [93], [44], [59], [61], [43], [45], [42], [38], [124], [94], [126], [60], [60, 60], [60, 60, 60], [60, 61], [62], [62, 62], [62, 62, 62], [62, 62, 62, 62], [61, 61], [33, 61], [45, 62]]
/-- What a call hands back that makes the map: it lies in a new block. -/
def MapAt (w : World) (e : Ending) (w' : World) : Prop := ∃ b, e = .returned (.map (some b)) ∧ w'.heap[b]? = some (smap signT) ∧ w.heap.size ≤ b ∧ Below w.heap.size w w'
theorem mapAt_new (w : World) : MapAt w (.returned (.map (some w.heap.size))) (w.alloc (stb signT 27)) := by
  refine ⟨_, rfl, ?_, Nat.le_refl _, (Below.refl _ _).alloc (Nat.le_refl _) _⟩
  rw [(MapKept.heap_alloc w _).1, stb, List.take_of_length_le (by decide)]
set_option maxRecDepth 100000 in
set_option maxHeartbeats 3200000 in
theorem signs_any (w : World) : Calls Tryz.prog 242 #[] w (MapAt w) := by
  have hmm := @run_makeMap Tryz.prog
  have i0 : ∀ wx : World, (Instr.mapUpdate 284 (.map (some wx.heap.size)) (.string ⟨#[40]⟩) (.agg #[])).run Tryz.prog (wx.alloc (.map #[] 0)) = .ok () (wx.alloc (stb signT 1)) := fun wx => run_put_stb Tryz.underlying284 Tryz.underlying9 signT 0 [40] rfl (by decide) wx
  have i1 := fun wx => run_put_stb Tryz.underlying284 Tryz.underlying9 signT 1 [41] rfl (by decide) wx
  have i2 := fun wx => run_put_stb Tryz.underlying284 Tryz.underlying9 signT 2 [123] rfl (by decide) wx
  have i3 := fun wx => run_put_stb Tryz.underlying284 Tryz.underlying9 signT 3 [125] rfl (by decide) wx
  have i4 := fun wx => run_put_stb Tryz.underlying284 Tryz.underlying9 signT 4 [91] rfl (by decide) wx
  have i5 := fun wx => run_put_stb Tryz.underlying284 Tryz.underlying9 signT 5 [93] rfl (by decide) wx
  have i6 := fun wx => run_put_stb Tryz.underlying284 Tryz.underlying9 signT 6 [44] rfl (by decide) wx
  have i7 := fun wx => run_put_stb Tryz.underlying284 Tryz.underlying9 signT 7 [59] rfl (by decide) wx
  have i8 := fun wx => run_put_stb Tryz.underlying284 Tryz.underlying9 signT 8 [61] rfl (by decide) wx
  have i9 := fun wx => run_put_stb Tryz.underlying284 Tryz.underlying9 signT 9 [43] rfl (by decide) wx
  have i10 := fun wx => run_put_stb Tryz.underlying284 Tryz.underlying9 signT 10 [45] rfl (by decide) wx
  have i11 := fun wx => run_put_stb Tryz.underlying284 Tryz.underlying9 signT 11 [42] rfl (by decide) wx
  have i12 := fun wx => run_put_stb Tryz.underlying284 Tryz.underlying9 signT 12 [38] rfl (by decide) wx
  have i13 := fun wx => run_put_stb Tryz.underlying284 Tryz.underlying9 signT 13 [124] rfl (by decide) wx
  have i14 := fun wx => run_put_stb Tryz.underlying284 Tryz.underlying9 signT 14 [94] rfl (by decide) wx
  have i15 := fun wx => run_put_stb Tryz.underlying284 Tryz.underlying9 signT 15 [126] rfl (by decide) wx
  have i16 := fun wx => run_put_stb Tryz.underlying284 Tryz.underlying9 signT 16 [60] rfl (by decide) wx
  have i17 := fun wx => run_put_stb Tryz.underlying284 Tryz.underlying9 signT 17 [60, 60] rfl (by decide) wx
  have i18 := fun wx => run_put_stb Tryz.underlying284 Tryz.underlying9 signT 18 [60, 60, 60] rfl (by decide) wx
  have i19 := fun wx => run_put_stb Tryz.underlying284 Tryz.underlying9 signT 19 [60, 61] rfl (by decide) wx
  have i20 := fun wx => run_put_stb Tryz.underlying284 Tryz.underlying9 signT 20 [62] rfl (by decide) wx
  have i21 := fun wx => run_put_stb Tryz.underlying284 Tryz.underlying9 signT 21 [62, 62] rfl (by decide) wx
  have i22 := fun wx => run_put_stb Tryz.underlying284 Tryz.underlying9 signT 22 [62, 62, 62] rfl (by decide) wx
  have i23 := fun wx => run_put_stb Tryz.underlying284 Tryz.underlying9 signT 23 [62, 62, 62, 62] rfl (by decide) wx
  have i24 := fun wx => run_put_stb Tryz.underlying284 Tryz.underlying9 signT 24 [61, 61] rfl (by decide) wx
  have i25 := fun wx => run_put_stb Tryz.underlying284 Tryz.underlying9 signT 25 [33, 61] rfl (by decide) wx
  have i26 := fun wx => run_put_stb Tryz.underlying284 Tryz.underlying9 signT 26 [45, 62] rfl (by decide) wx
  go_enter Tryz.func242, Tryz.ntmps242
  go_wp2
  go_ret
  exact mapAt_new w
end Go.Proofs.YtchbnkepmeelkaaGreatDoor.Lx
/- The longest sign with which a text begins. -/
namespace Go.Proofs.YtchbnkepmeelkaaGreatDoor.Lx
open Go.RowKit

/-- the greatest length, at most so many, at which a text's beginning is a sign -/
def signDown (l : List UInt8) : Nat → Nat
  | 0 => 0
  | n + 1 => if l.take (n + 1) ∈ signT then n + 1 else signDown l n
def signLen (l : List UInt8) : Nat := signDown l (min 4 l.length)
theorem signDown_le (l : List UInt8) (n : Nat) : signDown l n ≤ n := by
  induction n with
  | zero => exact Nat.le_refl _
  | succ n ih => unfold signDown; split <;> omega
theorem signLen_le (l : List UInt8) : signLen l ≤ l.length := Nat.le_trans (signDown_le _ _) (Nat.min_le_right _ _)
theorem signDown_yes {l : List UInt8} {n : Nat} (h : decide (l.take (n + 1) ∈ signT) = true) : signDown l (n + 1) = n + 1 := by
  unfold signDown; rw [if_pos (of_decide_eq_true h)]
theorem signDown_no {l : List UInt8} {n : Nat} (h : decide (l.take (n + 1) ∈ signT) = false) : signDown l (n + 1) = signDown l n := by
  rw [signDown, if_neg (of_decide_eq_false h)]

/-- a token's value -/
def tokV (k : Nat) (s : ByteArray) (x line col : Nat) : Value := .agg #[.int .i64 k, .string s, .int .u64 x, .int .i64 line, .int .i64 col]
def signV (s : ByteArray) : Ending :=
  if signLen s.data.toList = 0 then .returned (.tuple #[tokV 0 ⟨#[]⟩ 0 0 0, .int .i64 15]) else .returned (.tuple #[tokV 4 (s.extract 0 (signLen s.data.toList)) 0 0 0, .int .i64 0])
theorem signV_no {s : ByteArray} (h : signLen s.data.toList = 0) : signV s = .returned (.tuple #[.agg #[.int .i64 0, .string ⟨#[]⟩, .int .u64 0, .int .i64 0, .int .i64 0], .int .i64 15]) := by rw [signV, if_pos h]; rfl
theorem signV_yes {s : ByteArray} {n : Nat} (h : signLen s.data.toList = n + 1) : signV s = .returned (.tuple #[.agg #[.int .i64 4, .string (s.extract 0 (n + 1)), .int .u64 0, .int .i64 0, .int .i64 0], .int .i64 0]) := by rw [signV, if_neg (by omega), h]; rfl

theorem bz : ∀ w, (zeroValue 299).run Tryz.prog w = .ok (.agg #[]) w := fun _ => by kernel_rfl
theorem extract_take (s : ByteArray) (n : Nat) : (s.extract 0 n).data.toList = s.data.toList.take n := by rw [Lib.extract_data]; rfl

set_option maxRecDepth 100000 in
set_option maxHeartbeats 3200000 in
theorem signToken_any (s : ByteArray) (b : Nat) (w : World) (hm : w.heap[b]? = some (smap signT)) (hs : s.size ≤ 281474976710656) :
    Calls Tryz.prog 245 #[.map (some b), .string s] w fun e w' => e = signV s ∧ Below w.heap.size w w' := by
  have hb : b < w.heap.size := (Array.getElem?_eq_some_iff.1 hm).1
  have HM := Lib.hid hm
  obtain ⟨m, hmn⟩ : ∃ m : Nat, min 4 s.size = m := ⟨_, rfl⟩
  have hm4 : m ≤ 4 := by omega
  have hms : m ≤ s.size := by omega
  have HL := Lib.hid (show signLen s.data.toList = signDown s.data.toList m by rw [signLen, ← size_len, hmn])
  have hmi : min 4 (s.size : Int) = (m : Int) := by omega
  clear hm hmn
  go_enter Tryz.func245, Tryz.ntmps245
  go_wp2
  obtain ⟨wz, hwz⟩ : ∃ wz, w.alloc (.cells #[.int .i64 0, .string ⟨#[]⟩, .int .u64 0, .int .i64 0, .int .i64 0] 156) = wz := ⟨_, rfl⟩
  have HBz := Lib.hid (show Below w.heap.size w wz by rw [← hwz]; exact (Below.refl _ _).alloc (Nat.le_refl _) _)
  have HT := Lib.hid (show (∀ i, i < 5 → (wz.cell? ⟨w.heap.size, i, none⟩).isSome ∧ wz.frozen? ⟨w.heap.size, i, none⟩ = false) ∧ w.heap.size < wz.heap.size by
    rw [← hwz]; refine ⟨fun i hi => ?_, by simp⟩
    rcases i with _|_|_|_|_|i <;> first | omega | exact ⟨by simp [go_sem], by simp [go_sem]⟩)
  rw [hwz]
  clear hwz hmi
  go_loopw [6] (fun i wr => ∃ n : Nat, i = .int .i64 n ∧ n ≤ m ∧ Hid (signLen s.data.toList = signDown s.data.toList n) ∧ Hid (Below wz.heap.size wz wr)) (fun i _ => (intOf i).toNat)
  case atStart => exact ⟨m, rfl, Nat.le_refl _, HL, Lib.hid (Below.refl _ _)⟩
  case round =>
    obtain ⟨n, rfl, hn, hS, hB⟩ := hrel
    have HBw := Lib.hid (HBz.out.trans (hB.out.mono HBz.out.size))
    rcases n with _ | n
    · have HV := Lib.hid (signV_no (s := s) (hS.out.trans rfl))
      obtain ⟨v0, k0⟩ := Option.isSome_iff_exists.1 (HT.out.1 0 (by omega)).1
      obtain ⟨v1, k1⟩ := Option.isSome_iff_exists.1 (HT.out.1 1 (by omega)).1
      obtain ⟨v2, k2⟩ := Option.isSome_iff_exists.1 (HT.out.1 2 (by omega)).1
      obtain ⟨v3, k3⟩ := Option.isSome_iff_exists.1 (HT.out.1 3 (by omega)).1
      obtain ⟨v4, k4⟩ := Option.isSome_iff_exists.1 (HT.out.1 4 (by omega)).1
      have d0 := (hB.out.cell (p := ⟨w.heap.size, 0, none⟩) HT.out.2).trans k0
      have d1 := (hB.out.cell (p := ⟨w.heap.size, 1, none⟩) HT.out.2).trans k1
      have d2 := (hB.out.cell (p := ⟨w.heap.size, 2, none⟩) HT.out.2).trans k2
      have d3 := (hB.out.cell (p := ⟨w.heap.size, 3, none⟩) HT.out.2).trans k3
      have d4 := (hB.out.cell (p := ⟨w.heap.size, 4, none⟩) HT.out.2).trans k4
      have z0 := (hB.out.frozen (p := ⟨w.heap.size, 0, none⟩) HT.out.2).trans (HT.out.1 0 (by omega)).2
      have z1 := (hB.out.frozen (p := ⟨w.heap.size, 1, none⟩) HT.out.2).trans (HT.out.1 1 (by omega)).2
      have z2 := (hB.out.frozen (p := ⟨w.heap.size, 2, none⟩) HT.out.2).trans (HT.out.1 2 (by omega)).2
      have z3 := (hB.out.frozen (p := ⟨w.heap.size, 3, none⟩) HT.out.2).trans (HT.out.1 3 (by omega)).2
      have z4 := (hB.out.frozen (p := ⟨w.heap.size, 4, none⟩) HT.out.2).trans (HT.out.1 4 (by omega)).2
      clear k0 k1 k2 k3 k4
      go_wp2
      refine bodyPost_ret (v := .tuple #[.agg #[.int .i64 0, .string ⟨#[]⟩, .int .u64 0, .int .i64 0, .int .i64 0], .int .i64 15]) (by simp [results, Tryz.results245, go_sem, d0, d1, d2, d3, d4]) rfl ⟨HV.out.symm, ?_⟩
      exact ((((HBw.out.setCell (Nat.le_refl _) _).setCell (Nat.le_refl _) _).setCell (Nat.le_refl _) _).setCell (Nat.le_refl _) _).setCell (Nat.le_refl _) _
    · have hlk := run_look_smap Tryz.underlying284 Tryz.underlying9 bz signT ((hB.out.block b (Nat.lt_of_lt_of_le (Nat.lt_succ_of_lt hb) HT.out.2)).trans (HBz.out.block b hb ▸ HM.out)) (s.extract 0 (n + 1))
      rw [extract_take] at hlk
      cases hx : decide (s.data.toList.take (n + 1) ∈ signT)
      · have HS := Lib.hid (hS.out.trans (signDown_no hx))
        rw [hx] at hlk
        clear hx
        have hn1 : n + 1 ≤ s.size := by omega
        go_wp2
        go_roundw
        case rel => exact ⟨n, by go_num, by omega, HS, Lib.hid (hB.out.alloc hB.out.size _)⟩
        case measure => simp [intOf]
      · have HV := Lib.hid (signV_yes (s := s) (hS.out.trans (signDown_yes hx)))
        have hz := Nat.lt_of_lt_of_le HT.out.2 hB.out.size
        have ha : ∀ (W : World) (i : Nat), W.heap.size = wr.heap.size → (W.alloc (.cells #[] 299)).cell? ⟨w.heap.size, i, none⟩ = W.cell? ⟨w.heap.size, i, none⟩ := fun W i h => World.cell?_alloc_lt W _ ⟨w.heap.size, i, none⟩ (by rw [h]; exact hz)
        have hzn : w.heap.size ≠ wr.heap.size := Nat.ne_of_lt hz
        rw [hx] at hlk
        clear hx
        have hn1 : n + 1 ≤ s.size := by omega
        obtain ⟨v0, k0⟩ := Option.isSome_iff_exists.1 (HT.out.1 0 (by omega)).1
        obtain ⟨v1, k1⟩ := Option.isSome_iff_exists.1 (HT.out.1 1 (by omega)).1
        obtain ⟨v2, k2⟩ := Option.isSome_iff_exists.1 (HT.out.1 2 (by omega)).1
        obtain ⟨v3, k3⟩ := Option.isSome_iff_exists.1 (HT.out.1 3 (by omega)).1
        obtain ⟨v4, k4⟩ := Option.isSome_iff_exists.1 (HT.out.1 4 (by omega)).1
        have d0 := (hB.out.cell (p := ⟨w.heap.size, 0, none⟩) HT.out.2).trans k0
        have d1 := (hB.out.cell (p := ⟨w.heap.size, 1, none⟩) HT.out.2).trans k1
        have d2 := (hB.out.cell (p := ⟨w.heap.size, 2, none⟩) HT.out.2).trans k2
        have d3 := (hB.out.cell (p := ⟨w.heap.size, 3, none⟩) HT.out.2).trans k3
        have d4 := (hB.out.cell (p := ⟨w.heap.size, 4, none⟩) HT.out.2).trans k4
        have z0 := (hB.out.frozen (p := ⟨w.heap.size, 0, none⟩) HT.out.2).trans (HT.out.1 0 (by omega)).2
        have z1 := (hB.out.frozen (p := ⟨w.heap.size, 1, none⟩) HT.out.2).trans (HT.out.1 1 (by omega)).2
        have z2 := (hB.out.frozen (p := ⟨w.heap.size, 2, none⟩) HT.out.2).trans (HT.out.1 2 (by omega)).2
        have z3 := (hB.out.frozen (p := ⟨w.heap.size, 3, none⟩) HT.out.2).trans (HT.out.1 3 (by omega)).2
        have z4 := (hB.out.frozen (p := ⟨w.heap.size, 4, none⟩) HT.out.2).trans (HT.out.1 4 (by omega)).2
        clear k0 k1 k2 k3 k4
        go_wp2
        refine bodyPost_ret (v := .tuple #[.agg #[.int .i64 4, .string (s.extract 0 (n + 1)), .int .u64 0, .int .i64 0, .int .i64 0], .int .i64 0]) (by simp [results, Tryz.results245, go_sem, ha, d0, d1, d2, d3, d4]) rfl ⟨HV.out.symm, ?_⟩
        exact Below.alloc (a := w) (B := w.heap.size) (((((HBw.out.setCell (Nat.le_refl _) _).setCell (Nat.le_refl _) _).setCell (Nat.le_refl _) _).setCell (Nat.le_refl _) _).setCell (Nat.le_refl _) _) (by simp [World.setCell]; omega) _
end Go.Proofs.YtchbnkepmeelkaaGreatDoor.Lx
/- The token that a word is. -/
namespace Go.Proofs.YtchbnkepmeelkaaGreatDoor.Lx
open Go.RowKit

/-- a word's error, kind, number -/
def wordE (l : List UInt8) : Nat :=
  if isDig (l.headD 0) then numE l else if isLet (l.headD 0) then (if ownB l then 0 else if 16 < l.length then 8 else 0) else 15
def wordK (l : List UInt8) : Nat := if wordE l = 0 then (if isDig (l.headD 0) then 3 else if ownB l then 2 else 1) else 0
def wordX (l : List UInt8) : Nat := if isDig (l.headD 0) then numV l else 0
def wordT (l : List UInt8) : List UInt8 := if wordE l = 0 then l else []
def wordV (s : ByteArray) : Ending := .returned (.tuple #[tokV (wordK s.data.toList) (str (wordT s.data.toList)) (wordX s.data.toList) 0 0, .int .i64 (wordE s.data.toList)])

theorem word_of {s : ByteArray} {k x e : Nat} {t : ByteArray} (h1 : wordK s.data.toList = k) (h2 : wordX s.data.toList = x) (h3 : wordE s.data.toList = e) (h4 : str (wordT s.data.toList) = t) :
    wordV s = .returned (.tuple #[.agg #[.int .i64 k, .string t, .int .u64 x, .int .i64 0, .int .i64 0], .int .i64 e]) := by rw [wordV, h1, h2, h3, h4]; rfl
theorem str_eta (s : ByteArray) : str s.data.toList = s := bytes_ext rfl
theorem word_num {s : ByteArray} (h0 : isDig (s.data.toList.headD 0) = true) (h1 : numE s.data.toList = 0) : wordV s = .returned (.tuple #[.agg #[.int .i64 3, .string s, .int .u64 (numV s.data.toList), .int .i64 0, .int .i64 0], .int .i64 0]) := by
  have e : wordE s.data.toList = 0 := by rw [wordE, if_pos h0, h1]
  exact word_of (by rw [wordK, if_pos e, if_pos h0]) (by rw [wordX, if_pos h0]) e (by rw [wordT, if_pos e, str_eta])
theorem word_bad {s : ByteArray} (h0 : isDig (s.data.toList.headD 0) = true) (h1 : numE s.data.toList = 15) (h2 : numV s.data.toList = 0) : wordV s = .returned (.tuple #[.agg #[.int .i64 0, .string ⟨#[]⟩, .int .u64 0, .int .i64 0, .int .i64 0], .int .i64 15]) := by
  have e : wordE s.data.toList = 15 := by rw [wordE, if_pos h0, h1]
  exact word_of (k := 0) (x := 0) (by rw [wordK, if_neg (by omega)]) (by rw [wordX, if_pos h0, h2]) e (by rw [wordT, if_neg (by omega)]; rfl)
theorem word_none {s : ByteArray} (h0 : isDig (s.data.toList.headD 0) = false) (h1 : isLet (s.data.toList.headD 0) = false) : wordV s = .returned (.tuple #[.agg #[.int .i64 0, .string ⟨#[]⟩, .int .u64 0, .int .i64 0, .int .i64 0], .int .i64 15]) := by
  have e : wordE s.data.toList = 15 := by rw [wordE, h0, h1]; rfl
  exact word_of (k := 0) (x := 0) (by rw [wordK, if_neg (by omega)]) (by rw [wordX, h0]; rfl) e (by rw [wordT, if_neg (by omega)]; rfl)
theorem word_own {s : ByteArray} (h0 : isDig (s.data.toList.headD 0) = false) (h1 : isLet (s.data.toList.headD 0) = true) (h2 : ownB s.data.toList = true) : wordV s = .returned (.tuple #[.agg #[.int .i64 2, .string s, .int .u64 0, .int .i64 0, .int .i64 0], .int .i64 0]) := by
  have e : wordE s.data.toList = 0 := by rw [wordE, h0, h1, h2]; rfl
  exact word_of (k := 2) (x := 0) (by rw [wordK, if_pos e, h0, h2]; rfl) (by rw [wordX, h0]; rfl) e (by rw [wordT, if_pos e, str_eta])
theorem word_long {s : ByteArray} (h0 : isDig (s.data.toList.headD 0) = false) (h1 : isLet (s.data.toList.headD 0) = true) (h2 : ownB s.data.toList = false) (h3 : 16 < s.data.toList.length) : wordV s = .returned (.tuple #[.agg #[.int .i64 0, .string ⟨#[]⟩, .int .u64 0, .int .i64 0, .int .i64 0], .int .i64 8]) := by
  have e : wordE s.data.toList = 8 := by rw [wordE, h0, h1, h2, if_pos h3]; rfl
  exact word_of (k := 0) (x := 0) (by rw [wordK, if_neg (by omega)]) (by rw [wordX, h0]; rfl) e (by rw [wordT, if_neg (by omega)]; rfl)
theorem word_name {s : ByteArray} (h0 : isDig (s.data.toList.headD 0) = false) (h1 : isLet (s.data.toList.headD 0) = true) (h2 : ownB s.data.toList = false) (h3 : ¬ 16 < s.data.toList.length) : wordV s = .returned (.tuple #[.agg #[.int .i64 1, .string s, .int .u64 0, .int .i64 0, .int .i64 0], .int .i64 0]) := by
  have e : wordE s.data.toList = 0 := by rw [wordE, h0, h1, h2, if_neg h3]; rfl
  exact word_of (k := 1) (x := 0) (by rw [wordK, if_pos e, h0, h2]; rfl) (by rw [wordX, h0]; rfl) e (by rw [wordT, if_pos e, str_eta])

set_option maxRecDepth 100000 in
set_option maxHeartbeats 3200000 in
theorem wordToken_any (s : ByteArray) (w : World) (hpos : 0 < s.size) (hs : s.size ≤ 281474976710656) (hG : Glob w) :
    Calls Tryz.prog 244 #[.string s] w fun e w' => e = wordV s ∧ Below w.heap.size w w' := by
  have hlen : 0 < s.data.toList.length := by rw [← size_len]; exact hpos
  have hhd : s.data.toList.headD 0 = s[0]'hpos := head_get _ hlen
  have HH := Lib.hid hhd
  have HL := Lib.hid (fun w => let_any (s[0]'hpos) w)
  have HD := Lib.hid (fun w => dig_any (s[0]'hpos) w)
  have HO := Lib.hid (fun w => own_any s w)
  have HG := Lib.hid hG
  have HNu := Lib.hid (fun w h => number_any s w hs h)
  clear hlen hhd hG
  cases hd : isDig (s[0]'hpos)
  · rw [hd] at HD
    cases hl : isLet (s[0]'hpos)
    · rw [hl] at HL
      have HV := Lib.hid (word_none (by rw [HH.out]; exact hd) (by rw [HH.out]; exact hl))
      clear hd hl
      go_enter Tryz.func244, Tryz.ntmps244
      go_wp2_with fail
      refine (HD.out _).mono ?_
      rintro e w' ⟨rfl, rfl⟩
      go_wp2_with fail
      refine (HL.out _).mono ?_
      rintro e w' ⟨rfl, rfl⟩
      go_wp2_with fail
      refine bodyPost_ret (v := .tuple #[.agg #[.int .i64 0, .string ⟨#[]⟩, .int .u64 0, .int .i64 0, .int .i64 0], .int .i64 15]) (by simp [results, Tryz.results244, go_sem]) rfl ⟨HV.out.symm, ?_⟩
      exact (Below.refl _ _).alloc (Nat.le_refl _) _
    · rw [hl] at HL
      cases ho : ownB s.data.toList
      · rw [ho] at HO
        by_cases h16 : 16 < s.size
        · have HV := Lib.hid (word_long (by rw [HH.out]; exact hd) (by rw [HH.out]; exact hl) ho (by rw [← size_len]; exact h16))
          clear hd hl ho
          go_enter Tryz.func244, Tryz.ntmps244
          go_wp2_with fail
          refine (HD.out _).mono ?_
          rintro e w' ⟨rfl, rfl⟩
          go_wp2_with fail
          refine (HL.out _).mono ?_
          rintro e w' ⟨rfl, rfl⟩
          go_wp2_with fail
          refine (HO.out _).mono ?_
          rintro e w' ⟨rfl, rfl⟩
          go_wp2_with fail
          refine bodyPost_ret (v := .tuple #[.agg #[.int .i64 0, .string ⟨#[]⟩, .int .u64 0, .int .i64 0, .int .i64 0], .int .i64 8]) (by simp [results, Tryz.results244, go_sem]) rfl ⟨HV.out.symm, ?_⟩
          exact (Below.refl _ _).alloc (Nat.le_refl _) _
        · have HV := Lib.hid (word_name (by rw [HH.out]; exact hd) (by rw [HH.out]; exact hl) ho (by rw [← size_len]; exact h16))
          clear hd hl ho
          go_enter Tryz.func244, Tryz.ntmps244
          go_wp2_with fail
          refine (HD.out _).mono ?_
          rintro e w' ⟨rfl, rfl⟩
          go_wp2_with fail
          refine (HL.out _).mono ?_
          rintro e w' ⟨rfl, rfl⟩
          go_wp2_with fail
          refine (HO.out _).mono ?_
          rintro e w' ⟨rfl, rfl⟩
          go_wp2_with fail
          refine bodyPost_ret (v := .tuple #[.agg #[.int .i64 1, .string s, .int .u64 0, .int .i64 0, .int .i64 0], .int .i64 0]) (by simp [results, Tryz.results244, go_sem]) rfl ⟨HV.out.symm, ?_⟩
          exact (Below.refl _ _).alloc (Nat.le_refl _) _
      · rw [ho] at HO
        have HV := Lib.hid (word_own (by rw [HH.out]; exact hd) (by rw [HH.out]; exact hl) ho)
        clear hd hl ho
        go_enter Tryz.func244, Tryz.ntmps244
        go_wp2_with fail
        refine (HD.out _).mono ?_
        rintro e w' ⟨rfl, rfl⟩
        go_wp2_with fail
        refine (HL.out _).mono ?_
        rintro e w' ⟨rfl, rfl⟩
        go_wp2_with fail
        refine (HO.out _).mono ?_
        rintro e w' ⟨rfl, rfl⟩
        go_wp2_with fail
        refine bodyPost_ret (v := .tuple #[.agg #[.int .i64 2, .string s, .int .u64 0, .int .i64 0, .int .i64 0], .int .i64 0]) (by simp [results, Tryz.results244, go_sem]) rfl ⟨HV.out.symm, ?_⟩
        exact (Below.refl _ _).alloc (Nat.le_refl _) _
  · rw [hd] at HD
    cases hn : numB s.data.toList
    · have HV := Lib.hid (word_bad (by rw [HH.out]; exact hd) (by simp [numE, hn]) (by simp [numV, hn]))
      have he : (numE s.data.toList : Int) = 15 := numE_no hn
      have hv : (numV s.data.toList : Int) = 0 := numV_no hn
      rw [he, hv] at HNu
      clear hd hn he hv
      go_enter Tryz.func244, Tryz.ntmps244
      go_wp2_with fail
      refine (HD.out _).mono ?_
      rintro e w' ⟨rfl, rfl⟩
      go_wp2_with fail
      refine (HNu.out _ (HG.out.later (by have := HG.out.2.2.2; omega) ((Below.refl _ _).alloc (Nat.le_refl _) _))).mono ?_
      rintro e w1 ⟨rfl, hB1⟩
      have d0 : w1.cell? ⟨w.heap.size, 0, none⟩ = some (.int .i64 0) := (hB1.cell (p := ⟨w.heap.size, 0, none⟩) (by simp)).trans (by simp [go_sem])
      have d1 : w1.cell? ⟨w.heap.size, 1, none⟩ = some (.string ⟨#[]⟩) := (hB1.cell (p := ⟨w.heap.size, 1, none⟩) (by simp)).trans (by simp [go_sem])
      have d2 : w1.cell? ⟨w.heap.size, 2, none⟩ = some (.int .u64 0) := (hB1.cell (p := ⟨w.heap.size, 2, none⟩) (by simp)).trans (by simp [go_sem])
      have d3 : w1.cell? ⟨w.heap.size, 3, none⟩ = some (.int .i64 0) := (hB1.cell (p := ⟨w.heap.size, 3, none⟩) (by simp)).trans (by simp [go_sem])
      have d4 : w1.cell? ⟨w.heap.size, 4, none⟩ = some (.int .i64 0) := (hB1.cell (p := ⟨w.heap.size, 4, none⟩) (by simp)).trans (by simp [go_sem])
      have z0 : w1.frozen? ⟨w.heap.size, 0, none⟩ = false := (hB1.frozen (p := ⟨w.heap.size, 0, none⟩) (by simp)).trans (by simp [go_sem])
      have z1 : w1.frozen? ⟨w.heap.size, 1, none⟩ = false := (hB1.frozen (p := ⟨w.heap.size, 1, none⟩) (by simp)).trans (by simp [go_sem])
      have z2 : w1.frozen? ⟨w.heap.size, 2, none⟩ = false := (hB1.frozen (p := ⟨w.heap.size, 2, none⟩) (by simp)).trans (by simp [go_sem])
      have z3 : w1.frozen? ⟨w.heap.size, 3, none⟩ = false := (hB1.frozen (p := ⟨w.heap.size, 3, none⟩) (by simp)).trans (by simp [go_sem])
      have z4 : w1.frozen? ⟨w.heap.size, 4, none⟩ = false := (hB1.frozen (p := ⟨w.heap.size, 4, none⟩) (by simp)).trans (by simp [go_sem])
      have HB := Lib.hid (((Below.refl _ w).alloc (Nat.le_refl _) _).trans (hB1.mono (by simp)))
      clear hB1
      go_wp2_with fail
      refine bodyPost_ret (v := .tuple #[.agg #[.int .i64 0, .string ⟨#[]⟩, .int .u64 0, .int .i64 0, .int .i64 0], .int .i64 15]) (by simp [results, Tryz.results244, go_sem, d0, d1, d2, d3, d4]) rfl ⟨HV.out.symm, ?_⟩
      exact ((((HB.out.setCell (Nat.le_refl _) _).setCell (Nat.le_refl _) _).setCell (Nat.le_refl _) _).setCell (Nat.le_refl _) _).setCell (Nat.le_refl _) _
    · have HV := Lib.hid (word_num (s := s) (by rw [HH.out]; exact hd) (by simp [numE, hn]))
      have he : (numE s.data.toList : Int) = 0 := numE_yes hn
      rw [he] at HNu
      clear hd hn he
      go_enter Tryz.func244, Tryz.ntmps244
      go_wp2_with fail
      refine (HD.out _).mono ?_
      rintro e w' ⟨rfl, rfl⟩
      go_wp2_with fail
      refine (HNu.out _ (HG.out.later (by have := HG.out.2.2.2; omega) ((Below.refl _ _).alloc (Nat.le_refl _) _))).mono ?_
      rintro e w1 ⟨rfl, hB1⟩
      have d0 : w1.cell? ⟨w.heap.size, 0, none⟩ = some (.int .i64 0) := (hB1.cell (p := ⟨w.heap.size, 0, none⟩) (by simp)).trans (by simp [go_sem])
      have d1 : w1.cell? ⟨w.heap.size, 1, none⟩ = some (.string ⟨#[]⟩) := (hB1.cell (p := ⟨w.heap.size, 1, none⟩) (by simp)).trans (by simp [go_sem])
      have d2 : w1.cell? ⟨w.heap.size, 2, none⟩ = some (.int .u64 0) := (hB1.cell (p := ⟨w.heap.size, 2, none⟩) (by simp)).trans (by simp [go_sem])
      have d3 : w1.cell? ⟨w.heap.size, 3, none⟩ = some (.int .i64 0) := (hB1.cell (p := ⟨w.heap.size, 3, none⟩) (by simp)).trans (by simp [go_sem])
      have d4 : w1.cell? ⟨w.heap.size, 4, none⟩ = some (.int .i64 0) := (hB1.cell (p := ⟨w.heap.size, 4, none⟩) (by simp)).trans (by simp [go_sem])
      have z0 : w1.frozen? ⟨w.heap.size, 0, none⟩ = false := (hB1.frozen (p := ⟨w.heap.size, 0, none⟩) (by simp)).trans (by simp [go_sem])
      have z1 : w1.frozen? ⟨w.heap.size, 1, none⟩ = false := (hB1.frozen (p := ⟨w.heap.size, 1, none⟩) (by simp)).trans (by simp [go_sem])
      have z2 : w1.frozen? ⟨w.heap.size, 2, none⟩ = false := (hB1.frozen (p := ⟨w.heap.size, 2, none⟩) (by simp)).trans (by simp [go_sem])
      have z3 : w1.frozen? ⟨w.heap.size, 3, none⟩ = false := (hB1.frozen (p := ⟨w.heap.size, 3, none⟩) (by simp)).trans (by simp [go_sem])
      have z4 : w1.frozen? ⟨w.heap.size, 4, none⟩ = false := (hB1.frozen (p := ⟨w.heap.size, 4, none⟩) (by simp)).trans (by simp [go_sem])
      have HB := Lib.hid (((Below.refl _ w).alloc (Nat.le_refl _) _).trans (hB1.mono (by simp)))
      clear hB1
      go_wp2_with fail
      refine bodyPost_ret (v := .tuple #[.agg #[.int .i64 3, .string s, .int .u64 (numV s.data.toList), .int .i64 0, .int .i64 0], .int .i64 0]) (by simp [results, Tryz.results244, go_sem, d0, d1, d2, d3, d4]) rfl ⟨HV.out.symm, ?_⟩
      exact ((((HB.out.setCell (Nat.le_refl _) _).setCell (Nat.le_refl _) _).setCell (Nat.le_refl _) _).setCell (Nat.le_refl _) _).setCell (Nat.le_refl _) _
end Go.Proofs.YtchbnkepmeelkaaGreatDoor.Lx
