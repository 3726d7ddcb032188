/- B2, DO as one. -/
import Derived.Maps.OwnSet
import Derived.Test.YtchbnkepmeelkaaGreatDoorPA
import Derived.Outline
import Derived.Lib.Strings
import Derived.Maps.RangeRun
/- A map whose keys are ints and whose values are structs of a text, made by a call out of a literal: what a look-up in it comes to. Over any program. -/
namespace Go.Proofs.YtchbnkepmeelkaaGreatDoor
open Go Go.RowKit

/-- Entries at these keys, one function each, in this order. -/
def fes : Nat → List (Int × List UInt8) → List MapEntry
  | _, [] => []
  | i, x :: r => { key := .int .i64 x.1, val := .agg #[.string (str x.2)], born := i } :: fes (i + 1) r
/-- The function at a key. -/
def fat : List (Int × List UInt8) → Int → Option (List UInt8)
  | [], _ => none
  | p :: r, x => if x = p.1 then some p.2 else fat r x
/-- The map's block. -/
def fmap (l : List (Int × List UInt8)) : Obj := .map (fes 0 l).toArray l.length

theorem fes_append (i : Nat) (l : List (Int × List UInt8)) (x : Int × List UInt8) : fes i (l ++ [x]) = fes i l ++ [{ key := .int .i64 x.1, val := .agg #[.string (str x.2)], born := i + l.length }] := by
  induction l generalizing i with
  | nil => simp [fes]
  | cons y r ih => simp [fes, ih, Nat.add_comm, Nat.add_left_comm]

theorem find_fes (l : List (Int × List UInt8)) (x : Int) (i j : Nat) : ∃ n, Instr.findNow (.int .i64) (.int .i64 x) (fes i l) j = some ((fat l x).map fun f => (n, .agg #[.string (str f)])) := by
  induction l generalizing i j with
  | nil => exact ⟨0, rfl⟩
  | cons y r ih =>
    by_cases h : x = y.1
    · refine ⟨j, ?_⟩
      simp [fes, Instr.findNow, Instr.sameNow, fat, h]
    · obtain ⟨n, hn⟩ := ih (i + 1) (j + 1)
      refine ⟨n, ?_⟩
      have hb : (x == y.1) = false := by simpa using h
      simp [fes, Instr.findNow, Instr.sameNow, fat, h, hb, hn]

theorem set_push_last {α : Type} (a : Array α) (x y : α) : (a.push x).setIfInBounds a.size y = a.push y := by
  obtain ⟨l⟩ := a
  simp

section
variable {P : Program} {t k e : TypeId}
/-- a literal's next entry -/
theorem run_put_fmap (ht : P.underlying t = some (.map k e)) (hk : P.underlying k = some (.int .i64)) (l : List (Int × List UInt8)) (w : World) (x : Int) (f : List UInt8) (hx : fat l x = none) :
    (Instr.mapUpdate t (.map (some w.heap.size)) (.int .i64 x) (.agg #[.string (str f)])).run P (w.alloc (fmap l)) = .ok () (w.alloc (fmap (l ++ [(x, f)]))) := by
  obtain ⟨n, hn⟩ := find_fes l x 0 0
  have hb : (w.alloc (fmap l)).heap[w.heap.size]? = some (.map (fes 0 l).toArray l.length) := (MapKept.heap_alloc w _).1
  have hf := MapKept.run_findKey (P := P) (w := w.alloc (fmap l)) hk hn
  simp [hx] at hf
  have e1 : ({ w.alloc (fmap l) with heap := (w.alloc (fmap l)).heap.setIfInBounds w.heap.size (fmap (l ++ [(x, f)])) } : World) = w.alloc (fmap (l ++ [(x, f)])) := by
    show ({ w with heap := (w.heap.push (fmap l)).setIfInBounds w.heap.size (fmap (l ++ [(x, f)])) } : World) = { w with heap := w.heap.push (fmap (l ++ [(x, f)])) }
    rw [set_push_last]
  simp [Instr.mapUpdate, run_underlying ht, MapKept.run_getObj_map hb, MapKept.run_checkKey hk (k := .int .i64 x) rfl, hf, MapKept.run_setObj_map _ hb, Result.andThen]
  rw [← e1]
  simp [fmap, fes_append]
end
/-- .. as a table's first n entries -/
def ft (T : List (Int × List UInt8)) (n : Nat) : Obj := fmap (T.take n)
theorem run_put_ft {P : Program} {t k e : TypeId} (ht : P.underlying t = some (.map k e)) (hk : P.underlying k = some (.int .i64)) (T : List (Int × List UInt8)) (n : Nat) (x : Int) (f : List UInt8) (hT : T[n]? = some (x, f)) (hx : fat (T.take n) x = none) (w : World) :
    (Instr.mapUpdate t (.map (some w.heap.size)) (.int .i64 x) (.agg #[.string (str f)])).run P (w.alloc (ft T n)) = .ok () (w.alloc (ft T (n + 1))) := by
  have h := run_put_fmap ht hk (T.take n) w x f hx
  have e1 : T.take (n + 1) = T.take n ++ [(x, f)] := by rw [List.take_add_one, hT]; rfl
  rw [← e1] at h
  exact h
/-- What a call hands back that makes such a map: it lies in a new block. -/
def MapAt (T : List (Int × List UInt8)) (w : World) (e : Ending) (w' : World) : Prop := ∃ b, e = .returned (.map (some b)) ∧ w'.heap[b]? = some (fmap T) ∧ w.heap.size ≤ b ∧ Below w.heap.size w w'
theorem mapAt_new (T : List (Int × List UInt8)) (n : Nat) (hn : n = T.length) (w : World) : MapAt T w (.returned (.map (some w.heap.size))) (w.alloc (ft T n)) := by
  refine ⟨_, rfl, ?_, Nat.le_refl _, (Below.refl _ _).alloc (Nat.le_refl _) _⟩
  rw [(MapKept.heap_alloc w _).1, ft, hn, List.take_length]
/-- the signs -/
def signT : List (Int × List UInt8) := [(6, [43]), (7, [45]), (8, [42]), (9, [38]), (10, [124]), (11, [94]), (12, [60, 60]), (13, [62, 62]), (14, [62, 62, 62]), (15, [60, 60, 60]), (16, [62, 62, 62, 62]), (17, [61, 61]), (18, [33, 61]), (19, [60]), (20, [60, 61])]
/-- What a call hands back that makes the map: it lies in a new block. -/
def SMapAt (w : World) (e : Ending) (w' : World) : Prop := ∃ b, e = .returned (.map (some b)) ∧ w'.heap[b]? = some (fmap signT) ∧ w.heap.size ≤ b ∧ Below w.heap.size w w'
theorem smapAt_new (w : World) : SMapAt w (.returned (.map (some w.heap.size))) (w.alloc (ft signT 15)) := by
  refine ⟨_, rfl, ?_, Nat.le_refl _, (Below.refl _ _).alloc (Nat.le_refl _) _⟩
  rw [(MapKept.heap_alloc w _).1, ft, List.take_of_length_le (by decide)]
set_option maxRecDepth 100000 in
set_option maxHeartbeats 3200000 in
theorem signs_any (w : World) : Calls Tryz.prog 129 #[] w (SMapAt w) := by
  have hmm := @run_makeMap Tryz.prog
  have i0 : ∀ wx : World, (Instr.mapUpdate 133 (.map (some wx.heap.size)) (.int .i64 6) (.agg #[.string ⟨#[43]⟩])).run Tryz.prog (wx.alloc (.map #[] 0)) = .ok () (wx.alloc (ft signT 1)) := fun wx => run_put_ft Tryz.underlying133 Tryz.underlying35 signT 0 6 [43] rfl rfl wx
  have i1 : ∀ wx : World, (Instr.mapUpdate 133 (.map (some wx.heap.size)) (.int .i64 7) (.agg #[.string ⟨#[45]⟩])).run Tryz.prog (wx.alloc (ft signT 1)) = .ok () (wx.alloc (ft signT 2)) := fun wx => run_put_ft Tryz.underlying133 Tryz.underlying35 signT 1 7 [45] rfl rfl wx
  have i2 : ∀ wx : World, (Instr.mapUpdate 133 (.map (some wx.heap.size)) (.int .i64 8) (.agg #[.string ⟨#[42]⟩])).run Tryz.prog (wx.alloc (ft signT 2)) = .ok () (wx.alloc (ft signT 3)) := fun wx => run_put_ft Tryz.underlying133 Tryz.underlying35 signT 2 8 [42] rfl rfl wx
  have i3 : ∀ wx : World, (Instr.mapUpdate 133 (.map (some wx.heap.size)) (.int .i64 9) (.agg #[.string ⟨#[38]⟩])).run Tryz.prog (wx.alloc (ft signT 3)) = .ok () (wx.alloc (ft signT 4)) := fun wx => run_put_ft Tryz.underlying133 Tryz.underlying35 signT 3 9 [38] rfl rfl wx
  have i4 : ∀ wx : World, (Instr.mapUpdate 133 (.map (some wx.heap.size)) (.int .i64 10) (.agg #[.string ⟨#[124]⟩])).run Tryz.prog (wx.alloc (ft signT 4)) = .ok () (wx.alloc (ft signT 5)) := fun wx => run_put_ft Tryz.underlying133 Tryz.underlying35 signT 4 10 [124] rfl rfl wx
  have i5 : ∀ wx : World, (Instr.mapUpdate 133 (.map (some wx.heap.size)) (.int .i64 11) (.agg #[.string ⟨#[94]⟩])).run Tryz.prog (wx.alloc (ft signT 5)) = .ok () (wx.alloc (ft signT 6)) := fun wx => run_put_ft Tryz.underlying133 Tryz.underlying35 signT 5 11 [94] rfl rfl wx
  have i6 : ∀ wx : World, (Instr.mapUpdate 133 (.map (some wx.heap.size)) (.int .i64 12) (.agg #[.string ⟨#[60, 60]⟩])).run Tryz.prog (wx.alloc (ft signT 6)) = .ok () (wx.alloc (ft signT 7)) := fun wx => run_put_ft Tryz.underlying133 Tryz.underlying35 signT 6 12 [60, 60] rfl rfl wx
  have i7 : ∀ wx : World, (Instr.mapUpdate 133 (.map (some wx.heap.size)) (.int .i64 13) (.agg #[.string ⟨#[62, 62]⟩])).run Tryz.prog (wx.alloc (ft signT 7)) = .ok () (wx.alloc (ft signT 8)) := fun wx => run_put_ft Tryz.underlying133 Tryz.underlying35 signT 7 13 [62, 62] rfl rfl wx
  have i8 : ∀ wx : World, (Instr.mapUpdate 133 (.map (some wx.heap.size)) (.int .i64 14) (.agg #[.string ⟨#[62, 62, 62]⟩])).run Tryz.prog (wx.alloc (ft signT 8)) = .ok () (wx.alloc (ft signT 9)) := fun wx => run_put_ft Tryz.underlying133 Tryz.underlying35 signT 8 14 [62, 62, 62] rfl rfl wx
  have i9 : ∀ wx : World, (Instr.mapUpdate 133 (.map (some wx.heap.size)) (.int .i64 15) (.agg #[.string ⟨#[60, 60, 60]⟩])).run Tryz.prog (wx.alloc (ft signT 9)) = .ok () (wx.alloc (ft signT 10)) := fun wx => run_put_ft Tryz.underlying133 Tryz.underlying35 signT 9 15 [60, 60, 60] rfl rfl wx
  have i10 : ∀ wx : World, (Instr.mapUpdate 133 (.map (some wx.heap.size)) (.int .i64 16) (.agg #[.string ⟨#[62, 62, 62, 62]⟩])).run Tryz.prog (wx.alloc (ft signT 10)) = .ok () (wx.alloc (ft signT 11)) := fun wx => run_put_ft Tryz.underlying133 Tryz.underlying35 signT 10 16 [62, 62, 62, 62] rfl rfl wx
  have i11 : ∀ wx : World, (Instr.mapUpdate 133 (.map (some wx.heap.size)) (.int .i64 17) (.agg #[.string ⟨#[61, 61]⟩])).run Tryz.prog (wx.alloc (ft signT 11)) = .ok () (wx.alloc (ft signT 12)) := fun wx => run_put_ft Tryz.underlying133 Tryz.underlying35 signT 11 17 [61, 61] rfl rfl wx
  have i12 : ∀ wx : World, (Instr.mapUpdate 133 (.map (some wx.heap.size)) (.int .i64 18) (.agg #[.string ⟨#[33, 61]⟩])).run Tryz.prog (wx.alloc (ft signT 12)) = .ok () (wx.alloc (ft signT 13)) := fun wx => run_put_ft Tryz.underlying133 Tryz.underlying35 signT 12 18 [33, 61] rfl rfl wx
  have i13 : ∀ wx : World, (Instr.mapUpdate 133 (.map (some wx.heap.size)) (.int .i64 19) (.agg #[.string ⟨#[60]⟩])).run Tryz.prog (wx.alloc (ft signT 13)) = .ok () (wx.alloc (ft signT 14)) := fun wx => run_put_ft Tryz.underlying133 Tryz.underlying35 signT 13 19 [60] rfl rfl wx
  have i14 : ∀ wx : World, (Instr.mapUpdate 133 (.map (some wx.heap.size)) (.int .i64 20) (.agg #[.string ⟨#[60, 61]⟩])).run Tryz.prog (wx.alloc (ft signT 14)) = .ok () (wx.alloc (ft signT 15)) := fun wx => run_put_ft Tryz.underlying133 Tryz.underlying35 signT 14 20 [60, 61] rfl rfl wx
  go_enter Tryz.func129, Tryz.ntmps129
  go_wp2
  go_ret
  exact smapAt_new w
end Go.Proofs.YtchbnkepmeelkaaGreatDoor
/- Op: the operation of a sign: a range over a map, in whatever order. -/
namespace Go.Proofs.YtchbnkepmeelkaaGreatDoor
open Go.RowKit
open Go.ChangeMaps (setBlock)

theorem fes_mem : ∀ (i : Nat) (l : List (Int × List UInt8)) (e : MapEntry), e ∈ fes i l → ∃ x ∈ l, e.key = .int .i64 x.1 ∧ e.val = .agg #[.string (str x.2)]
  | _, [], e, h => by simp [fes] at h
  | i, x :: l, e, h => by
    simp only [fes, List.mem_cons] at h
    rcases h with rfl | h
    · exact ⟨x, List.mem_cons_self .., rfl, rfl⟩
    · obtain ⟨y, hy, h1, h2⟩ := fes_mem (i + 1) l e h
      exact ⟨y, List.mem_cons_of_mem _ hy, h1, h2⟩
theorem mem_fes : ∀ (i : Nat) (l : List (Int × List UInt8)) (x : Int × List UInt8), x ∈ l → ∃ e ∈ fes i l, e.val = .agg #[.string (str x.2)]
  | _, [], x, h => by simp at h
  | i, y :: l, x, h => by
    rcases List.mem_cons.1 h with rfl | h
    · exact ⟨_, by simp only [fes]; exact List.mem_cons_self .., rfl⟩
    · obtain ⟨e, he, hv⟩ := mem_fes (i + 1) l x h
      exact ⟨e, by simp only [fes]; exact List.mem_cons_of_mem _ he, hv⟩
def esT : Array MapEntry := (fes 0 signT).toArray
theorem es_born : esT.toList.map (·.born) = List.range 15 := rfl
theorem es_nodup : (esT.toList.map (·.born)).Nodup := by rw [es_born]; exact List.nodup_range
theorem es_old : ∀ x ∈ esT.toList, x.born < 15 := fun x hx => by
  have : x.born ∈ esT.toList.map (·.born) := List.mem_map.2 ⟨x, hx, rfl⟩
  rw [es_born] at this
  exact List.mem_range.1 this
/-- the operation of a sign, and whether it is one -/
def opAt (s : List UInt8) : Option Int := (signT.find? fun x => x.2 == s).map (·.1)
def opV (s : List UInt8) : Int := (opAt s).getD 0
theorem text_once : ∀ x ∈ signT, ∀ y ∈ signT, x.2 = y.2 → x.1 = y.1 := by decide
theorem opAt_some {s : List UInt8} {x : Int × List UInt8} (hx : x ∈ signT) (h : x.2 = s) : opAt s = some x.1 := by
  unfold opAt
  cases hf : signT.find? (fun x => x.2 == s) with
  | none =>
    have := List.find?_eq_none.1 hf x hx
    simp [h] at this
  | some y =>
    have h1 := List.find?_some hf
    have h2 := List.mem_of_find?_eq_some hf
    simp at h1
    rw [Option.map_some, text_once y h2 x hx (by rw [h1, h])]
theorem opAt_none {s : List UInt8} (h : ∀ x ∈ signT, x.2 ≠ s) : opAt s = none := by
  unfold opAt
  rw [List.find?_eq_none.2 (fun x hx => by simpa using h x hx)]
  rfl
theorem str_inj {a b : List UInt8} (h : str a = str b) : a = b := by rw [← str_data a, h, str_data]
theorem below_setBlock {B : Nat} {A W : World} (h : Below B A W) {r : Nat} (hr : B ≤ r) (o : Obj) : Below B A (setBlock W r o) :=
  h.trans ⟨rfl, rfl, rfl, by simp [setBlock], fun k hk => by simp only [setBlock]; exact Array.getElem?_setIfInBounds_ne (by omega)⟩
theorem setBlock_same {W : World} {r : Nat} (hr : r < W.heap.size) (o : Obj) : (setBlock W r o).heap[r]? = some o := by simp [setBlock, hr]
theorem setBlock_other {W : World} {r k : Nat} (hk : k ≠ r) (o : Obj) : (setBlock W r o).heap[k]? = W.heap[k]? := by simp only [setBlock]; exact Array.getElem?_setIfInBounds_ne (Ne.symm hk)
/-- the range stands so -/
structure RI (w : World) (s : List UInt8) (m r : Nat) (seen : Array Nat) (W : World) : Prop where
  it : W.heap[r]? = some (.mapIter (some m) 15 seen 15)
  mp : W.heap[m]? = some (.map esT 15)
  no : ∀ e ∈ esT.toList, seen.contains e.born = true → e.val ≠ .agg #[.string (str s)]
  bw : Below w.heap.size w W

set_option maxRecDepth 100000 in
set_option maxHeartbeats 3200000 in
theorem op_sign (s : List UInt8) (w : World) : Calls Tryz.prog 250 #[.string (str s)] w fun e w' => e = .returned (.tuple #[.int .i64 (opV s), .bool (opAt s).isSome]) ∧ Below w.heap.size w w' := by
  have HY := Lib.hid (fun (x : Int × List UInt8) (hx : x ∈ signT) (h : x.2 = s) => show (opV s = x.1 ∧ (opAt s).isSome = true) by unfold opV; rw [opAt_some hx h]; exact ⟨rfl, rfl⟩)
  have HN := Lib.hid (fun (h : ∀ x ∈ signT, x.2 ≠ s) => show (opV s = 0 ∧ (opAt s).isSome = false) by unfold opV; rw [opAt_none h]; exact ⟨rfl, rfl⟩)
  generalize opV s = ov at HY HN ⊢
  generalize (opAt s).isSome = ob at HY HN ⊢
  go_enter Tryz.func250, Tryz.ntmps250
  go_wp2_with fail
  refine (signs_any _).mono ?_
  rintro e w2 ⟨m, rfl, hm, hmb, hB⟩
  have hrg := run_range_map (P := Tryz.prog) w2 133 35 226 m esT 15 Tryz.underlying133 hm
  have hml := lt_of_block hm
  have HR : Hid (RI w s m w2.heap.size #[] (w2.alloc (.mapIter (some m) 15 #[] 15))) := Lib.hid
    ⟨heap_alloc_new w2 _, (Below.heap_alloc _ _ _ hml).trans hm, fun e _ h => by simp at h, hB.alloc hB.size _⟩
  have HS := Lib.hid (And.intro hml hB.size)
  clear hm hmb hB hml
  go_wp2_with fail
  generalize w2.alloc (.mapIter (some m) 15 #[] 15) = w3 at HR ⊢
  clear hrg
  generalize w2.heap.size = r at HR HS ⊢
  go_loopw [] (fun wr => ∃ seen, Hid (RI w s m r seen wr)) (fun wr => (leftOf esT (wr.iterSeen r)).size)
  case atStart => exact ⟨#[], HR⟩
  case round =>
    obtain ⟨seen, hI⟩ := hrel
    have hlr := lt_of_block hI.out.it
    have law := run_next_at (P := Tryz.prog) wr 0 r m 15 15 seen esT 15 hI.out.it hI.out.mp es_old (Nat.le_refl _)
    rcases law with ⟨h0, hrun⟩ | ⟨e, he, w4, hw4, hrun⟩
    · have hnx : ∀ ty, (Instr.next (.pointer (some ⟨r, 0, none⟩)) false ty).run Tryz.prog wr = _ := fun _ => hrun
      have HA := Lib.hid (all_seen esT seen h0)
      clear hrun h0
      go_wp2_with fail
      have hf := HN.out (fun x hx h => by
        obtain ⟨e, he, hv⟩ := mem_fes 0 signT x hx
        exact hI.out.no e he (HA.out e he) (by rw [hv, h]))
      go_ret2
      exact ⟨by rw [hf.1, hf.2]; rfl, hI.out.bw⟩
    · have hmr : m ≠ r := by have := HS.out; omega
      have hwh : w4.heap = wr.heap := by rcases hw4 with rfl | rfl <;> rfl
      have hw4B : Below wr.heap.size wr w4 := by
        rcases hw4 with rfl | rfl
        · exact Below.refl _ _
        · exact (Below.refl _ _).drew
      have hl4 : r < w4.heap.size := by rw [hwh]; exact hlr
      have hbw : Below w.heap.size w (setBlock w4 r (.mapIter (some m) 15 (seen.push e.born) 15)) := below_setBlock (hI.out.bw.trans (hw4B.mono hI.out.bw.size)) HS.out.2 _
      have hit := setBlock_same hl4 (.mapIter (some m) 15 (seen.push e.born) 15)
      have hmp : (setBlock w4 r (.mapIter (some m) 15 (seen.push e.born) 15)).heap[m]? = some (.map esT 15) := (setBlock_other hmr _).trans (by rw [hwh]; exact hI.out.mp)
      generalize hW5 : setBlock w4 r (.mapIter (some m) 15 (seen.push e.born) 15) = W5 at hrun hbw hit hmp
      obtain ⟨x, hx, hk, hv⟩ := fes_mem 0 signT e (mem_left he).1
      have hen := run_entry_at (P := Tryz.prog) W5 r m 15 seen esT 15 e hit hmp (mem_left he).1 es_nodup
      rw [hk, hv] at hrun hen
      have hnx : ∀ ty, (Instr.next (.pointer (some ⟨r, 0, none⟩)) false ty).run Tryz.prog wr = _ := fun _ => hrun
      have HF := Lib.hid (And.intro hit (And.intro hmp hbw))
      have HE := Lib.hid (And.intro he hv)
      clear hrun hit hmp hbw hW5 hl4 hw4B hwh hw4 hk hv he
      by_cases hxs : x.2 = s
      · have hf := HY.out x hx hxs
        rw [hxs] at hnx hen
        have heq : ((str s).toList == (str s).toList) = true := by simp
        go_wp2_with fail
        go_ret2
        exact ⟨by rw [hf.1, hf.2]; rfl, HF.out.2.2.alloc HF.out.2.2.size _⟩
      · have hne : ¬ str x.2 = str s := fun h => hxs (str_inj h)
        have hneb : ((str x.2).toList == (str s).toList) = false := by rw [Lib.toList_data, Lib.toList_data, str_data, str_data]; simpa using hxs
        go_wp2_with fail
        go_roundw
        case rel =>
          have hlW := lt_of_block HF.out.1
          refine ⟨seen.push e.born, Lib.hid ⟨(Below.heap_alloc _ _ _ hlW).trans HF.out.1, (Below.heap_alloc _ _ _ (lt_of_block HF.out.2.1)).trans HF.out.2.1, fun y hy hc => ?_, HF.out.2.2.alloc HF.out.2.2.size _⟩⟩
          rw [contains_push] at hc
          rcases Bool.or_eq_true _ _ ▸ hc with h1 | h1
          · exact hI.out.no y hy h1
          · have : y = e := born_inj es_nodup hy (mem_left HE.out.1).1 (beq_iff_eq.1 h1)
            subst this
            rw [HE.out.2]
            intro h
            simp at h
            exact hne h
        case measure =>
          have hlW := lt_of_block HF.out.1
          have i1 : wr.iterSeen r = seen := by unfold World.iterSeen; rw [hI.out.it]
          have i2 : ∀ o, (W5.alloc o).iterSeen r = seen.push e.born := fun o => by unfold World.iterSeen; rw [Below.heap_alloc _ _ _ hlW, HF.out.1]
          rw [i1, i2]
          exact left_shrinks esT seen e HE.out.1
end Go.Proofs.YtchbnkepmeelkaaGreatDoor
