/- Tokens' plain text. -/
import Derived.Test.YtgffiggnmklcoaaGreatDoorH1
namespace Go.Proofs.YtgffiggnmklcoaaGreatDoor
open Go.RowKit

/-- a token's five cells, as they lie -/
structure TokAt (w : World) (t : Tk) (b o : Nat) : Prop where
  c0 : w.cell? ⟨b, o, none⟩ = some (.int .i64 t.kind)
  c1 : w.cell? ⟨b, o + 1, none⟩ = some (.string (str t.text))
  c2 : w.cell? ⟨b, o + 2, none⟩ = some (.int .u64 t.word)
  c3 : w.cell? ⟨b, o + 3, none⟩ = some (.int .i64 t.line)
  c4 : w.cell? ⟨b, o + 4, none⟩ = some (.int .i64 t.col)
/-- tokens as a slice at p has them, in a block below N -/
def TksIn (w : World) (N : Nat) (ts : List Tk) (p : Option Addr) : Prop :=
  ts.length = 0 ∨ ∃ b o, p = some ⟨b, o, none⟩ ∧ b < N ∧ ∀ i t, ts[i]? = some t → TokAt w t b (o + i * 5)
theorem TokAt.later {w w' : World} {t : Tk} {b o n : Nat} (h : TokAt w t b o) (hb : b < n) (hB : Below n w w') : TokAt w' t b o :=
  ⟨(hB.cell (p := ⟨b, o, none⟩) hb).trans h.c0, (hB.cell (p := ⟨b, o + 1, none⟩) hb).trans h.c1, (hB.cell (p := ⟨b, o + 2, none⟩) hb).trans h.c2, (hB.cell (p := ⟨b, o + 3, none⟩) hb).trans h.c3, (hB.cell (p := ⟨b, o + 4, none⟩) hb).trans h.c4⟩
theorem TksIn.later {w w' : World} {N n : Nat} {ts : List Tk} {p : Option Addr} (h : TksIn w N ts p) (hN : N ≤ n) (hB : Below n w w') : TksIn w' N ts p := by
  rcases h with h | ⟨b, o, hp, hb, hc⟩
  · exact .inl h
  · exact .inr ⟨b, o, hp, hb, fun i t ht => (hc i t ht).later (Nat.lt_of_lt_of_le hb hN) hB⟩
theorem toksC_get (ts : List Tk) (i : Nat) (t : Tk) (h : ts[i]? = some t) (j : Nat) (hj : j < 5) : (toksC ts)[i * 5 + j]? = (tokC t)[j]? := by
  induction ts generalizing i with
  | nil => cases h
  | cons x r ih =>
    rw [toksC, List.flatMap_cons]
    cases i with
    | zero =>
      simp at h; subst h
      rw [List.getElem?_append_left (by simp [tokC]; omega)]; congr 1; omega
    | succ i =>
      rw [List.getElem?_append_right (by simp [tokC]; omega)]
      have := ih i (by simpa using h)
      rw [toksC] at this
      rw [← this]; congr 1; simp [tokC]; omega
/-- a row that the call has made reads so -/
theorem TokRow.reads {B : Nat} {w : World} {ts : List Tk} {v : Value} (h : TokRow B w ts v) : ∃ p c, v = .slice p ts.length c ∧ ts.length ≤ c ∧ c ≤ 9223372036854775807 ∧ (p = none → c = 0) ∧ TksIn w w.heap.size ts p := by
  obtain ⟨hl, ⟨rfl, h0⟩ | ⟨g, cap, cur, rfl, hg, hh, hn, hcap, hcs, ht⟩⟩ := h
  · exact ⟨none, 0, by rw [h0], by omega, by omega, fun _ => rfl, .inl h0⟩
  · refine ⟨_, _, rfl, hn, hcap, fun e => (by cases e), .inr ⟨g, 0, rfl, lt_of_block hh, fun i t hit => ?_⟩⟩
    have hi : i < ts.length := (List.getElem?_eq_some_iff.1 hit).1
    have key : ∀ j, j < 5 → w.cell? ⟨g, i * 5 + j, none⟩ = (tokC t)[j]? := fun j hj => by
      have h1 := toksC_get ts i t hit j hj
      rw [← ht, List.getElem?_take_of_lt (by omega), Array.getElem?_toList] at h1
      rw [← h1]
      simp [World.cell?, hh]
    have z : 0 + i * 5 = i * 5 := Nat.zero_add _
    exact ⟨by rw [z]; exact key 0 (by omega), by rw [z]; exact key 1 (by omega), by rw [z]; exact key 2 (by omega), by rw [z]; exact key 3 (by omega), by rw [z]; exact key 4 (by omega)⟩

theorem info_str : (Tryz.prog.info? 9).map (fun i => (i.zero, i.size, i.bytes)) = some (some (.string ⟨#[]⟩), 1, 16) := by kernel_rfl
theorem make_strs (n : Nat) (hn : n ≤ 1000000) : ∃ Z : Array Value, (∀ w : World, (Instr.makeSlice 56 (.int .i64 n) (.int .i64 n)).run Tryz.prog w = .ok (.slice (some ⟨w.heap.size, 0, none⟩) n n) (w.alloc (.cells Z 9 (0, 0)))) ∧ ∀ j, j < n → Z[j]? = some (.string ⟨#[]⟩) := by
  obtain ⟨i0, hi, hz0, hz1, hz2⟩ := info_parts info_str
  refine ⟨madeCells #[.string ⟨#[]⟩] n, fun w => ?_, fun j hj => ?_⟩
  · have h := run_make (P := Tryz.prog) w 56 9 i0 (.string ⟨#[]⟩) Tryz.underlying56 hi hz0 .i64 .i64 n n (by omega) (by omega) (by rw [hz2]; omega) (by omega)
    rw [hz1, Nat.mul_one] at h
    exact h
  · have h := toList_madeCells_one (.string ⟨#[]⟩) n
    rw [← Array.getElem?_toList, h, List.getElem?_replicate, if_pos hj]
/-- the texts so far -/
def OutS (w : World) (g k : Nat) (ts : List Tk) : Prop :=
  g < w.heap.size ∧ ∀ i t, ts[i]? = some t → ∃ u, w.cell? ⟨g, i, none⟩ = some u ∧ w.frozen? ⟨g, i, none⟩ = false ∧ (i < k → u = .string (str t.text))
def plainL (ts : List Tk) : List UInt8 := Lib.join (ts.map (·.text)) [32]
theorem OutS.later {w w' : World} {g k : Nat} {ts : List Tk} (h : OutS w g k ts) (hB : Below w.heap.size w w') : OutS w' g k ts :=
  ⟨Nat.lt_of_lt_of_le h.1 hB.size, fun i t ht => by
    obtain ⟨u, h1, h2, h3⟩ := h.2 i t ht
    exact ⟨u, (hB.cell (p := ⟨g, i, none⟩) h.1).trans h1, (hB.frozen (p := ⟨g, i, none⟩) h.1).trans h2, h3⟩⟩
theorem OutS.put {w : World} {g k : Nat} {ts : List Tk} {t : Tk} (h : OutS w g k ts) (hk : ts[k]? = some t) : OutS (w.setCell ⟨g, k, none⟩ (.string (str t.text))) g (k + 1) ts := by
  refine ⟨by simp [World.setCell]; exact h.1, fun i t' ht => ?_⟩
  obtain ⟨u, h1, h2, h3⟩ := h.2 i t' ht
  by_cases e : i = k
  · subst e
    rw [hk] at ht; cases ht
    exact ⟨_, World.cell?_setCell_same _ _ _ h1, by rw [World.frozen?_setCell]; exact h2, fun _ => rfl⟩
  · refine ⟨u, ?_, by rw [World.frozen?_setCell]; exact h2, fun hik => h3 (by omega)⟩
    rw [World.cell?_setCell_other _ _ _ _ (fun h => e (by cases h; rfl))]; exact h1

set_option maxRecDepth 100000 in
set_option maxHeartbeats 3200000 in
theorem plain_any (ts : List Tk) (p : Option Addr) (c N : Nat) (w : World) (h : TksIn w N ts p) (hN : N ≤ w.heap.size) (hc : ts.length ≤ c) (_hcm : c ≤ 9223372036854775807) (hl : ts.length ≤ 1000000) (hj : (plainL ts).length ≤ 140737488355328) :
    Calls Tryz.prog 25 #[.slice p ts.length c] w fun e w' => e = .returned (.string (str (plainL ts))) ∧ Below w.heap.size w w' := by
  obtain ⟨Z, hmk, hZ⟩ := make_strs ts.length hl
  have HT := Lib.hid h
  have HJ := Lib.hid hj
  have HZ := Lib.hid hZ
  clear h hj hZ
  go_enter Tryz.func25, Tryz.ntmps25
  go_wp2_with fail
  clear hmk
  have HB0 := Lib.hid ((Below.refl _ w).alloc (Nat.le_refl _) (.cells Z 9 (0, 0)))
  have HO0 : Hid (OutS (w.alloc (.cells Z 9 (0, 0))) w.heap.size 0 ts) := Lib.hid ⟨by simp, fun i t ht =>
    ⟨.string ⟨#[]⟩, by rw [cell_of_row _ _ _ _ _ _ (heap_alloc_new w _)]; exact HZ.out i (List.getElem?_eq_some_iff.1 ht).1, by unfold World.frozen?; simp only [heap_alloc_new w (.cells Z 9 (0, 0))]; simp, fun h => absurd h (Nat.not_lt_zero _)⟩⟩
  go_loopw [11] (fun i wr => ∃ k : Nat, i = .int .i64 k ∧ k ≤ ts.length ∧ Hid (OutS wr w.heap.size k ts) ∧ Hid (Below w.heap.size w wr)) (fun i _ => ts.length - (intOf i).toNat)
  case atStart => exact ⟨0, rfl, by omega, HO0, HB0⟩
  case round =>
    obtain ⟨k, rfl, hk, hOut, hB⟩ := hrel
    by_cases hlt : k < ts.length
    · obtain ⟨t, ht⟩ : ∃ t, ts[k]? = some t := ⟨_, List.getElem?_eq_getElem hlt⟩
      obtain ⟨b, o, rfl, hbN, hA⟩ : ∃ b o, p = some ⟨b, o, none⟩ ∧ b < N ∧ ∀ i t, ts[i]? = some t → TokAt w t b (o + i * 5) := by
        rcases HT.out with h0 | h0
        · omega
        · exact h0
      obtain ⟨c0, c1, c2, c3, c4⟩ := (hA k t ht).later (show b < w.heap.size by omega) hB.out
      obtain ⟨u, hu, hf, _⟩ := hOut.out.2 k t ht
      have hgz := hOut.out.1
      have HPt := Lib.hid (fun o => (hOut.out.put ht).later ((Below.refl _ _).alloc (Nat.le_refl _) o))
      have HBn := Lib.hid (fun o => ((hB.out.setCell (p := ⟨w.heap.size, k, none⟩) (Nat.le_refl _) (.string (str t.text))).alloc (by simp [World.setCell]; exact hB.out.size) o))
      clear hA ht
      go_wp2_with fail
      go_roundw
      case rel => exact ⟨k + 1, by go_num, by omega, Lib.hid (HPt.out _), Lib.hid (HBn.out _)⟩
      case measure => simp [intOf]; omega
    · obtain rfl : k = ts.length := by omega
      by_cases h0 : ts.length = 0
      · have hnil := List.length_eq_zero_iff.1 h0
        subst hnil
        have HJn := Lib.hid (fun (a : Option Addr) (w : World) => (Tryz.strings_Join_none a 0 ⟨#[32]⟩ w).mono fun e w' h => (And.intro h.1 h.2.symm : _ ∧ w = w'))
        go_wp2_with fail
        refine (HJn.out _ _).mono ?_
        rintro e w' ⟨rfl, rfl⟩
        go_wp2_with fail
        go_ret
        exact ⟨rfl, hB.out⟩
      · have hxl : (ts.map fun t => str t.text).length = ts.length := List.length_map _
        have hxd : (ts.map fun t => str t.text).map (·.data.toList) = ts.map (·.text) := by rw [List.map_map]; rfl
        have HJn := Lib.hid (Tryz.strings_Join w.heap.size 0 ts.length (ts.map fun t => str t.text) ⟨#[32]⟩ wr (fun j x hx => by
            rw [List.getElem?_map] at hx
            obtain ⟨t, ht, rfl⟩ := Option.map_eq_some_iff.1 hx
            obtain ⟨u, hu, _, hr⟩ := hOut.out.2 j t ht
            rw [Nat.zero_add, hu, hr (List.getElem?_eq_some_iff.1 ht).1]) hOut.out.1 (by rw [hxl]; omega) (by rw [hxl]; exact Nat.le_refl _) (by rw [hxd]; exact HJ.out))
        rw [hxl, hxd] at HJn
        clear hxl hxd
        go_wp2_with fail
        refine HJn.out.mono ?_
        rintro e w2 ⟨rfl, hB2⟩
        have HB2 := Lib.hid (hB.out.trans (hB2.mono hB.out.size))
        clear hB2
        go_wp2_with fail
        go_ret
        exact ⟨rfl, HB2.out⟩
end Go.Proofs.YtgffiggnmklcoaaGreatDoor
