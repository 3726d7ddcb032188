/- Tokens of any make: their plain text, the program's. -/
import Derived.Test.YtgffiggnmklcoaaGreatDoorH2
namespace Go.Proofs.YtgffiggnmklcoaaGreatDoor
open Go.RowKit

/-- a token of any make -/
structure Tz where
  kind : Int
  text : List UInt8
  word : Int
  line : Int
  col : Int
def Tk.z (t : Tk) : Tz := ⟨t.kind, t.text, t.word, t.line, t.col⟩
/-- a token's five cells, as they lie -/
structure TzAt (w : World) (t : Tz) (b o : Nat) : Prop where
  c0 : w.cell? ⟨b, o, none⟩ = some (.int .i64 t.kind)
  c1 : w.cell? ⟨b, o + 1, none⟩ = some (.string (str t.text))
  c2 : w.cell? ⟨b, o + 2, none⟩ = some (.int .u64 t.word)
  c3 : w.cell? ⟨b, o + 3, none⟩ = some (.int .i64 t.line)
  c4 : w.cell? ⟨b, o + 4, none⟩ = some (.int .i64 t.col)
/-- tokens as a slice at p has them, in a block below N -/
def TzsIn (w : World) (N : Nat) (ts : List Tz) (p : Option Addr) : Prop :=
  ts.length = 0 ∨ ∃ b o, p = some ⟨b, o, none⟩ ∧ b < N ∧ ∀ i t, ts[i]? = some t → TzAt w t b (o + i * 5)
theorem TzAt.later {w w' : World} {t : Tz} {b o n : Nat} (h : TzAt w t b o) (hb : b < n) (hB : Below n w w') : TzAt w' t b o :=
  ⟨(hB.cell (p := ⟨b, o, none⟩) hb).trans h.c0, (hB.cell (p := ⟨b, o + 1, none⟩) hb).trans h.c1, (hB.cell (p := ⟨b, o + 2, none⟩) hb).trans h.c2, (hB.cell (p := ⟨b, o + 3, none⟩) hb).trans h.c3, (hB.cell (p := ⟨b, o + 4, none⟩) hb).trans h.c4⟩
theorem TzsIn.later {w w' : World} {N n : Nat} {ts : List Tz} {p : Option Addr} (h : TzsIn w N ts p) (hN : N ≤ n) (hB : Below n w w') : TzsIn w' N ts p := by
  rcases h with h | ⟨b, o, hp, hb, hc⟩
  · exact .inl h
  · exact .inr ⟨b, o, hp, hb, fun i t ht => (hc i t ht).later (Nat.lt_of_lt_of_le hb hN) hB⟩
/-- the texts so far -/
def OutZ (w : World) (g k : Nat) (ts : List Tz) : Prop :=
  g < w.heap.size ∧ ∀ i t, ts[i]? = some t → ∃ u, w.cell? ⟨g, i, none⟩ = some u ∧ w.frozen? ⟨g, i, none⟩ = false ∧ (i < k → u = .string (str t.text))
def plainZ (ts : List Tz) : List UInt8 := Lib.join (ts.map (·.text)) [32]
theorem plainZ_z (ts : List Tk) : plainZ (ts.map Tk.z) = plainL ts := by rw [plainZ, plainL, List.map_map]; rfl
theorem TksIn.z {w : World} {N : Nat} {ts : List Tk} {p : Option Addr} (h : TksIn w N ts p) : TzsIn w N (ts.map Tk.z) p := by
  rcases h with h | ⟨b, o, hp, hb, hc⟩
  · exact .inl (by rw [List.length_map]; exact h)
  · refine .inr ⟨b, o, hp, hb, fun i t ht => ?_⟩
    rw [List.getElem?_map] at ht
    obtain ⟨t', ht', rfl⟩ := Option.map_eq_some_iff.1 ht
    have h := hc i t' ht'
    exact ⟨h.c0, h.c1, h.c2, h.c3, h.c4⟩
theorem OutZ.later {w w' : World} {g k : Nat} {ts : List Tz} (h : OutZ w g k ts) (hB : Below w.heap.size w w') : OutZ w' g k ts :=
  ⟨Nat.lt_of_lt_of_le h.1 hB.size, fun i t ht => by
    obtain ⟨u, h1, h2, h3⟩ := h.2 i t ht
    exact ⟨u, (hB.cell (p := ⟨g, i, none⟩) h.1).trans h1, (hB.frozen (p := ⟨g, i, none⟩) h.1).trans h2, h3⟩⟩
theorem OutZ.put {w : World} {g k : Nat} {ts : List Tz} {t : Tz} (h : OutZ w g k ts) (hk : ts[k]? = some t) : OutZ (w.setCell ⟨g, k, none⟩ (.string (str t.text))) g (k + 1) ts := by
  refine ⟨by simp [World.setCell]; exact h.1, fun i t' ht => ?_⟩
  obtain ⟨u, h1, h2, h3⟩ := h.2 i t' ht
  by_cases e : i = k
  · subst e
    rw [hk] at ht; cases ht
    exact ⟨_, World.cell?_setCell_same _ _ _ h1, by rw [World.frozen?_setCell]; exact h2, fun _ => rfl⟩
  · refine ⟨u, ?_, by rw [World.frozen?_setCell]; exact h2, fun hik => h3 (by omega)⟩
    rw [World.cell?_setCell_other _ _ _ _ (fun h => e (by cases h; rfl))]; exact h1

set_option maxRecDepth 100000 in
set_option maxHeartbeats 3200000 in
theorem plainz_any (ts : List Tz) (p : Option Addr) (c N : Nat) (w : World) (h : TzsIn w N ts p) (hN : N ≤ w.heap.size) (hc : ts.length ≤ c) (_hcm : c ≤ 9223372036854775807) (hl : ts.length ≤ 1000000) (hj : (plainZ ts).length ≤ 140737488355328) :
    Calls Tryz.prog 25 #[.slice p ts.length c] w fun e w' => e = .returned (.string (str (plainZ ts))) ∧ Below w.heap.size w w' := by
  obtain ⟨Z, hmk, hZ⟩ := make_strs ts.length hl
  have HT := Lib.hid h
  have HJ := Lib.hid hj
  have HZ := Lib.hid hZ
  clear h hj hZ
  go_enter Tryz.func25, Tryz.ntmps25
  go_wp2_with fail
  clear hmk
  have HB0 := Lib.hid ((Below.refl _ w).alloc (Nat.le_refl _) (.cells Z 9 (0, 0)))
  have HO0 : Hid (OutZ (w.alloc (.cells Z 9 (0, 0))) w.heap.size 0 ts) := Lib.hid ⟨by simp, fun i t ht =>
    ⟨.string ⟨#[]⟩, by rw [cell_of_row _ _ _ _ _ _ (heap_alloc_new w _)]; exact HZ.out i (List.getElem?_eq_some_iff.1 ht).1, by unfold World.frozen?; simp only [heap_alloc_new w (.cells Z 9 (0, 0))]; simp, fun h => absurd h (Nat.not_lt_zero _)⟩⟩
  go_loopw [11] (fun i wr => ∃ k : Nat, i = .int .i64 k ∧ k ≤ ts.length ∧ Hid (OutZ wr w.heap.size k ts) ∧ Hid (Below w.heap.size w wr)) (fun i _ => ts.length - (intOf i).toNat)
  case atStart => exact ⟨0, rfl, by omega, HO0, HB0⟩
  case round =>
    obtain ⟨k, rfl, hk, hOut, hB⟩ := hrel
    by_cases hlt : k < ts.length
    · obtain ⟨t, ht⟩ : ∃ t, ts[k]? = some t := ⟨_, List.getElem?_eq_getElem hlt⟩
      obtain ⟨b, o, rfl, hbN, hA⟩ : ∃ b o, p = some ⟨b, o, none⟩ ∧ b < N ∧ ∀ i t, ts[i]? = some t → TzAt w t b (o + i * 5) := by
        rcases HT.out with h0 | h0
        · omega
        · exact h0
      obtain ⟨c0, c1, c2, c3, c4⟩ := (hA k t ht).later (show b < w.heap.size by omega) hB.out
      obtain ⟨u, hu, hf, _⟩ := hOut.out.2 k t ht
      have hgz := hOut.out.1
      have HPt := Lib.hid (fun o => (hOut.out.put ht).later ((Below.refl _ _).alloc (Nat.le_refl _) o))
      have HBn := Lib.hid (fun o => ((hB.out.setCell (p := ⟨w.heap.size, k, none⟩) (Nat.le_refl _) (.string (str t.text))).alloc (by simp [World.setCell]; exact hB.out.size) o))
      clear hA ht
      go_wp2_with fail
      go_roundw
      case rel => exact ⟨k + 1, by go_num, by omega, Lib.hid (HPt.out _), Lib.hid (HBn.out _)⟩
      case measure => simp [intOf]; omega
    · obtain rfl : k = ts.length := by omega
      by_cases h0 : ts.length = 0
      · have hnil := List.length_eq_zero_iff.1 h0
        subst hnil
        have HJn := Lib.hid (fun (a : Option Addr) (w : World) => (Tryz.strings_Join_none a 0 ⟨#[32]⟩ w).mono fun e w' h => (And.intro h.1 h.2.symm : _ ∧ w = w'))
        go_wp2_with fail
        refine (HJn.out _ _).mono ?_
        rintro e w' ⟨rfl, rfl⟩
        go_wp2_with fail
        go_ret
        exact ⟨rfl, hB.out⟩
      · have hxl : (ts.map fun t => str t.text).length = ts.length := List.length_map _
        have hxd : (ts.map fun t => str t.text).map (·.data.toList) = ts.map (·.text) := by rw [List.map_map]; rfl
        have HJn := Lib.hid (Tryz.strings_Join w.heap.size 0 ts.length (ts.map fun t => str t.text) ⟨#[32]⟩ wr (fun j x hx => by
            rw [List.getElem?_map] at hx
            obtain ⟨t, ht, rfl⟩ := Option.map_eq_some_iff.1 hx
            obtain ⟨u, hu, _, hr⟩ := hOut.out.2 j t ht
            rw [Nat.zero_add, hu, hr (List.getElem?_eq_some_iff.1 ht).1]) hOut.out.1 (by rw [hxl]; omega) (by rw [hxl]; exact Nat.le_refl _) (by rw [hxd]; exact HJ.out))
        rw [hxl, hxd] at HJn
        clear hxl hxd
        go_wp2_with fail
        refine HJn.out.mono ?_
        rintro e w2 ⟨rfl, hB2⟩
        have HB2 := Lib.hid (hB.out.trans (hB2.mono hB.out.size))
        clear hB2
        go_wp2_with fail
        go_ret
        exact ⟨rfl, HB2.out⟩

/-- how much tokens are -/
def totZ (ts : List Tz) : Nat := ts.length + (ts.map (·.text.length)).sum
def minZ (ts : List Tz) : Nat := (ts.map (fun t => min t.text.length 9001)).sum
theorem minZ_le (ts : List Tz) : minZ ts ≤ (ts.map (·.text.length)).sum := by
  induction ts with
  | nil => exact Nat.le_refl _
  | cons t r ih => simp only [minZ, List.map_cons, List.sum_cons] at ih ⊢; omega
theorem minZ_eq (ts : List Tz) (h : minZ ts ≤ 9000) : minZ ts = (ts.map (·.text.length)).sum := by
  induction ts with
  | nil => rfl
  | cons t r ih =>
    simp only [minZ, List.map_cons, List.sum_cons] at ih h ⊢
    have := ih (by omega)
    omega
theorem minZ_take {ts : List Tz} {k : Nat} {t : Tz} (h : ts[k]? = some t) : minZ (ts.take (k + 1)) = minZ (ts.take k) + min t.text.length 9001 := by
  have hk := (List.getElem?_eq_some_iff.1 h)
  rw [List.take_succ_eq_append_getElem hk.1, hk.2]
  simp [minZ]
theorem minZ_take_le (ts : List Tz) (k : Nat) : minZ (ts.take k) ≤ minZ ts := by
  have := List.take_append_drop k ts
  have h2 : minZ ts = minZ (ts.take k) + minZ (ts.drop k) := by
    conv => lhs; rw [← this]
    unfold minZ; rw [List.map_append, List.sum_append]
  omega
def muchB (ts : List Tz) : Bool := decide (9000 < totZ ts)
theorem much_yes {ts : List Tz} {k : Nat} (h : 9000 < ts.length + minZ (ts.take k)) : muchB ts = true := by
  have h1 := minZ_le ts
  have h2 := minZ_take_le ts k
  exact decide_eq_true (by unfold totZ; omega)
theorem much_no {ts : List Tz} (h : ¬ 9000 < ts.length + minZ (ts.take ts.length)) : muchB ts = false := by
  rw [List.take_length] at h
  have := minZ_eq ts (by omega)
  exact decide_eq_false (by unfold totZ; omega)
theorem much_tot {ts : List Tz} (h : muchB ts = false) : totZ ts ≤ 9000 := by have := of_decide_eq_false h; omega

set_option maxRecDepth 100000 in
set_option maxHeartbeats 3200000 in
theorem much_any (ts : List Tz) (p : Option Addr) (c N : Nat) (w : World) (h : TzsIn w N ts p) (_hN : N ≤ w.heap.size) (hc : ts.length ≤ c) (hcm : c ≤ 9223372036854775807) (hz : ∀ t ∈ ts, t.text.length ≤ 9223372036854775807) :
    Calls Tryz.prog 24 #[.slice p ts.length c, .int .i64 9000] w fun e w' => e = .returned (.bool (muchB ts)) ∧ w = w' := by
  have HT := Lib.hid h
  have HZ := Lib.hid hz
  clear h hz
  go_enter Tryz.func24, Tryz.ntmps24
  go_wp2_with fail
  go_loop [5, 6] (fun n i => ∃ k m : Nat, i = .int .i64 k ∧ k ≤ ts.length ∧ n = .int .i64 m ∧ Hid (m = ts.length + minZ (ts.take k)) ∧ m ≤ 9223372036854775807) (fun _ i => ts.length - (intOf i).toNat)
  case atStart => exact ⟨0, ts.length, rfl, by omega, rfl, Lib.hid rfl, by omega⟩
  case round =>
    obtain ⟨k, m, rfl, hk, rfl, hM, hm⟩ := hrel
    by_cases hlt : k < ts.length
    · by_cases hle : m ≤ 9000
      · obtain ⟨t, ht⟩ : ∃ t, ts[k]? = some t := ⟨_, List.getElem?_eq_getElem hlt⟩
        obtain ⟨b, o, rfl, hbN, hA⟩ : ∃ b o, p = some ⟨b, o, none⟩ ∧ b < N ∧ ∀ i t, ts[i]? = some t → TzAt w t b (o + i * 5) := by
          rcases HT.out with h0 | h0
          · omega
          · exact h0
        obtain ⟨c0, c1, c2, c3, c4⟩ := hA k t ht
        have hsz : (str t.text).size = t.text.length := by rw [size_len, str_data]
        have hzt := HZ.out t (List.mem_of_getElem? ht)
        have HMk := Lib.hid (minZ_take ht)
        obtain ⟨q, hq⟩ : ∃ q, min t.text.length 9001 = q := ⟨_, rfl⟩
        have hq9 : q ≤ 9001 := by omega
        have hqi : min ((str t.text).size : Int) 9001 = (q : Int) := by rw [hsz]; omega
        rw [hq] at HMk
        have HSz := Lib.hid hsz
        have hszb : (str t.text).size ≤ 9223372036854775807 := by rw [hsz]; exact hzt
        clear hA ht hq hsz c0 c2 c3 c4
        go_wp2_with fail
        go_round
        case rel => exact ⟨k + 1, m + q, by go_num, by omega, by go_num, Lib.hid (by have := HMk.out; have := hM.out; omega), by omega⟩
        case measure => simp [intOf]; omega
      · have HF := Lib.hid (much_yes (ts := ts) (k := k) (by have := hM.out; omega))
        have hgt : 9000 < m := by omega
        go_wp2_with fail
        go_ret
        exact ⟨ret_bool HF.out.symm, rfl⟩
    · obtain rfl : k = ts.length := by omega
      by_cases hle : m ≤ 9000
      · have HF := Lib.hid (much_no (ts := ts) (by have := hM.out; omega))
        go_wp2_with fail
        go_ret
        exact ⟨ret_bool (by rw [HF.out]; exact decide_eq_false (by omega)), rfl⟩
      · have HF := Lib.hid (much_yes (ts := ts) (k := ts.length) (by have := hM.out; omega))
        go_wp2_with fail
        go_ret
        exact ⟨ret_bool (by rw [HF.out]; exact decide_eq_true (by omega)), rfl⟩
end Go.Proofs.YtgffiggnmklcoaaGreatDoor
