/- Tokens' plain text, the document's. -/
import Derived.Test.YtgffiggnmklcoaaGreatDoorM3
import Derived.Lib.AppendStr
import Derived.Laws.IdiomStrings
namespace Go.Proofs.YtgffiggnmklcoaaGreatDoor
open Go.RowKit

theorem info_u8' : (Tryz.prog.info? 5).map (fun i => (i.zero, i.size, i.bytes)) = some (some (.int .u8 0), 1, 1) := by kernel_rfl
theorem join_snoc (xs : List (List UInt8)) (x : List UInt8) : Lib.join (xs ++ [x]) [32] = if xs = [] then x else Lib.join xs [32] ++ (32 :: x) := by
  cases xs with
  | nil => exact Lib.join_one x [32]
  | cons y r =>
    rw [if_neg (List.cons_ne_nil _ _), List.cons_append, Lib.join_cons, Lib.join_cons, Lib.joinTail, Lib.joinTail]
    simp
theorem plainZ_take {ts : List Tz} {k : Nat} {t : Tz} (h : ts[k]? = some t) : plainZ (ts.take (k + 1)) = if k = 0 then t.text else plainZ (ts.take k) ++ (32 :: t.text) := by
  have hk := (List.getElem?_eq_some_iff.1 h)
  rw [List.take_succ_eq_append_getElem hk.1, hk.2, plainZ, List.map_append, List.map_cons, List.map_nil, join_snoc]
  by_cases e : k = 0
  · subst e; rfl
  · rw [if_neg e, if_neg]; · rfl
    intro h0
    have := congrArg List.length h0
    rw [List.length_map, List.length_take, List.length_nil] at this
    have := hk.1
    omega
theorem plainZ_len (ts : List Tz) : (plainZ ts).length ≤ totZ ts := by
  suffices h : ∀ k, k ≤ ts.length → (plainZ (ts.take k)).length ≤ totZ (ts.take k) from by
    have := h ts.length (Nat.le_refl _); rwa [List.take_length] at this
  intro k
  induction k with
  | zero => intro _; exact Nat.zero_le _
  | succ k ih =>
    intro hk
    have hlt : k < ts.length := hk
    have ht : ts[k]? = some ts[k] := List.getElem?_eq_getElem hlt
    have h1 := ih (by omega)
    rw [plainZ_take ht, List.take_succ_eq_append_getElem hlt]
    unfold totZ at h1 ⊢
    rw [List.length_append, List.map_append, List.sum_append]
    split
    · simp; omega
    · simp only [List.length_append, List.length_cons, List.length_nil, List.map_cons, List.map_nil, List.sum_cons, List.sum_nil]; omega
theorem totZ_take (ts : List Tz) (k : Nat) : totZ (ts.take k) ≤ totZ ts := by
  have h := List.take_append_drop k ts
  have h2 : totZ ts = totZ (ts.take k) + totZ (ts.drop k) := by
    conv => lhs; rw [← h]
    unfold totZ; rw [List.length_append, List.map_append, List.sum_append]; omega
  omega
theorem conv_nil (w : World) : (convert 53 9 (.slice none 0 0)).run Tryz.prog w = .ok (.string (str [])) w := by kernel_rfl
/-- a row of bytes that the call has made -/
def BRow (B : Nat) (w : World) (l : List UInt8) (v : Value) : Prop := w.ownsRow B 5 1 v l.length (l.map fun b => .int .u8 b.toNat)
theorem BRow.nil (B : Nat) (w : World) : BRow B w [] (.slice none 0 0) := ⟨rfl, .inl ⟨rfl, rfl⟩⟩
theorem BRow.base {B : Nat} {w : World} {l : List UInt8} {v : Value} (h : BRow B w l v) : ∀ k, v.ownBlock = some k → B ≤ k := by
  intro k hk
  rcases h.2 with ⟨rfl, _⟩ | ⟨g, cap, cur, rfl, hg, _⟩
  · cases hk
  · have : g = k := by simpa [Value.ownBlock] using hk
    omega
theorem BRow.conv {B : Nat} {w : World} {l : List UInt8} {v : Value} (h : BRow B w l v) : (convert 53 9 v).run Tryz.prog w = .ok (.string (str l)) w := by
  obtain ⟨hl, ⟨rfl, h0⟩ | ⟨g, cap, cur, rfl, hg, hh, hn, hcap, hcs, ht⟩⟩ := h
  · have := List.length_eq_zero_iff.1 h0; subst this; exact conv_nil w
  · exact run_convert_bytes_back (P := Tryz.prog) w 53 9 5 ⟨g, 0, none⟩ cap l Tryz.underlying53 Tryz.underlying5 Tryz.underlying9 (fun j hj => by
      have e : (⟨g, 0, none⟩ : Addr).add j = ⟨g, j, none⟩ := by
        rcases j with _ | j
        · rfl
        · simp [Addr.add]
      have h1 : (l.map fun b => Value.int .u8 b.toNat)[j]? = some (.int .u8 l[j].toNat) := by rw [List.getElem?_map, List.getElem?_eq_getElem hj]; rfl
      rw [← ht, List.getElem?_take_of_lt (by omega), Array.getElem?_toList] at h1
      rw [e]; simp [World.cell?, hh, h1])

set_option maxRecDepth 100000 in
set_option maxHeartbeats 6400000 in
theorem rplain_any (ts : List Tz) (p : Option Addr) (c N : Nat) (w : World) (h : TzsIn w N ts p) (hN : N ≤ w.heap.size) (hc : ts.length ≤ c) (hcm : c ≤ 9223372036854775807) (ht : totZ ts ≤ 9000) :
    Calls Tryz.prog 26 #[.slice p ts.length c] w fun e w' => e = .returned (.string (str (plainZ ts))) ∧ Below w.heap.size w w' := by
  obtain ⟨i0, hi, hz0, hz1, hz2⟩ := info_parts info_u8'
  have HT := Lib.hid h
  have HTo := Lib.hid ht
  have hl9 : ts.length ≤ 9000 := by unfold totZ at ht; omega
  clear h ht
  go_enter Tryz.func26, Tryz.ntmps26
  go_wp2_with fail
  go_loopw [3, 4] (fun v i wr => ∃ (k : Nat) (v0 : Value), i = .int .i64 k ∧ k ≤ ts.length ∧ v0 = v ∧ Hid (BRow w.heap.size wr (plainZ (ts.take k)) v0) ∧ Hid (Below w.heap.size w wr)) (fun _ i _ => ts.length - (intOf i).toNat)
  case atStart => exact ⟨0, _, rfl, by omega, rfl, Lib.hid (BRow.nil _ _), Lib.hid (Below.refl _ _)⟩
  case round =>
    obtain ⟨k, v, rfl, hk, rfl, hR, hB⟩ := hrel
    by_cases hlt : k < ts.length
    · obtain ⟨t, ht⟩ : ∃ t, ts[k]? = some t := ⟨_, List.getElem?_eq_getElem hlt⟩
      obtain ⟨b, o, rfl, hbN, hA⟩ : ∃ b o, p = some ⟨b, o, none⟩ ∧ b < N ∧ ∀ i t, ts[i]? = some t → TzAt w t b (o + i * 5) := by
        rcases HT.out with h0 | h0
        · omega
        · exact h0
      have hbz : b < w.heap.size := by omega
      have HTk := Lib.hid (hA k t ht)
      have HPk := Lib.hid (plainZ_take ht)
      have HL1 := Lib.hid (Nat.le_trans (plainZ_len (ts.take k)) (Nat.le_trans (totZ_take ts k) HTo.out))
      have HL2 := Lib.hid (Nat.le_trans (plainZ_len (ts.take (k + 1))) (Nat.le_trans (totZ_take ts (k + 1)) HTo.out))
      have HSz := Lib.hid (show (str t.text).size = t.text.length by rw [size_len, str_data])
      clear hA ht
      obtain ⟨c0, c1, c2, c3, c4⟩ := HTk.out.later hbz hB.out
      rcases k with _ | k
      · have HP0 := Lib.hid (show plainZ (ts.take (0 + 1)) = t.text by have h := HPk.out; simpa using h)
        have hown : wr.ownsRow w.heap.size 5 1 v 0 [] := hR.out
        go_wp2_with (at_builtin; refine Lib.wpList_append_own_string _ rfl _ _ 53 9 rfl w.heap.size 5 i0 Tryz.underlying53 Tryz.underlying9 hi hz0 hz1 hz2 _ _ _ rfl hown (str t.text) rfl ?d1 ?d2 ?d3 ?_)
        case d1 => unfold maxLen; have h1 := HL2.out; have h3 := HSz.out; rw [HP0.out] at h1; omega
        case d2 => have h1 := HL2.out; have h3 := HSz.out; rw [HP0.out] at h1; omega
        case d3 => exact hB.out.size
        intro v' w1 hown' hgrow _
        have HR1 := Lib.hid (show BRow w.heap.size w1 (plainZ (ts.take (0 + 1))) v' by
          rw [HP0.out]
          unfold BRow
          have hsz := HSz.out
          rw [hsz] at hown'
          simpa [Lib.strCells, str] using hown')
        have HB1 := Lib.hid (hB.out.grown hgrow hB.out.size (fun q hq => hR.out.base q hq))
        clear hown hown' hgrow c0 c1 c2 c3 c4
        go_wp2_with fail
        go_roundw
        case rel => exact ⟨0 + 1, _, by go_num, by omega, rfl, HR1, HB1⟩
        case measure => simp [intOf]; omega
      · have HP1 := Lib.hid (show plainZ (ts.take (k + 1 + 1)) = plainZ (ts.take (k + 1)) ++ (32 :: t.text) by have h := HPk.out; rw [if_neg (Nat.succ_ne_zero k)] at h; exact h)
        have HL3 := Lib.hid (show (plainZ (ts.take (k + 1))).length + (t.text.length + 1) ≤ 9000 by have h := HL2.out; rw [HP1.out, List.length_append, List.length_cons] at h; exact h)
        obtain ⟨l, hl⟩ : ∃ l, plainZ (ts.take (k + 1)) = l := ⟨_, rfl⟩
        rw [hl] at HP1 HL3 hR
        have hown := hR.out
        unfold BRow at hown
        clear hl
        have kpos : (0 : Int) < (k : Int) + 1 := by omega
        go_wp2_with (at_builtin; refine wpList_append_own _ rfl _ _ 53 rfl w.heap.size 5 i0 (.int .u8 0) 1 1 Tryz.underlying53 hi hz0 hz1 hz2 rfl (by decide) _ _ _ rfl (hown.alloc _) ⟨wr.heap.size, 0, none⟩ 1 1 [.int .u8 32] rfl rfl ?e1 ?e2 ?e3 ?e4 ?e5 ?_)
        case e1 => intro j u hj; match j, hj with
          | 0, hj => simp at hj; subst hj; simp [go_sem, Addr.add]
        case e2 => intro u hu; simp at hu; subst hu; rfl
        case e3 => have h := HL3.out; unfold maxLen; omega
        case e4 => have h := HL3.out; omega
        case e5 => simp; exact Nat.le_succ_of_le hB.out.size
        intro v1 w1 hown1 hgrow1 _
        have hB1 := (hB.out.alloc hB.out.size (.cells #[.int .u8 32] 5)).grown hgrow1 (by simp; exact Nat.le_succ_of_le hB.out.size) (fun q hq => hR.out.base q hq)
        have HB1 := Lib.hid hB1
        obtain ⟨c0, c1, c2, c3, c4⟩ := HTk.out.later hbz hB1
        have HR1 := Lib.hid (show BRow w.heap.size w1 (l ++ [32]) v1 by unfold BRow; simpa using hown1)
        have hown2 : w1.ownsRow w.heap.size 5 1 v1 (l ++ [32]).length ((l ++ [32]).map fun (b : UInt8) => .int .u8 b.toNat) := HR1.out
        have HL4 := Lib.hid (show (l ++ [32]).length + (str t.text).size ≤ 9000 by have h := HL3.out; have h2 := HSz.out; rw [List.length_append]; simp at h2 ⊢; omega)
        clear hown hown1 hgrow1 hB1
        go_wp2_with (at_builtin; refine Lib.wpList_append_own_string _ rfl _ _ 53 9 rfl w.heap.size 5 i0 Tryz.underlying53 Tryz.underlying9 hi hz0 hz1 hz2 _ _ _ rfl hown2 (str t.text) rfl ?f1 ?f2 ?f3 ?_)
        case f1 => unfold maxLen; have h := HL4.out; omega
        case f2 => have h := HL4.out; omega
        case f3 => exact HB1.out.size
        intro v2 w2 hown3 hgrow2 _
        have HR2 := Lib.hid (show BRow w.heap.size w2 (plainZ (ts.take (k + 1 + 1))) v2 by
          rw [HP1.out]
          unfold BRow
          have hsz := HSz.out
          rw [hsz] at hown3
          have e1 : (l ++ 32 :: t.text).length = (l ++ [32]).length + t.text.length := by simp; omega
          have e2 : ((l ++ 32 :: t.text).map fun (b : UInt8) => Value.int .u8 b.toNat) = ((l ++ [32]).map fun (b : UInt8) => Value.int .u8 b.toNat) ++ Lib.strCells (str t.text) := by simp [Lib.strCells, str]
          rw [e1, e2]
          have e3 : (l ++ [32]).length = l.length + 1 := by simp
          have e4 : ((l ++ [32]).map fun (b : UInt8) => Value.int .u8 b.toNat) ++ Lib.strCells (str t.text) = (l.map fun (b : UInt8) => Value.int .u8 b.toNat) ++ Value.int .u8 32 :: Lib.strCells (str t.text) := by simp
          rw [e3, e4]; exact hown3)
        have HB2 := Lib.hid (HB1.out.grown hgrow2 HB1.out.size (fun q hq => HR1.out.base q hq))
        clear hown2 hown3 hgrow2 c0 c1 c2 c3 c4
        go_wp2_with fail
        go_roundw
        case rel => exact ⟨k + 1 + 1, _, by go_num, by omega, rfl, HR2, HB2⟩
        case measure => simp [intOf]; omega
    · obtain rfl : k = ts.length := by omega
      have hcv := hR.out.conv
      rw [List.take_length] at hcv
      go_wp2_with fail
      go_ret
      exact ⟨rfl, hB.out⟩
end Go.Proofs.YtgffiggnmklcoaaGreatDoor
