/- The document's signs: the longest one. -/
import Derived.Test.YtgffiggnmklcoaaGreatDoorF3
import Derived.Outline
import Derived.Deep.QuietTactic
import Derived.BigQuiet
namespace Go.Proofs.YtgffiggnmklcoaaGreatDoor
open Go.RowKit

/-- the document's longest sign, as it goes over the signs -/
def bestF (r : List UInt8) (b : Nat) (t : List UInt8) : Nat := if b < t.length ∧ r.take t.length = t then t.length else b
def bestN (r : List UInt8) (k : Nat) : Nat := (signT.take k).foldl (bestF r) 0
theorem bestN_succ {r : List UInt8} {k : Nat} {t : List UInt8} (h : signT[k]? = some t) : bestN r (k + 1) = bestF r (bestN r k) t := by
  rw [bestN, List.take_add_one, h, List.foldl_append]; rfl
theorem best_ge (r : List UInt8) (L : List (List UInt8)) (b : Nat) : b ≤ L.foldl (bestF r) b ∧ (∀ t ∈ L, r.take t.length = t → t.length ≤ L.foldl (bestF r) b) ∧ (L.foldl (bestF r) b = b ∨ ∃ t ∈ L, r.take t.length = t ∧ L.foldl (bestF r) b = t.length) := by
  induction L generalizing b with
  | nil => exact ⟨Nat.le_refl _, fun _ h => (by cases h), .inl rfl⟩
  | cons x q ih =>
    rw [List.foldl_cons]
    obtain ⟨h1, h2, h3⟩ := ih (bestF r b x)
    have hb : b ≤ bestF r b x ∧ (r.take x.length = x → x.length ≤ bestF r b x) ∧ (bestF r b x = b ∨ (r.take x.length = x ∧ bestF r b x = x.length)) := by
      unfold bestF
      split
      · rename_i h; exact ⟨by omega, fun _ => Nat.le_refl _, .inr ⟨h.2, rfl⟩⟩
      · rename_i h
        exact ⟨Nat.le_refl _, fun hx => by
          rcases Nat.lt_or_ge b x.length with hlt | hge
          · exact absurd ⟨hlt, hx⟩ h
          · exact hge, .inl rfl⟩
    refine ⟨Nat.le_trans hb.1 h1, fun t ht hr => ?_, ?_⟩
    · rcases List.mem_cons.1 ht with rfl | ht
      · exact Nat.le_trans (hb.2.1 hr) h1
      · exact h2 t ht hr
    · rcases h3 with h3 | ⟨t, ht, hr, he⟩
      · rcases hb.2.2 with h4 | ⟨h4, h5⟩
        · exact .inl (h3.trans h4)
        · exact .inr ⟨x, List.mem_cons_self, h4, h3.trans h5⟩
      · exact .inr ⟨t, List.mem_cons_of_mem _ ht, hr, he⟩
theorem signT_len : ∀ t ∈ signT, 1 ≤ t.length ∧ t.length ≤ 4 := by decide
theorem signDown_ge (l : List UInt8) (n m : Nat) (h1 : 1 ≤ m) (h2 : m ≤ n) (h : l.take m ∈ signT) : m ≤ signDown l n := by
  induction n with
  | zero => omega
  | succ n ih =>
    unfold signDown
    split
    · exact h2
    · rename_i hn
      by_cases e : m = n + 1
      · subst e; exact absurd h hn
      · exact ih (by omega)
theorem best_sign (r : List UInt8) : bestN r 27 = signLen r := by
  have e : bestN r 27 = signT.foldl (bestF r) 0 := by rw [bestN]; rfl
  rw [e]
  obtain ⟨_, h2, h3⟩ := best_ge r signT 0
  apply Nat.le_antisymm
  · rcases h3 with h3 | ⟨t, ht, hr, he⟩
    · rw [h3]; exact Nat.zero_le _
    · rw [he]
      obtain ⟨g1, g2⟩ := signT_len t ht
      have hl : t.length ≤ r.length := by
        have := congrArg List.length hr
        rw [List.length_take] at this; omega
      exact signDown_ge r _ t.length g1 (by omega) (by rw [hr]; exact ht)
  · by_cases h0 : signLen r = 0
    · rw [h0]; exact Nat.zero_le _
    · have hm := signDown_mem r _ h0
      have hl := signLen_le r
      have e2 : (r.take (signLen r)).length = signLen r := by rw [List.length_take]; omega
      have := h2 _ hm
      rw [show signDown r (min 4 r.length) = signLen r from rfl, e2] at this
      exact this rfl

theorem signT_part : signT.all (fun x => x.all fun c => !isPart c) = true := by decide
theorem sign_part {r : List UInt8} (h : isPart (r.headD 0) = true) : signLen r = 0 := by
  by_cases h0 : signLen r = 0
  · exact h0
  · exfalso
    have hm := signDown_mem r _ h0
    have h1 := List.all_eq_true.1 signT_part _ hm
    cases r with
    | nil => cases h
    | cons c q =>
      obtain ⟨n, hn⟩ : ∃ n, signDown (c :: q) (min 4 (c :: q).length) = n + 1 := ⟨signDown (c :: q) (min 4 (c :: q).length) - 1, by have h2 : signDown (c :: q) (min 4 (c :: q).length) ≠ 0 := h0; omega⟩
      rw [hn, List.take_succ_cons, List.all_cons, Bool.and_eq_true] at h1
      have h3 : isPart c = true := h
      rw [h3] at h1
      exact absurd h1.1 (by decide)
/-- the signs lie in a row at g -/
def SignsAt (w : World) (g : Nat) : Prop := ∀ k t, signT[k]? = some t → w.cell? ⟨g, k, none⟩ = some (.string (str t))
theorem bestN_yes {r : List UInt8} {k : Nat} {t : List UInt8} (h : signT[k]? = some t) (h1 : bestN r k < t.length) (h2 : r.take t.length = t) : bestN r (k + 1) = t.length := by
  rw [bestN_succ h, bestF, if_pos ⟨h1, h2⟩]
theorem bestN_no {r : List UInt8} {k : Nat} {t : List UInt8} (h : signT[k]? = some t) (h1 : bestN r k < t.length → r.take t.length ≠ t) : bestN r (k + 1) = bestN r k := by
  rw [bestN_succ h, bestF, if_neg (fun ⟨a, b⟩ => h1 a b)]
theorem bestN_le (r : List UInt8) (k : Nat) : bestN r k ≤ 4 := by
  obtain ⟨_, _, h3⟩ := best_ge r (signT.take k) 0
  rcases h3 with h3 | ⟨t, ht, _, he⟩
  · rw [bestN, h3]; omega
  · rw [bestN, he]; exact (signT_len t (List.mem_of_mem_take ht)).2
theorem ext_drop (s : ByteArray) (a n : Nat) : (s.extract a (a + n)).data.toList = (s.data.toList.drop a).take n := by
  rw [Lib.extract_data, Nat.add_sub_cancel_left]
theorem below_drewN' {B : Nat} {a w : World} (h : Below B a w) (n : Nat) : Below B a (w.drewN n) := by
  induction n with
  | zero => exact h
  | succ n ih => exact ih.drew
theorem signT_27 : signT.length = 27 := by decide

set_option maxRecDepth 100000 in
set_option maxHeartbeats 3200000 in
theorem rsign_any (s : ByteArray) (a : Nat) (w : World) (hs : s.size ≤ 281474976710656) (ha : a ≤ s.size) :
    Calls Tryz.prog 57 #[.string s, .int .i64 a] w fun e w' => e = .returned (.int .i64 (signLen (s.data.toList.drop a))) ∧ Below w.heap.size w w' := by
  obtain ⟨r, hr⟩ : ∃ r, s.data.toList.drop a = r := ⟨_, rfl⟩
  have hrl : r.length = s.size - a := by rw [← hr, List.length_drop, ← size_len]
  have HR := Lib.hid hr
  have HE := Lib.hid (best_sign r)
  rw [hr]
  clear hr
  go_enter Tryz.func57, Tryz.ntmps57
  go_wp2_with fail
  obtain ⟨wz, hwz⟩ : ∃ wz, w.alloc (.cells #[Value.string ⟨#[40]⟩, .string ⟨#[41]⟩, .string ⟨#[123]⟩, .string ⟨#[125]⟩, .string ⟨#[91]⟩, .string ⟨#[93]⟩, .string ⟨#[44]⟩, .string ⟨#[59]⟩, .string ⟨#[61]⟩, .string ⟨#[43]⟩, .string ⟨#[45]⟩, .string ⟨#[42]⟩, .string ⟨#[38]⟩, .string ⟨#[124]⟩, .string ⟨#[94]⟩, .string ⟨#[126]⟩, .string ⟨#[60]⟩, .string ⟨#[60, 60]⟩, .string ⟨#[60, 60, 60]⟩, .string ⟨#[60, 61]⟩, .string ⟨#[62]⟩, .string ⟨#[62, 62]⟩, .string ⟨#[62, 62, 62]⟩, .string ⟨#[62, 62, 62, 62]⟩, .string ⟨#[61, 61]⟩, .string ⟨#[33, 61]⟩, .string ⟨#[45, 62]⟩] 9) = wz := ⟨_, rfl⟩
  have HBz := Lib.hid (show Below w.heap.size w wz by rw [← hwz]; exact (Below.refl _ _).alloc (Nat.le_refl _) _)
  have HT : Hid (SignsAt wz w.heap.size) := Lib.hid (by
    intro k t hk
    rw [← hwz, cell_of_row _ _ _ _ _ _ (heap_alloc_new w _)]
    have h : (#[Value.string ⟨#[40]⟩, Value.string ⟨#[41]⟩, Value.string ⟨#[123]⟩, Value.string ⟨#[125]⟩, Value.string ⟨#[91]⟩, Value.string ⟨#[93]⟩, Value.string ⟨#[44]⟩, Value.string ⟨#[59]⟩, Value.string ⟨#[61]⟩, Value.string ⟨#[43]⟩, Value.string ⟨#[45]⟩, Value.string ⟨#[42]⟩, Value.string ⟨#[38]⟩, Value.string ⟨#[124]⟩, Value.string ⟨#[94]⟩, Value.string ⟨#[126]⟩, Value.string ⟨#[60]⟩, Value.string ⟨#[60, 60]⟩, Value.string ⟨#[60, 60, 60]⟩, Value.string ⟨#[60, 61]⟩, Value.string ⟨#[62]⟩, Value.string ⟨#[62, 62]⟩, Value.string ⟨#[62, 62, 62]⟩, Value.string ⟨#[62, 62, 62, 62]⟩, Value.string ⟨#[61, 61]⟩, Value.string ⟨#[33, 61]⟩, Value.string ⟨#[45, 62]⟩] : Array Value) = (signT.map fun t => Value.string (str t)).toArray := rfl
    rw [h, List.getElem?_toArray, List.getElem?_map, hk]; rfl)
  rw [hwz]
  clear hwz
  go_loopw [6, 7] (fun b i wr => ∃ k : Nat, i = .int .i64 k ∧ k ≤ 27 ∧ b = .int .i64 (bestN r k) ∧ Hid (Below wz.heap.size wz wr)) (fun _ i _ => 27 - (intOf i).toNat)
  case atStart => exact ⟨0, rfl, by omega, rfl, Lib.hid (Below.refl _ _)⟩
  case round =>
    obtain ⟨k, rfl, hk, rfl, hB⟩ := hrel
    have HBw := Lib.hid (HBz.out.trans (hB.out.mono HBz.out.size))
    by_cases hlt : k < 27
    · obtain ⟨t, ht⟩ : ∃ t, signT[k]? = some t := ⟨_, List.getElem?_eq_getElem (by rw [signT_27]; exact hlt)⟩
      have hgz : w.heap.size < wz.heap.size := World.block_lt_of_cell? wz _ (HT.out k t ht)
      have c0 := (hB.out.cell (p := ⟨w.heap.size, k, none⟩) hgz).trans (HT.out k t ht)
      have hn : (str t).size = t.length := by rw [size_len, str_data]
      have hn4 := (signT_len t (List.mem_of_getElem? ht)).2
      have hm4 := bestN_le r k
      have HY := Lib.hid (bestN_yes (r := r) ht)
      have HN := Lib.hid (bestN_no (r := r) ht)
      generalize bestN r k = m at HY HN hm4
      have HBn := Lib.hid (fun n => below_drewN' hB.out n)
      have i0 : (0 : Int) ≤ (k : Int) := by omega
      have i1 : (k : Int) < 27 := by omega
      obtain ⟨q, hq⟩ : ∃ q, q = a + t.length := ⟨_, rfl⟩
      have hsum : (a : Int) + (t.length : Int) = (q : Int) := by omega
      have hwr : IntKind.i64.wrap (q : Int) = (q : Int) := by simp [IntKind.wrap, IntKind.bits, IntKind.signed]; omega
      by_cases h1 : m < t.length
      · have g1i : ((m : Int) < (t.length : Int)) = True := eq_true (by omega)
        have g1 : (m < t.length) = True := eq_true h1
        by_cases h2 : q ≤ s.size
        · have g2i : ((q : Int) ≤ (s.size : Int)) = True := eq_true (by omega)
          have g2 : (q ≤ s.size) = True := eq_true h2
          have a0 : (0 : Int) ≤ (a : Int) := by omega
          have a1 : (a : Int) ≤ (q : Int) := by omega
          have a2 : a ≤ q := by omega
          have hx := ext_drop s a t.length
          rw [← hq, HR.out] at hx
          by_cases h3 : r.take t.length = t
          · have hEx : s.extract a q = str t := bytes_ext (by rw [hx, h3]; rfl)
            have HF := Lib.hid (HY.out (by omega) h3)
            have hs1 : ((str t).toList == (str t).toList) = true := by simp
            clear hx h3 HY HN ht hn4 hm4 hq
            go_wp2_with fail
            go_quiet (fail)
            go_wp2_with fail
            go_roundw
            case rel => exact ⟨k + 1, by go_num, by omega, by rw [HF.out], Lib.hid (HBn.out _)⟩
            case measure => simp [intOf]; omega
          · have hEx : ((s.extract a q).toList == (str t).toList) = false := by
              rw [beq_eq_false_iff_ne]
              intro e
              rw [Go.Lib.toList_data, Go.Lib.toList_data, hx] at e
              exact h3 e
            have HF := Lib.hid (HN.out (fun _ => h3))
            clear hx h3 HY HN ht hn4 hm4 hq
            go_wp2_with fail
            go_quiet (fail)
            go_wp2_with fail
            go_roundw
            case rel => exact ⟨k + 1, by go_num, by omega, by rw [HF.out], Lib.hid (HBn.out _)⟩
            case measure => simp [intOf]; omega
        · have g2i : ((q : Int) ≤ (s.size : Int)) = False := eq_false (by omega)
          have g2 : (q ≤ s.size) = False := eq_false h2
          have HF := Lib.hid (HN.out (fun _ e => by
            have := congrArg List.length e
            rw [List.length_take] at this; omega))
          clear HY HN ht hn4 hm4 hq
          go_wp2_with fail
          go_quiet (fail)
          go_wp2_with fail
          go_roundw
          case rel => exact ⟨k + 1, by go_num, by omega, by rw [HF.out], Lib.hid (HBn.out _)⟩
          case measure => simp [intOf]; omega
      · have g1i : ((m : Int) < (t.length : Int)) = False := eq_false (by omega)
        have g1 : (m < t.length) = False := eq_false h1
        have HF := Lib.hid (HN.out (fun h => absurd h (by omega)))
        clear HY HN ht hn4 hm4 hq
        go_wp2_with fail
        go_quiet (fail)
        go_wp2_with fail
        go_roundw
        case rel => exact ⟨k + 1, by go_num, by omega, by rw [HF.out], Lib.hid (HBn.out _)⟩
        case measure => simp [intOf]; omega
    · obtain rfl : k = 27 := by omega
      have HE' := HE.out
      go_wp2_with fail
      go_ret
      exact ⟨ret_int (by rw [HE.out]), HBw.out⟩
end Go.Proofs.YtgffiggnmklcoaaGreatDoor
