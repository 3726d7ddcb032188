/- The law on gaps between tokens: its walk. -/
import Derived.Test.YtgffiggnmklcoaaGreatDoorH4
import Derived.Test.YtgffiggnmklcoaaGreatDoorS2
import Derived.Test.YtgffiggnmklcoaaGreatDoorM3
import Derived.Deep.QuietTactic
import Derived.BigQuiet
import Derived.IntWalk
import Derived.Outline
namespace Go.Proofs.YtgffiggnmklcoaaGreatDoor
open Go.RowKit

theorem lexF_count (l : List UInt8) (f a : Nat) : (lexF l f a).1.length ≤ l.length - a ∧ ∀ x ∈ (lexF l f a).1, x.2.text.length ≤ l.length := by
  induction f generalizing a with
  | zero => exact ⟨Nat.zero_le _, fun x hx => by cases hx⟩
  | succ f ih =>
    rw [lexF]
    split
    · exact ⟨Nat.zero_le _, fun x hx => by cases hx⟩
    · rename_i ha
      split
      · exact ⟨Nat.le_trans (ih (a + 1)).1 (by omega), (ih (a + 1)).2⟩
      · split
        · exact ⟨Nat.le_trans (ih _).1 (by omega), (ih _).2⟩
        · split
          · exact ⟨Nat.zero_le _, fun x hx => by cases hx⟩
          · rename_i he
            have hp : 0 < (oneT (l.drop a)).length := by
              rw [oneT_len]; exact oneN_pos (by rw [List.drop_eq_getElem_cons (by omega)]; exact List.cons_ne_nil _ _) (by omega)
            refine ⟨?_, fun x hx => ?_⟩
            · have := (ih (a + (oneT (l.drop a)).length)).1
              simp only [List.length_cons]; omega
            · rcases List.mem_cons.1 hx with rfl | hx
              · show (oneT (l.drop a)).length ≤ _
                have := oneN_le (l.drop a)
                rw [oneT_len]; rw [List.length_drop] at this; omega
              · exact (ih _).2 x hx
theorem allT_count (l : List UInt8) : (allT l).length ≤ l.length ∧ ∀ t ∈ allT l, t.text.length ≤ l.length := by
  have h := lexF_count l l.length 0
  unfold allT
  split
  · exact ⟨Nat.zero_le _, fun x hx => by cases hx⟩
  · split
    · refine ⟨by rw [List.length_map]; exact h.1, fun t ht => ?_⟩
      obtain ⟨x, hx, rfl⟩ := List.mem_map.1 ht
      exact h.2 x hx
    · exact ⟨Nat.zero_le _, fun x hx => by cases hx⟩
theorem TzsIn.mono {w : World} {N N' : Nat} {ts : List Tz} {p : Option Addr} (h : TzsIn w N ts p) (hN : N ≤ N') : TzsIn w N' ts p := by
  rcases h with h | ⟨b, o, hp, hb, hc⟩
  · exact .inl h
  · exact .inr ⟨b, o, hp, by omega, hc⟩
theorem append_data (a b : ByteArray) : (a ++ b).data.toList = a.data.toList ++ b.data.toList := by rw [ByteArray.data_append]; simp

set_option maxRecDepth 100000 in
set_option maxHeartbeats 6400000 in
theorem spaces_law (s : ByteArray) (n : Nat) (w : World) (hG : Glob w) (hn : n < 18446744073709551616) : Calls Tryz.prog 9 #[.string s, .int .u64 (n : Int)] w fun e w' => e = .returned (.bool true) ∧ Below w.heap.size w w' := by
  have HK := Lib.hid (fun w h => known_any w h)
  have HG := Lib.hid hG
  have h3 := hG.2.2.2
  clear hG
  by_cases hl : 9000 < s.size
  · go_enter Tryz.func9, Tryz.ntmps9
    go_wp2_with fail
    refine (HK.out _ HG.out).mono ?_
    rintro e w1 ⟨rfl, hB1⟩
    go_wp2_with fail
    go_ret
    exact ⟨rfl, hB1⟩
  have HA := Lib.hid (all_any s w (by omega) HG.out)
  have hsl := size_len s
  by_cases hE : (allF s.data.toList).1 ≠ 0
  · have hT := all_wrong hE
    have e0 : (((allF s.data.toList).1 : Int) != 0) = true := by simp; omega
    clear hT hsl
    clear hE
    go_enter Tryz.func9, Tryz.ntmps9
    go_wp2_with fail
    refine HA.out.mono ?_
    rintro e w1 ⟨⟨v, rfl, hR⟩, hB1⟩
    obtain ⟨p, cap, rfl, _⟩ := hR.reads
    have HB1 := Lib.hid (hB1.alloc hB1.size (.cells #[.int .i64 ((allF s.data.toList).1 : Int), .int .i64 ((allF s.data.toList).2.1 : Int), .int .i64 ((allF s.data.toList).2.2 : Int)] 26))
    clear hB1 hR
    go_wp2_with fail
    refine (HK.out _ (HG.out.later h3 HB1.out)).mono ?_
    rintro e w2 ⟨rfl, hB⟩
    have HB2 := Lib.hid (HB1.out.trans (hB.mono HB1.out.size))
    clear hB
    go_wp2_with fail
    go_ret
    exact ⟨rfl, HB2.out⟩
  obtain ⟨hl6, hlx, hTT, hF0, hok⟩ := all_zero (l := s.data.toList) (by omega)
  obtain ⟨hc1, hc2⟩ := allT_count s.data.toList
  rw [← hsl] at hc1 hc2
  obtain ⟨ts, hts⟩ : ∃ ts, allT s.data.toList = ts := ⟨_, rfl⟩
  rw [hts] at hc1 hc2 hok
  have HOk := Lib.hid hok
  have HC2 := Lib.hid hc2
  have HTs := Lib.hid hts
  have HF0 := Lib.hid hF0
  have hcl : ts.length ≤ 9000 := by omega
  obtain ⟨g0, hg0⟩ : ∃ g0, n % 5 = g0 := ⟨_, rfl⟩
  have hg5 : g0 < 5 := by omega
  have hgi : (n : Int) % 5 = (g0 : Int) := by omega
  obtain ⟨d, hd⟩ : ∃ d, n / 5 = d := ⟨_, rfl⟩
  have hdt : (n : Int).tdiv 5 = (d : Int) := by rw [Int.tdiv_eq_ediv_of_nonneg (by omega)]; omega
  have hdb : d ≤ 3689348814741910323 := by omega
  clear hE hlx hTT hF0 hok hc1 hc2 hl6 hts hg0 hd hsl
  go_enter Tryz.func9, Tryz.ntmps9
  go_wp2_with fail
  refine HA.out.mono ?_
  rintro e w1 ⟨⟨v, rfl, hR⟩, hB1⟩
  rw [HTs.out] at hR
  rw [HF0.out]
  obtain ⟨p, cap, rfl, r1, r2, r3, r4⟩ := hR.reads
  have HT1 := Lib.hid r4.z
  have HB1 := Lib.hid hB1
  obtain ⟨wg, hwg⟩ : ∃ wg, ((w1.alloc (.cells #[.int .i64 0, .int .i64 0, .int .i64 0] 26)).alloc (.cells #[.string ⟨#[32]⟩, .string ⟨#[10]⟩, .string ⟨#[9, 32, 9]⟩, .string ⟨#[32, 35, 32, 97, 32, 110, 111, 116, 101, 32, 36, 10]⟩, .string ⟨#[13, 10]⟩] 9)) = wg := ⟨_, rfl⟩
  have HBg := Lib.hid (show Below w1.heap.size w1 wg by rw [← hwg]; exact ((Below.refl _ w1).alloc (Nat.le_refl _) _).alloc (by simp) _)
  have HGp := Lib.hid (show w1.heap.size + 1 < wg.heap.size ∧ ∀ i, i < 5 → wg.cell? ⟨w1.heap.size + 1, i, none⟩ = some (.string (str (gapL i))) by
    rw [← hwg]
    refine ⟨by simp, fun i hi => ?_⟩
    rcases i with _ | _ | _ | _ | _ | i
    · simp [go_sem]; rfl
    · simp [go_sem]; rfl
    · simp [go_sem]; rfl
    · simp [go_sem]; rfl
    · simp [go_sem]; rfl
    · omega)
  have hcg := (HGp.out.2 g0 hg5)
  have HWg := Lib.hid hwg
  have i0 : (0 : Int) ≤ (g0 : Int) := by omega
  have i5 : (g0 : Int) < 5 := by omega
  clear hB1 hR r4
  have hz1 : ((0 : Int) != 0) = false := rfl
  go_wp2_with fail
  clear hcg hwg
  go_loopw [8, 9] (fun x i wr => ∃ (k : Nat) (S : ByteArray), i = .int .i64 k ∧ k ≤ ts.length ∧ x = .string S ∧ Hid (S.data.toList = gapL g0 ++ catG (fun i => (d + i) % 5) 0 (ts.take k)) ∧ S.size ≤ 12 + k * 9012 ∧ Hid (Below wg.heap.size wg wr)) (fun _ i _ => ts.length - (intOf i).toNat)
  case atStart => exact ⟨0, str (gapL g0), rfl, by omega, rfl, Lib.hid (by rw [str_data, List.take_zero, catG, List.append_nil]), by have := (gap_len g0).2; rw [size_len, str_data]; omega, Lib.hid (Below.refl _ _)⟩
  case round =>
    obtain ⟨k, S, rfl, hk, rfl, hS, hSz, hB⟩ := hrel
    by_cases hlt : k < ts.length
    · obtain ⟨t, ht⟩ : ∃ t, ts[k]? = some t := ⟨_, List.getElem?_eq_getElem hlt⟩
      have htz : (ts.map Tk.z)[k]? = some t.z := by rw [List.getElem?_map, ht]; rfl
      obtain ⟨b, o, rfl, hb, hA⟩ : ∃ b o, p = some ⟨b, o, none⟩ ∧ b < w1.heap.size ∧ ∀ i t, (ts.map Tk.z)[i]? = some t → TzAt w1 t b (o + i * 5) := by
        rcases HT1.out with h0 | h0
        · rw [List.length_map] at h0; omega
        · exact h0
      have hBw := HBg.out.trans (hB.out.mono HBg.out.size)
      obtain ⟨c0, c1', c2, c3, c4⟩ := (hA k t.z htz).later hb hBw
      have c1 : wr.cell? ⟨b, o + k * 5 + 1, none⟩ = some (.string (str t.text)) := c1'
      obtain ⟨m, hm⟩ : ∃ m, d + k = m := ⟨_, rfl⟩
      obtain ⟨r, hr⟩ : ∃ r, m % 5 = r := ⟨_, rfl⟩
      have hr5 : r < 5 := by omega
      have cg := (hB.out.cell (p := ⟨w1.heap.size + 1, r, none⟩) HGp.out.1).trans (HGp.out.2 r hr5)
      have hck : IntKind.u64.wrap (k : Int) = (k : Int) := by simp [IntKind.wrap, IntKind.bits, IntKind.signed]; omega
      have hdk : IntKind.u64.wrap ((d : Int) + (k : Int)) = (m : Int) := by simp [IntKind.wrap, IntKind.bits, IntKind.signed]; omega
      have hmr : (m : Int).tmod 5 = (r : Int) := by rw [Int.tmod_eq_emod_of_nonneg (by omega)]; omega
      have htl := HC2.out t (List.mem_of_getElem? ht)
      have hts : (str t.text).size ≤ 9000 := by rw [size_len, str_data]; omega
      have hgs : (str (gapL r)).size ≤ 12 := by rw [size_len, str_data]; exact (gap_len r).2
      have z1 : ¬ 9223372036854775807 < S.size + (str t.text).size := by omega
      have z2 : ¬ 9223372036854775807 < (S ++ str t.text).size + (str (gapL r)).size := by rw [ByteArray.size_append]; omega
      have z3 : ¬ 9223372036854775807 < S.size + (str t.text).size + (str (gapL r)).size := by omega
      have HS' := Lib.hid (show (S ++ str t.text ++ str (gapL r)).data.toList = gapL g0 ++ catG (fun i => (d + i) % 5) 0 (ts.take (k + 1)) ∧ (S ++ str t.text ++ str (gapL r)).size ≤ 12 + (k + 1) * 9012 by
        refine ⟨?_, by rw [ByteArray.size_append, ByteArray.size_append]; omega⟩
        have hk' := (List.getElem?_eq_some_iff.1 ht)
        have htk : ts.take (k + 1) = ts.take k ++ [t] := by rw [List.take_succ_eq_append_getElem hk'.1, hk'.2]
        have hkl : (ts.take k).length = k := by rw [List.length_take]; omega
        rw [append_data, append_data, hS.out, htk, catG_snoc, hkl, str_data, str_data]
        have e : (d + (0 + k)) % 5 = r := by omega
        simp only [e, List.append_assoc])
      have HBn := Lib.hid (fun n => below_drewN' hB.out n)
      have i0 : (0 : Int) ≤ (k : Int) := by omega
      have i1 : (k : Int) < (ts.length : Int) := by omega
      have j0 : (0 : Int) ≤ (r : Int) := by omega
      have j1 : (r : Int) < 5 := by omega
      clear hA ht htz htl hm hr c0 c1' c2 c3 c4 hBw
      go_wp2_with fail
      go_quiet (fail)
      go_wp2_with fail
      go_roundw
      case rel => exact ⟨k + 1, S ++ str t.text ++ str (gapL r), by go_num, by omega, rfl, Lib.hid HS'.out.1, HS'.out.2, Lib.hid (HBn.out _)⟩
      case measure => simp [intOf]; omega
    · obtain rfl : k = ts.length := by omega
      have hS0 := hS.out
      rw [List.take_length] at hS0
      have HT : Hid (S.data.toList = spaced g0 (fun i => (d + i) % 5) ts) := Lib.hid hS0
      have hsz : S.size ≤ 81108012 := by omega
      have HA2 := Lib.hid (all_any S wr (by omega) (HG.out.later h3 (HB1.out.trans ((HBg.out.trans (hB.out.mono HBg.out.size)).mono HB1.out.size))))
      rw [HT.out] at HA2
      have HBr := Lib.hid (HBg.out.trans (hB.out.mono HBg.out.size))
      have HBt := Lib.hid (HB1.out.trans (HBr.out.mono HB1.out.size))
      have hlS : (spaced g0 (fun i => (d + i) % 5) ts).length = S.size := by rw [size_len, HT.out]
      clear hS0
      by_cases hlong : 65536 < S.size
      · obtain ⟨h1, h2⟩ := all_long (l := spaced g0 (fun i => (d + i) % 5) ts) (by rw [hlS]; exact hlong)
        have e0 : ((3 : Int) == 0) = false := rfl
        have HH1 := Lib.hid h1
        have HH2 := Lib.hid h2
        clear h1 h2 hlS
        go_wp2_with fail
        refine HA2.out.mono ?_
        rintro e w3 ⟨⟨v, rfl, hR⟩, hB3⟩
        rw [HH2.out]
        obtain ⟨p2, cap2, rfl, _⟩ := hR.reads
        have HB3 := Lib.hid ((HBt.out.trans (hB3.mono HBt.out.size)).alloc (Nat.le_trans HBt.out.size hB3.size) (.cells #[.int .i64 3, .int .i64 0, .int .i64 0] 26))
        clear hB3 hR
        go_wp2_with fail
        refine (num_any 3 _).mono ?_
        rintro e w' ⟨rfl, rfl⟩
        go_wp2_with fail
        refine (HK.out _ (HG.out.later h3 HB3.out)).mono ?_
        rintro e w4 ⟨rfl, hB⟩
        have HB4 := Lib.hid (HB3.out.trans (hB.mono HB3.out.size))
        clear hB
        go_wp2_with fail
        go_ret
        exact ⟨rfl, HB4.out⟩
      · obtain ⟨h2, h1⟩ := spaced_same g0 (fun i => (d + i) % 5) HOk.out (by rw [hlS]; exact hlong)
        have e0 : ((0 : Int) == 0) = true := rfl
        have HH1 := Lib.hid h1
        have HH2 := Lib.hid h2
        clear h1 h2 hlS
        go_wp2_with fail
        refine HA2.out.mono ?_
        rintro e w3 ⟨⟨v, rfl, hR⟩, hB3⟩
        rw [HH2.out]
        obtain ⟨p2, cap2, rfl, q1, q2, q3, q4⟩ := hR.reads
        have HB3 := Lib.hid ((HBt.out.trans (hB3.mono HBt.out.size)).alloc (Nat.le_trans HBt.out.size hB3.size) (.cells #[.int .i64 0, .int .i64 0, .int .i64 0] 26))
        have HBf := Lib.hid ((Below.refl _ w3).alloc (Nat.le_refl _) (.cells #[.int .i64 0, .int .i64 0, .int .i64 0] 26))
        have HSm := Lib.hid (same_any (ts.map Tk.z) ((allT (spaced g0 (fun i => (d + i) % 5) ts)).map Tk.z) p p2 cap cap2 w3.heap.size _ (((HT1.out.later (Nat.le_refl _) HBr.out).later (n := wr.heap.size) HBr.out.size hB3).later (n := w3.heap.size) (Nat.le_trans HBr.out.size hB3.size) HBf.out |>.mono (Nat.le_trans HBr.out.size hB3.size)) ((q4.z.later (Nat.le_refl _) HBf.out)) (by simp) (by rw [List.length_map]; exact r1) r2 (by rw [List.length_map]; exact q1) q2)
        rw [HH1.out, List.length_map, List.length_map] at HSm
        clear hB3 hR q3 q4
        go_wp2_with fail
        refine HSm.out.mono ?_
        rintro e w4 ⟨rfl, hB⟩
        have HB4 := Lib.hid (HB3.out.trans (hB.mono HB3.out.size))
        clear hB
        go_wp2_with fail
        refine (HK.out _ (HG.out.later h3 HB4.out)).mono ?_
        rintro e w5 ⟨rfl, hB⟩
        have HB5 := Lib.hid (HB4.out.trans (hB.mono HB4.out.size))
        clear hB
        go_wp2_with fail
        go_ret
        exact ⟨rfl, HB5.out⟩
end Go.Proofs.YtgffiggnmklcoaaGreatDoor
