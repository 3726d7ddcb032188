/- The law on every text's tokens: its walk. -/
import Derived.Test.YtgffiggnmklcoaaGreatDoorT5
namespace Go.Proofs.YtgffiggnmklcoaaGreatDoor
open Go.RowKit

theorem allT_of {l : List UInt8} (_h : ¬ 65536 < l.length) (h0 : (allF l).1 = 0) : allT l = (lexAll l).1.map (·.2) := (all_zero h0).2.2.1
theorem lexAll_count (l : List UInt8) : (lexAll l).1.length ≤ l.length := by
  have := (lexF_count l l.length 0).1
  rw [lexAll]; omega

theorem pl_mono {w : World} {N M : Nat} {ns : List Nat} {p : Option Addr} (h : PlIn w N ns p) (hM : N ≤ M) : PlIn w M ns p := by
  rcases h with h | ⟨b, o, hp, hb, hc⟩
  · exact .inl h
  · exact .inr ⟨b, o, hp, Nat.lt_of_lt_of_le hb hM, hc⟩
theorem neq_fault (a b c : Int) (w : World) : (binOp .neq 26 (.agg #[.int .i64 a, .int .i64 b, .int .i64 c]) (.agg #[.int .i64 a, .int .i64 b, .int .i64 c])).run Tryz.prog w = .ok (.bool false) w := by
  simp [go_sem]

set_option maxRecDepth 100000 in
set_option maxHeartbeats 3200000 in
theorem texts_long (s : ByteArray) (m : Int) (w : World) (hG : Glob w) (hl : 30000 < s.size) : Calls Tryz.prog 3 #[.string s, .int .i64 m] w fun e w' => e = .returned (.bool true) ∧ Below w.heap.size w w' := by
  have HK := Lib.hid (known_any w hG)
  clear hG
  go_enter Tryz.func3, Tryz.ntmps3
  go_wp2_with fail
  refine HK.out.mono ?_
  rintro e w1 ⟨rfl, hB1⟩
  go_wp2_with fail
  go_ret
  exact ⟨rfl, hB1⟩

set_option maxRecDepth 100000 in
set_option maxHeartbeats 6400000 in
theorem texts_law (s : ByteArray) (m : Int) (w : World) (hG : Glob w) : Calls Tryz.prog 3 #[.string s, .int .i64 m] w fun e w' => e = .returned (.bool true) ∧ Below w.heap.size w w' := by
  by_cases hl : 30000 < s.size
  · exact texts_long s m w hG hl
  have h3 := hG.2.2.2
  have HG := Lib.hid hG
  have HA := Lib.hid (all_any s w (by omega) hG)
  have HRA := Lib.hid (fun w => rall_any s w (by omega))
  have HK := Lib.hid (fun w h => known_any w h)
  obtain ⟨xs, hxs⟩ : ∃ xs, (lexAll s.data.toList).1 = xs := ⟨_, rfl⟩
  have hcnt := lexAll_count s.data.toList
  rw [hxs, ← size_len] at hcnt
  have HOn := Lib.hid (fun p q c d m w h1 h2 h3 => once_any s xs p q c d m w (by omega) hxs h1 h2 h3 (by omega))
  have HXs := Lib.hid hxs
  have hml : (xs.map (·.2)).length = xs.length := List.length_map _
  have hnl : (xs.map (·.1)).length = xs.length := List.length_map _
  have HEq : Hid ((allF s.data.toList).1 = 0 → allT s.data.toList = xs.map (·.2)) := Lib.hid (fun h => by rw [allT_of (by rw [← size_len]; omega) h, hxs])
  have HNo : Hid ((allF s.data.toList).1 ≠ 0 → allT s.data.toList = []) := Lib.hid (fun h => all_wrong h)
  have HLn := Lib.hid (And.intro hml hnl)
  clear hxs hG hml hnl
  go_enter Tryz.func3, Tryz.ntmps3
  go_wp2_with fail
  refine HA.out.mono ?_
  rintro e w1 ⟨⟨v, rfl, hR⟩, hB1⟩
  obtain ⟨p, cap, rfl, r1, r2, r3, r4⟩ := hR.reads
  have HB1 := Lib.hid hB1
  have HR1 := Lib.hid (And.intro r1 (And.intro r2 r4))
  clear hR r1 r2 r3 r4 hB1
  go_wp2_with fail
  obtain ⟨⟨er, L, C⟩, hff⟩ : ∃ ff, allF s.data.toList = ff := ⟨_, rfl⟩
  rw [hff] at HEq HNo ⊢
  simp only at HEq HNo ⊢
  have HBf := Lib.hid (HB1.out.alloc HB1.out.size (.cells #[.int .i64 er, .int .i64 L, .int .i64 C] 26))
  have hf1 := heap_alloc_new w1 (.cells #[.int .i64 er, .int .i64 L, .int .i64 C] 26)
  have hR1f : TksIn (w1.alloc (.cells #[.int .i64 er, .int .i64 L, .int .i64 C] 26)) w1.heap.size (allT s.data.toList) p := HR1.out.2.2.later (Nat.le_refl _) ((Below.refl _ w1).alloc (Nat.le_refl _) _)
  refine (HRA.out _).mono ?_
  rintro e w2 ⟨⟨v2, u2, he2, hT2, hI2⟩, hB2⟩
  rw [hff] at he2
  subst he2
  rw [HXs.out] at hT2 hI2
  obtain ⟨q, cap2, rfl, q1, _, _, q4⟩ := hT2.reads
  obtain ⟨q2, d2, rfl, i1, i4⟩ := hI2.reads
  have hf2 := (hB2.block _ (lt_of_block hf1)).trans hf1
  have HB2 := Lib.hid (HBf.out.trans (hB2.mono HBf.out.size))
  have hb4 : Below w2.heap.size w2 (w2.alloc (.cells #[.int .i64 er, .int .i64 L, .int .i64 C] 26)) := (Below.refl _ _).alloc (Nat.le_refl _) _
  have HB3 := Lib.hid (HB2.out.trans (hb4.mono HB2.out.size))
  have hzz : w2.heap.size ≤ (w2.alloc (.cells #[.int .i64 er, .int .i64 L, .int .i64 C] 26)).heap.size := by simp
  have HT3 := Lib.hid ((q4.later (Nat.le_refl _) hb4).mono' hzz)
  have HI3 := Lib.hid (pl_mono (i4.later (Nat.le_refl _) hb4) hzz)
  have HR3 := Lib.hid ((hR1f.later (Nat.le_trans (Nat.le_succ _) (by simp)) (hB2.trans (hb4.mono hB2.size))).mono' (M := (w2.alloc (.cells #[.int .i64 er, .int .i64 L, .int .i64 C] 26)).heap.size) (by have := hB2.size; simp at this ⊢; omega))
  have g0 : w2.cell? ⟨w1.heap.size, 0, none⟩ = some (.int .i64 er) := by simp [World.cell?, hf2]
  have g1 : w2.cell? ⟨w1.heap.size, 1, none⟩ = some (.int .i64 L) := by simp [World.cell?, hf2]
  have g2 : w2.cell? ⟨w1.heap.size, 2, none⟩ = some (.int .i64 C) := by simp [World.cell?, hf2]
  have hzl : w1.heap.size < w2.heap.size := lt_of_block hf2
  have nf := neq_fault er L C
  rw [HLn.out.1] at q1 ⊢
  rw [HLn.out.2] at i1 ⊢
  clear hT2 hI2 hB2 hf1 hf2 hR1f q4 i4 hff hb4 hzz
  by_cases he : er = 0
  · subst he
    have ht := HEq.out rfl
    have HR3' := HR3.out
    rw [ht] at HR3'
    have hr1 := HR1.out.1
    rw [ht, HLn.out.1] at hr1
    rw [ht, HLn.out.1]
    have HSm := Lib.hid (sameTk_any (xs.map (·.2)) p q cap cap2 _ _ HR3' HT3.out (Nat.le_refl _) (by rw [HLn.out.1]; omega) (by rw [HLn.out.1]; exact hr1) (by rw [HLn.out.1]; exact q1))
    rw [HLn.out.1] at HSm
    clear ht HR3 HR3' hr1 HEq HNo HR1
    go_wp2_with fail
    refine HSm.out.mono ?_
    rintro e w4 ⟨rfl, hB4⟩
    have HB4 := Lib.hid (HB3.out.trans (hB4.mono HB3.out.size))
    have HT4 := Lib.hid ((HT3.out.later (Nat.le_refl _) hB4).mono' hB4.size)
    have HI4 := Lib.hid (pl_mono (HI3.out.later (Nat.le_refl _) hB4) hB4.size)
    have k0 : w4.cell? ⟨w2.heap.size, 0, none⟩ = some (.int .i64 ((0 : Nat) : Int)) := (hB4.cell (p := ⟨w2.heap.size, 0, none⟩) (by simp)).trans (by simp [go_sem])
    have HO1 := Lib.hid (fun m => HOn.out q q2 cap2 d2 m w4 (HG.out.later h3 HB4.out) HT4.out HI4.out)
    clear hB4 HSm HT3 HI3
    go_wp2_with fail
    refine (HO1.out m).mono ?_
    rintro e w5 ⟨rfl, hB5⟩
    have HB5 := Lib.hid (HB4.out.trans (hB5.mono HB4.out.size))
    have HO2 := Lib.hid (HOn.out q q2 cap2 d2 0 w5 (HG.out.later h3 HB5.out) ((HT4.out.later (Nat.le_refl _) hB5).mono' hB5.size) (pl_mono (HI4.out.later (Nat.le_refl _) hB5) hB5.size))
    clear hB5 HO1
    go_wp2_with fail
    refine HO2.out.mono ?_
    rintro e w6 ⟨rfl, hB6⟩
    have HB6 := Lib.hid (HB5.out.trans (hB6.mono HB5.out.size))
    clear hB6 HO2
    go_wp2_with fail
    refine (HK.out _ (HG.out.later h3 HB6.out)).mono ?_
    rintro e w7 ⟨rfl, hB7⟩
    have HB7 := Lib.hid (HB6.out.trans (hB7.mono HB6.out.size))
    clear hB7
    go_wp2_with fail
    go_ret
    exact ⟨rfl, HB7.out⟩
  · have e0 : ((er : Int) == 0) = false := by simp; exact he
    have e1 : ((er : Int) != 0) = true := by simp; exact he
    have ht := HNo.out he
    rw [ht, List.length_nil]
    obtain ⟨w4, hw4⟩ : ∃ w4, w2.alloc (.cells #[.int .i64 er, .int .i64 L, .int .i64 C] 26) = w4 := ⟨_, rfl⟩
    rw [hw4] at HB3 HT3 HI3
    have HB4 := HB3
    have HT4 := HT3
    have HI4 := HI3
    have HO1 := Lib.hid (fun m => HOn.out q q2 cap2 d2 m w4 (HG.out.later h3 HB4.out) HT4.out HI4.out)
    have HW4 := Lib.hid hw4
    clear ht HR3 HEq HNo HR1 HT3 HI3 HB3 hw4 he
    go_wp2_with fail
    rw [HW4.out]
    refine (HO1.out m).mono ?_
    rintro e w5 ⟨rfl, hB5⟩
    have HB5 := Lib.hid (HB4.out.trans (hB5.mono HB4.out.size))
    have HO2 := Lib.hid (HOn.out q q2 cap2 d2 0 w5 (HG.out.later h3 HB5.out) ((HT4.out.later (Nat.le_refl _) hB5).mono' hB5.size) (pl_mono (HI4.out.later (Nat.le_refl _) hB5) hB5.size))
    clear hB5 HO1
    go_wp2_with fail
    refine HO2.out.mono ?_
    rintro e w6 ⟨rfl, hB6⟩
    have HB6 := Lib.hid (HB5.out.trans (hB6.mono HB5.out.size))
    clear hB6 HO2
    go_wp2_with fail
    refine (HK.out _ (HG.out.later h3 HB6.out)).mono ?_
    rintro e w7 ⟨rfl, hB7⟩
    have HB7 := Lib.hid (HB6.out.trans (hB7.mono HB6.out.size))
    clear hB7
    go_wp2_with fail
    go_ret
    exact ⟨rfl, HB7.out⟩
end Go.Proofs.YtgffiggnmklcoaaGreatDoor
