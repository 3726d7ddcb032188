/- known. -/
import Derived.Test.YtihmibggonffdaaGreatLB7
namespace Go.Proofs.YtihmibggonffdaaGreat
open Go.RowKit

set_option maxRecDepth 100000 in
set_option maxHeartbeats 12800000 in
theorem known_any (w : World) :
   Calls Tryz.prog 7 #[] w fun z w' => z = .returned (.bool true) ∧ Below w.heap.size w w' := by
 have HB := Lib.hid (Below.refl w.heap.size w)
 have HS := Lib.hid (Nat.le_refl w.heap.size)
 go_enter Tryz.func7, Tryz.ntmps7
 go_wp2_with fail
 refine (lword_any [120] w).mono ?_
 rintro z w1 ⟨rfl, hB⟩
 replace HB := Lib.hid (HB.out.trans (hB.mono HB.out.size))
 clear hB
 go_wp2_with fail
 refine (num_any 1 w1).mono ?_
 rintro z w2 ⟨rfl, hB⟩
 replace HB := Lib.hid (HB.out.trans (hB.mono HB.out.size))
 clear hB
 go_wp2_with fail
 refine (two_any 6 2 0 1 1 [120] [] none none 0 0 0 0 w2).mono ?_
 rintro z w3 ⟨HAr, rfl, hr, hB⟩
 replace HB := Lib.hid (HB.out.trans (hB.mono HB.out.size))
 have HA := Lib.hid hr
 clear hB hr
 go_wp2_with fail
 refine (lset_any [121] 6 0 [] (some ⟨HAr, 0, none⟩) 2 2 w3).mono ?_
 rintro z w4 ⟨rfl, hB⟩
 replace HA := Lib.hid ((hB.block _ (lt_blk HA.out)).trans HA.out)
 replace HB := Lib.hid (HB.out.trans (hB.mono HB.out.size))
 clear hB
 obtain ⟨w5, hw, kr, hB, hz⟩ := one_alloc w4 (.cells #[.int .i64 1, .string (str [121]), .slice none 0 0, .int .i64 6, .int .u64 0, .string (str []), .slice (some ⟨HAr, 0, none⟩) 2 2, .int .i64 0, .int .u64 0, .string (str []), .slice none 0 0, .slice none 0 0, .int .u64 0, .int .u64 0, .slice none 0 0, .slice none 0 0] 45)
 replace HA := Lib.hid ((hB.block _ (lt_blk HA.out)).trans HA.out)
 replace HB := Lib.hid (HB.out.trans (hB.mono HB.out.size))
 have HC := Lib.hid kr
 have HZ5 := Lib.hid hz
 have HW5 := Lib.hid hw
 clear hw kr hB hz
 go_wp2_with fail
 erw [HW5.out]
 have hl : ∀ W : World, W.heap[HAr]? = some (.cells #[.int .i64 2, .int .u64 0, .string (str [120]), .slice none 0 0, .int .i64 1, .int .u64 1, .string (str []), .slice none 0 0] 40 (0, 0)) → W.heap[w4.heap.size]? = some (.cells #[.int .i64 1, .string (str [121]), .slice none 0 0, .int .i64 6, .int .u64 0, .string (str []), .slice (some ⟨HAr, 0, none⟩) 2 2, .int .i64 0, .int .u64 0, .string (str []), .slice none 0 0, .slice none 0 0, .int .u64 0, .int .u64 0, .slice none 0 0, .slice none 0 0] 45 (0, 0)) → kl1.In W w5.heap.size (some ⟨w4.heap.size, 0, none⟩) := fun W ha hc => ⟨show 1 ≤ 140737488355328 by decide, .inr ⟨_, 0, rfl, (lt_blk HC.out), st_at (e := exT 6 (exV [120]) (exN 1)) (a := ex0) (g := .nil) (bd := .nil) hc 0 rfl (by decide) (by decide) (two_in ha (lt_blk HA.out) (by decide) (by decide) exs0 exs0) exs0 exs0 sts0, trivial⟩⟩
 have HL := Lib.hid (And.intro (hl w5 HA.out HC.out) (hl (zc w5) (zc_blk HA.out) (zc_blk HC.out)))
 clear hl
 refine (main_any kl1 (some ⟨w4.heap.size, 0, none⟩) 1 w5).mono ?_
 rintro z w6 ⟨rfl, hA, hs, hB⟩
 have HM := Lib.hid (main_ok kr1 (by decide) hA hs hB HL.out.1 HL.out.2 (Nat.le_refl _))
 clear HA HC
 replace HB := Lib.hid (HB.out.trans (hB.mono HB.out.size))
 clear hA hs hB HL
 go_wp2_with fail
 refine HM.out.mono ?_
 rintro z w7 ⟨r1, c1, rfl, hc, hr, hB⟩
 replace HB := Lib.hid (HB.out.trans (hB.mono HB.out.size))
 have HRow1 := Lib.hid (And.intro hc hr)
 clear hB HM hc hr
 go_wp2_with fail
 refine (lword_any [120] w7).mono ?_
 rintro z w8 ⟨rfl, hB⟩
 replace HRow1 := Lib.hid (And.intro ((hB.cell HRow1.out.2).trans HRow1.out.1) (Nat.lt_of_lt_of_le HRow1.out.2 hB.size))
 replace HB := Lib.hid (HB.out.trans (hB.mono HB.out.size))
 clear hB
 obtain ⟨w9, hw, kr, hB, hz⟩ := one_alloc w8 (.cells #[.int .i64 3, .string (str []), .slice none 0 0, .int .i64 2, .int .u64 0, .string (str [120]), .slice none 0 0, .int .i64 0, .int .u64 0, .string (str []), .slice none 0 0, .slice none 0 0, .int .u64 0, .int .u64 0, .slice none 0 0, .slice none 0 0] 45)
 replace HRow1 := Lib.hid (And.intro ((hB.cell HRow1.out.2).trans HRow1.out.1) (Nat.lt_of_lt_of_le HRow1.out.2 hB.size))
 replace HB := Lib.hid (HB.out.trans (hB.mono HB.out.size))
 have HC := Lib.hid kr
 have HZ9 := Lib.hid hz
 have HW9 := Lib.hid hw
 clear hw kr hB hz
 go_wp2_with fail
 erw [HW9.out]
 have hl : ∀ W : World, W.heap[w8.heap.size]? = some (.cells #[.int .i64 3, .string (str []), .slice none 0 0, .int .i64 2, .int .u64 0, .string (str [120]), .slice none 0 0, .int .i64 0, .int .u64 0, .string (str []), .slice none 0 0, .slice none 0 0, .int .u64 0, .int .u64 0, .slice none 0 0, .slice none 0 0] 45 (0, 0)) → kl2.In W w9.heap.size (some ⟨w8.heap.size, 0, none⟩) := fun W hc => ⟨show 1 ≤ 140737488355328 by decide, .inr ⟨_, 0, rfl, (lt_blk HC.out), st_at (e := exV [120]) (a := ex0) (g := .nil) (bd := .nil) hc 0 rfl (by decide) (by decide) exs0 exs0 exs0 sts0, trivial⟩⟩
 have HL := Lib.hid (And.intro (hl w9 HC.out) (hl (zc w9) (zc_blk HC.out)))
 clear hl
 refine (main_any kl2 (some ⟨w8.heap.size, 0, none⟩) 1 w9).mono ?_
 rintro z w10 ⟨rfl, hA, hs, hB⟩
 have HM := Lib.hid (main_no kr2 (by decide) hA hs hB HL.out.1 HL.out.2 (Nat.le_refl _))
 clear HC
 replace HB := Lib.hid (HB.out.trans (hB.mono HB.out.size))
 replace HRow1 := Lib.hid (And.intro ((hB.cell HRow1.out.2).trans HRow1.out.1) (Nat.lt_of_lt_of_le HRow1.out.2 hB.size))
 clear hA hs hB HL
 go_wp2_with fail
 refine HM.out.mono ?_
 rintro z w11 ⟨rfl, hB⟩
 replace HB := Lib.hid (HB.out.trans (hB.mono HB.out.size))
 replace HRow1 := Lib.hid (And.intro ((hB.cell HRow1.out.2).trans HRow1.out.1) (Nat.lt_of_lt_of_le HRow1.out.2 hB.size))
 clear hB HM
 go_wp2_with fail
 refine (lword_any [120] w11).mono ?_
 rintro z w12 ⟨rfl, hB⟩
 replace HRow1 := Lib.hid (And.intro ((hB.cell HRow1.out.2).trans HRow1.out.1) (Nat.lt_of_lt_of_le HRow1.out.2 hB.size))
 replace HB := Lib.hid (HB.out.trans (hB.mono HB.out.size))
 clear hB
 go_wp2_with fail
 refine (num_any 1 w12).mono ?_
 rintro z w13 ⟨rfl, hB⟩
 replace HRow1 := Lib.hid (And.intro ((hB.cell HRow1.out.2).trans HRow1.out.1) (Nat.lt_of_lt_of_le HRow1.out.2 hB.size))
 replace HB := Lib.hid (HB.out.trans (hB.mono HB.out.size))
 clear hB
 obtain ⟨w14, hw, kr, hB, hz⟩ := one_alloc w13 (.cells #[.int .i64 2, .string (str [115]), .slice none 0 0, .int .i64 1, .int .u64 1, .string (str []), .slice none 0 0, .int .i64 2, .int .u64 0, .string (str [120]), .slice none 0 0, .slice none 0 0, .int .u64 0, .int .u64 0, .slice none 0 0, .slice none 0 0] 45)
 replace HRow1 := Lib.hid (And.intro ((hB.cell HRow1.out.2).trans HRow1.out.1) (Nat.lt_of_lt_of_le HRow1.out.2 hB.size))
 replace HB := Lib.hid (HB.out.trans (hB.mono HB.out.size))
 have HC := Lib.hid kr
 have HZ14 := Lib.hid hz
 have HW14 := Lib.hid hw
 clear hw kr hB hz
 go_wp2_with fail
 erw [HW14.out]
 have hl : ∀ W : World, W.heap[w13.heap.size]? = some (.cells #[.int .i64 2, .string (str [115]), .slice none 0 0, .int .i64 1, .int .u64 1, .string (str []), .slice none 0 0, .int .i64 2, .int .u64 0, .string (str [120]), .slice none 0 0, .slice none 0 0, .int .u64 0, .int .u64 0, .slice none 0 0, .slice none 0 0] 45 (0, 0)) → kl3.In W w14.heap.size (some ⟨w13.heap.size, 0, none⟩) := fun W hc => ⟨show 1 ≤ 140737488355328 by decide, .inr ⟨_, 0, rfl, (lt_blk HC.out), st_at (e := exN 1) (a := exV [120]) (g := .nil) (bd := .nil) hc 0 rfl (by decide) (by decide) exs0 exs0 exs0 sts0, trivial⟩⟩
 have HL := Lib.hid (And.intro (hl w14 HC.out) (hl (zc w14) (zc_blk HC.out)))
 clear hl
 refine (main_any kl3 (some ⟨w13.heap.size, 0, none⟩) 1 w14).mono ?_
 rintro z w15 ⟨rfl, hA, hs, hB⟩
 have HM := Lib.hid (main_no kr3 (by decide) hA hs hB HL.out.1 HL.out.2 (Nat.le_refl _))
 clear HC
 replace HB := Lib.hid (HB.out.trans (hB.mono HB.out.size))
 replace HRow1 := Lib.hid (And.intro ((hB.cell HRow1.out.2).trans HRow1.out.1) (Nat.lt_of_lt_of_le HRow1.out.2 hB.size))
 clear hA hs hB HL
 go_wp2_with fail
 refine HM.out.mono ?_
 rintro z w16 ⟨rfl, hB⟩
 replace HB := Lib.hid (HB.out.trans (hB.mono HB.out.size))
 replace HRow1 := Lib.hid (And.intro ((hB.cell HRow1.out.2).trans HRow1.out.1) (Nat.lt_of_lt_of_le HRow1.out.2 hB.size))
 clear hB HM
 go_wp2_with fail
 refine (lword_any [120] w16).mono ?_
 rintro z w17 ⟨rfl, hB⟩
 replace HRow1 := Lib.hid (And.intro ((hB.cell HRow1.out.2).trans HRow1.out.1) (Nat.lt_of_lt_of_le HRow1.out.2 hB.size))
 replace HB := Lib.hid (HB.out.trans (hB.mono HB.out.size))
 clear hB
 obtain ⟨w18, hw, kr, hB, hz⟩ := one_alloc w17 (.cells #[.int .i64 2, .int .u64 0, .string (str [120]), .slice none 0 0] 40)
 replace HRow1 := Lib.hid (And.intro ((hB.cell HRow1.out.2).trans HRow1.out.1) (Nat.lt_of_lt_of_le HRow1.out.2 hB.size))
 replace HB := Lib.hid (HB.out.trans (hB.mono HB.out.size))
 have HA := Lib.hid kr
 have HZ18 := Lib.hid hz
 have HW18 := Lib.hid hw
 clear hw kr hB hz
 obtain ⟨w19, hw, kr, hB, hz⟩ := one_alloc w18 (.cells #[.int .i64 6, .string (str [102]), .slice none 0 0, .int .i64 0, .int .u64 0, .string (str []), .slice none 0 0, .int .i64 0, .int .u64 0, .string (str []), .slice none 0 0, .slice (some ⟨w17.heap.size, 0, none⟩) 1 1, .int .u64 0, .int .u64 0, .slice none 0 0, .slice none 0 0] 45)
 rw [HZ18.out] at kr
 replace HA := Lib.hid ((hB.block _ (lt_blk HA.out)).trans HA.out)
 replace HRow1 := Lib.hid (And.intro ((hB.cell HRow1.out.2).trans HRow1.out.1) (Nat.lt_of_lt_of_le HRow1.out.2 hB.size))
 replace HB := Lib.hid (HB.out.trans (hB.mono HB.out.size))
 have HC := Lib.hid kr
 have HZ19 := Lib.hid hz
 have HW19 := Lib.hid hw
 clear hw kr hB hz
 go_wp2_with fail
 erw [HW18.out]
 erw [HW19.out]
 have hl : ∀ W : World, W.heap[w17.heap.size]? = some (.cells #[.int .i64 2, .int .u64 0, .string (str [120]), .slice none 0 0] 40 (0, 0)) → W.heap[w17.heap.size + 1]? = some (.cells #[.int .i64 6, .string (str [102]), .slice none 0 0, .int .i64 0, .int .u64 0, .string (str []), .slice none 0 0, .int .i64 0, .int .u64 0, .string (str []), .slice none 0 0, .slice (some ⟨w17.heap.size, 0, none⟩) 1 1, .int .u64 0, .int .u64 0, .slice none 0 0, .slice none 0 0] 45 (0, 0)) → kl4.In W w19.heap.size (some ⟨w17.heap.size + 1, 0, none⟩) := fun W ha hc => ⟨show 1 ≤ 140737488355328 by decide, .inr ⟨_, 0, rfl, (lt_blk HC.out), st_at (e := ex0) (a := ex0) (g := .cons (exV [120]) .nil) (bd := .nil) hc 0 rfl (by decide) (by decide) exs0 exs0 (one_ex ha (lt_blk HA.out) (by decide) exs0) sts0, trivial⟩⟩
 have HL := Lib.hid (And.intro (hl w19 HA.out HC.out) (hl (zc w19) (zc_blk HA.out) (zc_blk HC.out)))
 clear hl
 refine (main_any kl4 (some ⟨w17.heap.size + 1, 0, none⟩) 1 w19).mono ?_
 rintro z w20 ⟨rfl, hA, hs, hB⟩
 have HM := Lib.hid (main_no kr4 (by decide) hA hs hB HL.out.1 HL.out.2 (Nat.le_refl _))
 clear HA HC
 replace HB := Lib.hid (HB.out.trans (hB.mono HB.out.size))
 replace HRow1 := Lib.hid (And.intro ((hB.cell HRow1.out.2).trans HRow1.out.1) (Nat.lt_of_lt_of_le HRow1.out.2 hB.size))
 clear hA hs hB HL
 go_wp2_with fail
 refine HM.out.mono ?_
 rintro z w21 ⟨rfl, hB⟩
 replace HB := Lib.hid (HB.out.trans (hB.mono HB.out.size))
 replace HRow1 := Lib.hid (And.intro ((hB.cell HRow1.out.2).trans HRow1.out.1) (Nat.lt_of_lt_of_le HRow1.out.2 hB.size))
 clear hB HM
 go_wp2_with fail
 refine (lword_any [120] w21).mono ?_
 rintro z w22 ⟨rfl, hB⟩
 replace HRow1 := Lib.hid (And.intro ((hB.cell HRow1.out.2).trans HRow1.out.1) (Nat.lt_of_lt_of_le HRow1.out.2 hB.size))
 replace HB := Lib.hid (HB.out.trans (hB.mono HB.out.size))
 clear hB
 go_wp2_with fail
 refine (lset_any [121] 2 0 [120] none 0 0 w22).mono ?_
 rintro z w23 ⟨rfl, hB⟩
 replace HRow1 := Lib.hid (And.intro ((hB.cell HRow1.out.2).trans HRow1.out.1) (Nat.lt_of_lt_of_le HRow1.out.2 hB.size))
 replace HB := Lib.hid (HB.out.trans (hB.mono HB.out.size))
 clear hB
 go_wp2_with fail
 refine (num_any 0 w23).mono ?_
 rintro z w24 ⟨rfl, hB⟩
 replace HRow1 := Lib.hid (And.intro ((hB.cell HRow1.out.2).trans HRow1.out.1) (Nat.lt_of_lt_of_le HRow1.out.2 hB.size))
 replace HB := Lib.hid (HB.out.trans (hB.mono HB.out.size))
 clear hB
 go_wp2_with fail
 refine (lset_any [121] 1 0 [] none 0 0 w24).mono ?_
 rintro z w25 ⟨rfl, hB⟩
 replace HRow1 := Lib.hid (And.intro ((hB.cell HRow1.out.2).trans HRow1.out.1) (Nat.lt_of_lt_of_le HRow1.out.2 hB.size))
 replace HB := Lib.hid (HB.out.trans (hB.mono HB.out.size))
 clear hB
 go_wp2_with fail
 refine (lword_any [121] w25).mono ?_
 rintro z w26 ⟨rfl, hB⟩
 replace HRow1 := Lib.hid (And.intro ((hB.cell HRow1.out.2).trans HRow1.out.1) (Nat.lt_of_lt_of_le HRow1.out.2 hB.size))
 replace HB := Lib.hid (HB.out.trans (hB.mono HB.out.size))
 clear hB
 go_wp2_with fail
 refine (lword_any [121] w26).mono ?_
 rintro z w27 ⟨rfl, hB⟩
 replace HRow1 := Lib.hid (And.intro ((hB.cell HRow1.out.2).trans HRow1.out.1) (Nat.lt_of_lt_of_le HRow1.out.2 hB.size))
 replace HB := Lib.hid (HB.out.trans (hB.mono HB.out.size))
 clear hB
 go_wp2_with fail
 refine (num_any 1 w27).mono ?_
 rintro z w28 ⟨rfl, hB⟩
 replace HRow1 := Lib.hid (And.intro ((hB.cell HRow1.out.2).trans HRow1.out.1) (Nat.lt_of_lt_of_le HRow1.out.2 hB.size))
 replace HB := Lib.hid (HB.out.trans (hB.mono HB.out.size))
 clear hB
 go_wp2_with fail
 refine (two_any 7 2 0 1 1 [121] [] none none 0 0 0 0 w28).mono ?_
 rintro z w29 ⟨HAr, rfl, hr, hB⟩
 replace HRow1 := Lib.hid (And.intro ((hB.cell HRow1.out.2).trans HRow1.out.1) (Nat.lt_of_lt_of_le HRow1.out.2 hB.size))
 replace HB := Lib.hid (HB.out.trans (hB.mono HB.out.size))
 have HA := Lib.hid hr
 clear hB hr
 go_wp2_with fail
 refine (lset_any [121] 7 0 [] (some ⟨HAr, 0, none⟩) 2 2 w29).mono ?_
 rintro z w30 ⟨rfl, hB⟩
 replace HA := Lib.hid ((hB.block _ (lt_blk HA.out)).trans HA.out)
 replace HRow1 := Lib.hid (And.intro ((hB.cell HRow1.out.2).trans HRow1.out.1) (Nat.lt_of_lt_of_le HRow1.out.2 hB.size))
 replace HB := Lib.hid (HB.out.trans (hB.mono HB.out.size))
 clear hB
 obtain ⟨w31, hw, kr, hB, hz⟩ := one_alloc w30 (.cells #[.int .i64 1, .string (str [121]), .slice none 0 0, .int .i64 7, .int .u64 0, .string (str []), .slice (some ⟨HAr, 0, none⟩) 2 2, .int .i64 0, .int .u64 0, .string (str []), .slice none 0 0, .slice none 0 0, .int .u64 0, .int .u64 0, .slice none 0 0, .slice none 0 0] 45)
 replace HA := Lib.hid ((hB.block _ (lt_blk HA.out)).trans HA.out)
 replace HRow1 := Lib.hid (And.intro ((hB.cell HRow1.out.2).trans HRow1.out.1) (Nat.lt_of_lt_of_le HRow1.out.2 hB.size))
 replace HB := Lib.hid (HB.out.trans (hB.mono HB.out.size))
 have HD := Lib.hid kr
 have HZ31 := Lib.hid hz
 have HW31 := Lib.hid hw
 clear hw kr hB hz
 obtain ⟨w32, hw, kr, hB, hz⟩ := one_alloc w31 (.cells #[.int .i64 1, .string (str [121]), .slice none 0 0, .int .i64 2, .int .u64 0, .string (str [120]), .slice none 0 0, .int .i64 0, .int .u64 0, .string (str []), .slice none 0 0, .slice none 0 0, .int .u64 0, .int .u64 0, .slice none 0 0, .slice none 0 0, .int .i64 1, .string (str [121]), .slice none 0 0, .int .i64 1, .int .u64 0, .string (str []), .slice none 0 0, .int .i64 0, .int .u64 0, .string (str []), .slice none 0 0, .slice none 0 0, .int .u64 0, .int .u64 0, .slice none 0 0, .slice none 0 0, .int .i64 4, .string (str []), .slice none 0 0, .int .i64 2, .int .u64 0, .string (str [121]), .slice none 0 0, .int .i64 0, .int .u64 0, .string (str []), .slice none 0 0, .slice none 0 0, .int .u64 0, .int .u64 0, .slice (some ⟨w30.heap.size, 0, none⟩) 1 1, .slice none 0 0] 45)
 rw [HZ31.out] at kr
 replace HA := Lib.hid ((hB.block _ (lt_blk HA.out)).trans HA.out)
 replace HD := Lib.hid ((hB.block _ (lt_blk HD.out)).trans HD.out)
 replace HRow1 := Lib.hid (And.intro ((hB.cell HRow1.out.2).trans HRow1.out.1) (Nat.lt_of_lt_of_le HRow1.out.2 hB.size))
 replace HB := Lib.hid (HB.out.trans (hB.mono HB.out.size))
 have HC := Lib.hid kr
 have HZ32 := Lib.hid hz
 have HW32 := Lib.hid hw
 clear hw kr hB hz
 go_wp2_with fail
 erw [HW31.out]
 erw [HW32.out]
 have hl : ∀ W : World, W.heap[HAr]? = some (.cells #[.int .i64 2, .int .u64 0, .string (str [121]), .slice none 0 0, .int .i64 1, .int .u64 1, .string (str []), .slice none 0 0] 40 (0, 0)) → W.heap[w30.heap.size]? = some (.cells #[.int .i64 1, .string (str [121]), .slice none 0 0, .int .i64 7, .int .u64 0, .string (str []), .slice (some ⟨HAr, 0, none⟩) 2 2, .int .i64 0, .int .u64 0, .string (str []), .slice none 0 0, .slice none 0 0, .int .u64 0, .int .u64 0, .slice none 0 0, .slice none 0 0] 45 (0, 0)) → W.heap[w30.heap.size + 1]? = some (.cells #[.int .i64 1, .string (str [121]), .slice none 0 0, .int .i64 2, .int .u64 0, .string (str [120]), .slice none 0 0, .int .i64 0, .int .u64 0, .string (str []), .slice none 0 0, .slice none 0 0, .int .u64 0, .int .u64 0, .slice none 0 0, .slice none 0 0, .int .i64 1, .string (str [121]), .slice none 0 0, .int .i64 1, .int .u64 0, .string (str []), .slice none 0 0, .int .i64 0, .int .u64 0, .string (str []), .slice none 0 0, .slice none 0 0, .int .u64 0, .int .u64 0, .slice none 0 0, .slice none 0 0, .int .i64 4, .string (str []), .slice none 0 0, .int .i64 2, .int .u64 0, .string (str [121]), .slice none 0 0, .int .i64 0, .int .u64 0, .string (str []), .slice none 0 0, .slice none 0 0, .int .u64 0, .int .u64 0, .slice (some ⟨w30.heap.size, 0, none⟩) 1 1, .slice none 0 0] 45 (0, 0)) → kl5.In W w32.heap.size (some ⟨w30.heap.size + 1, 0, none⟩) := fun W ha hd hc => ⟨show 3 ≤ 140737488355328 by decide, .inr ⟨_, 0, rfl, (lt_blk HC.out), st_at (e := exV [120]) (a := ex0) (g := .nil) (bd := .nil) hc 0 rfl (by decide) (by decide) exs0 exs0 exs0 sts0, st_at (e := exN 0) (a := ex0) (g := .nil) (bd := .nil) hc 16 rfl (by decide) (by decide) exs0 exs0 exs0 sts0, st_at (e := exV [121]) (a := ex0) (g := .nil) (bd := .cons (mkS 1 [121] (exT 7 (exV [121]) (exN 1)) ex0 .nil .nil) .nil) hc 32 rfl (by decide) (by decide) exs0 exs0 exs0 ⟨show 1 ≤ 140737488355328 by decide, .inr ⟨_, 0, rfl, (lt_blk HD.out), st_at (e := exT 7 (exV [121]) (exN 1)) (a := ex0) (g := .nil) (bd := .nil) hd 0 rfl (by decide) (by decide) (two_in ha (lt_blk HA.out) (by decide) (by decide) exs0 exs0) exs0 exs0 sts0, trivial⟩⟩, trivial⟩⟩
 have HL := Lib.hid (And.intro (hl w32 HA.out HD.out HC.out) (hl (zc w32) (zc_blk HA.out) (zc_blk HD.out) (zc_blk HC.out)))
 clear hl
 refine (main_any kl5 (some ⟨w30.heap.size + 1, 0, none⟩) 3 w32).mono ?_
 rintro z w33 ⟨rfl, hA, hs, hB⟩
 have HM := Lib.hid (main_ok kr5 (by decide) hA hs hB HL.out.1 HL.out.2 (Nat.le_refl _))
 clear HA HD HC
 replace HB := Lib.hid (HB.out.trans (hB.mono HB.out.size))
 replace HRow1 := Lib.hid (And.intro ((hB.cell HRow1.out.2).trans HRow1.out.1) (Nat.lt_of_lt_of_le HRow1.out.2 hB.size))
 clear hA hs hB HL
 go_wp2_with fail
 refine HM.out.mono ?_
 rintro z w34 ⟨r5, c5, rfl, hc, hr, hB⟩
 replace HB := Lib.hid (HB.out.trans (hB.mono HB.out.size))
 replace HRow1 := Lib.hid (And.intro ((hB.cell HRow1.out.2).trans HRow1.out.1) (Nat.lt_of_lt_of_le HRow1.out.2 hB.size))
 have HRow5 := Lib.hid (And.intro hc hr)
 clear hB HM hc hr
 go_wp2_with fail
 refine (lword_any [105] w34).mono ?_
 rintro z w35 ⟨rfl, hB⟩
 replace HRow1 := Lib.hid (And.intro ((hB.cell HRow1.out.2).trans HRow1.out.1) (Nat.lt_of_lt_of_le HRow1.out.2 hB.size))
 replace HRow5 := Lib.hid (And.intro ((hB.cell HRow5.out.2).trans HRow5.out.1) (Nat.lt_of_lt_of_le HRow5.out.2 hB.size))
 replace HB := Lib.hid (HB.out.trans (hB.mono HB.out.size))
 clear hB
 go_wp2_with fail
 refine (num_any 3 w35).mono ?_
 rintro z w36 ⟨rfl, hB⟩
 replace HRow1 := Lib.hid (And.intro ((hB.cell HRow1.out.2).trans HRow1.out.1) (Nat.lt_of_lt_of_le HRow1.out.2 hB.size))
 replace HRow5 := Lib.hid (And.intro ((hB.cell HRow5.out.2).trans HRow5.out.1) (Nat.lt_of_lt_of_le HRow5.out.2 hB.size))
 replace HB := Lib.hid (HB.out.trans (hB.mono HB.out.size))
 clear hB
 go_wp2_with fail
 refine (two_any 19 2 0 1 3 [105] [] none none 0 0 0 0 w36).mono ?_
 rintro z w37 ⟨HAr, rfl, hr, hB⟩
 replace HRow1 := Lib.hid (And.intro ((hB.cell HRow1.out.2).trans HRow1.out.1) (Nat.lt_of_lt_of_le HRow1.out.2 hB.size))
 replace HRow5 := Lib.hid (And.intro ((hB.cell HRow5.out.2).trans HRow5.out.1) (Nat.lt_of_lt_of_le HRow5.out.2 hB.size))
 replace HB := Lib.hid (HB.out.trans (hB.mono HB.out.size))
 have HA := Lib.hid hr
 clear hB hr
 go_wp2_with fail
 refine (lword_any [105] w37).mono ?_
 rintro z w38 ⟨rfl, hB⟩
 replace HA := Lib.hid ((hB.block _ (lt_blk HA.out)).trans HA.out)
 replace HRow1 := Lib.hid (And.intro ((hB.cell HRow1.out.2).trans HRow1.out.1) (Nat.lt_of_lt_of_le HRow1.out.2 hB.size))
 replace HRow5 := Lib.hid (And.intro ((hB.cell HRow5.out.2).trans HRow5.out.1) (Nat.lt_of_lt_of_le HRow5.out.2 hB.size))
 replace HB := Lib.hid (HB.out.trans (hB.mono HB.out.size))
 clear hB
 go_wp2_with fail
 refine (lword_any [122] w38).mono ?_
 rintro z w39 ⟨rfl, hB⟩
 replace HA := Lib.hid ((hB.block _ (lt_blk HA.out)).trans HA.out)
 replace HRow1 := Lib.hid (And.intro ((hB.cell HRow1.out.2).trans HRow1.out.1) (Nat.lt_of_lt_of_le HRow1.out.2 hB.size))
 replace HRow5 := Lib.hid (And.intro ((hB.cell HRow5.out.2).trans HRow5.out.1) (Nat.lt_of_lt_of_le HRow5.out.2 hB.size))
 replace HB := Lib.hid (HB.out.trans (hB.mono HB.out.size))
 clear hB
 go_wp2_with fail
 refine (two_any 6 2 0 2 0 [105] [122] none none 0 0 0 0 w39).mono ?_
 rintro z w40 ⟨HEr, rfl, hr, hB⟩
 replace HA := Lib.hid ((hB.block _ (lt_blk HA.out)).trans HA.out)
 replace HRow1 := Lib.hid (And.intro ((hB.cell HRow1.out.2).trans HRow1.out.1) (Nat.lt_of_lt_of_le HRow1.out.2 hB.size))
 replace HRow5 := Lib.hid (And.intro ((hB.cell HRow5.out.2).trans HRow5.out.1) (Nat.lt_of_lt_of_le HRow5.out.2 hB.size))
 replace HB := Lib.hid (HB.out.trans (hB.mono HB.out.size))
 have HE := Lib.hid hr
 clear hB hr
 go_wp2_with fail
 refine (lset_any [105] 6 0 [] (some ⟨HEr, 0, none⟩) 2 2 w40).mono ?_
 rintro z w41 ⟨rfl, hB⟩
 replace HA := Lib.hid ((hB.block _ (lt_blk HA.out)).trans HA.out)
 replace HE := Lib.hid ((hB.block _ (lt_blk HE.out)).trans HE.out)
 replace HRow1 := Lib.hid (And.intro ((hB.cell HRow1.out.2).trans HRow1.out.1) (Nat.lt_of_lt_of_le HRow1.out.2 hB.size))
 replace HRow5 := Lib.hid (And.intro ((hB.cell HRow5.out.2).trans HRow5.out.1) (Nat.lt_of_lt_of_le HRow5.out.2 hB.size))
 replace HB := Lib.hid (HB.out.trans (hB.mono HB.out.size))
 clear hB
 go_wp2_with fail
 refine (lword_any [120] w41).mono ?_
 rintro z w42 ⟨rfl, hB⟩
 replace HA := Lib.hid ((hB.block _ (lt_blk HA.out)).trans HA.out)
 replace HE := Lib.hid ((hB.block _ (lt_blk HE.out)).trans HE.out)
 replace HRow1 := Lib.hid (And.intro ((hB.cell HRow1.out.2).trans HRow1.out.1) (Nat.lt_of_lt_of_le HRow1.out.2 hB.size))
 replace HRow5 := Lib.hid (And.intro ((hB.cell HRow5.out.2).trans HRow5.out.1) (Nat.lt_of_lt_of_le HRow5.out.2 hB.size))
 replace HB := Lib.hid (HB.out.trans (hB.mono HB.out.size))
 clear hB
 go_wp2_with fail
 refine (lset_any [122] 2 0 [120] none 0 0 w42).mono ?_
 rintro z w43 ⟨rfl, hB⟩
 replace HA := Lib.hid ((hB.block _ (lt_blk HA.out)).trans HA.out)
 replace HE := Lib.hid ((hB.block _ (lt_blk HE.out)).trans HE.out)
 replace HRow1 := Lib.hid (And.intro ((hB.cell HRow1.out.2).trans HRow1.out.1) (Nat.lt_of_lt_of_le HRow1.out.2 hB.size))
 replace HRow5 := Lib.hid (And.intro ((hB.cell HRow5.out.2).trans HRow5.out.1) (Nat.lt_of_lt_of_le HRow5.out.2 hB.size))
 replace HB := Lib.hid (HB.out.trans (hB.mono HB.out.size))
 clear hB
 obtain ⟨w44, hw, kr, hB, hz⟩ := one_alloc w43 (.cells #[.int .i64 1, .string (str [105]), .slice none 0 0, .int .i64 6, .int .u64 0, .string (str []), .slice (some ⟨HEr, 0, none⟩) 2 2, .int .i64 0, .int .u64 0, .string (str []), .slice none 0 0, .slice none 0 0, .int .u64 0, .int .u64 0, .slice none 0 0, .slice none 0 0, .int .i64 1, .string (str [122]), .slice none 0 0, .int .i64 2, .int .u64 0, .string (str [120]), .slice none 0 0, .int .i64 0, .int .u64 0, .string (str []), .slice none 0 0, .slice none 0 0, .int .u64 0, .int .u64 0, .slice none 0 0, .slice none 0 0] 45)
 replace HA := Lib.hid ((hB.block _ (lt_blk HA.out)).trans HA.out)
 replace HE := Lib.hid ((hB.block _ (lt_blk HE.out)).trans HE.out)
 replace HRow1 := Lib.hid (And.intro ((hB.cell HRow1.out.2).trans HRow1.out.1) (Nat.lt_of_lt_of_le HRow1.out.2 hB.size))
 replace HRow5 := Lib.hid (And.intro ((hB.cell HRow5.out.2).trans HRow5.out.1) (Nat.lt_of_lt_of_le HRow5.out.2 hB.size))
 replace HB := Lib.hid (HB.out.trans (hB.mono HB.out.size))
 have HD := Lib.hid kr
 have HZ44 := Lib.hid hz
 have HW44 := Lib.hid hw
 clear hw kr hB hz
 obtain ⟨w45, hw, kr, hB, hz⟩ := one_alloc w44 (.cells #[.int .i64 4, .string (str []), .slice none 0 0, .int .i64 19, .int .u64 0, .string (str []), .slice (some ⟨HAr, 0, none⟩) 2 2, .int .i64 0, .int .u64 0, .string (str []), .slice none 0 0, .slice none 0 0, .int .u64 0, .int .u64 0, .slice (some ⟨w43.heap.size, 0, none⟩) 2 2, .slice none 0 0] 45)
 rw [HZ44.out] at kr
 replace HA := Lib.hid ((hB.block _ (lt_blk HA.out)).trans HA.out)
 replace HE := Lib.hid ((hB.block _ (lt_blk HE.out)).trans HE.out)
 replace HD := Lib.hid ((hB.block _ (lt_blk HD.out)).trans HD.out)
 replace HRow1 := Lib.hid (And.intro ((hB.cell HRow1.out.2).trans HRow1.out.1) (Nat.lt_of_lt_of_le HRow1.out.2 hB.size))
 replace HRow5 := Lib.hid (And.intro ((hB.cell HRow5.out.2).trans HRow5.out.1) (Nat.lt_of_lt_of_le HRow5.out.2 hB.size))
 replace HB := Lib.hid (HB.out.trans (hB.mono HB.out.size))
 have HC := Lib.hid kr
 have HZ45 := Lib.hid hz
 have HW45 := Lib.hid hw
 clear hw kr hB hz
 go_wp2_with fail
 erw [HW44.out]
 erw [HW45.out]
 have hl : ∀ W : World, W.heap[HAr]? = some (.cells #[.int .i64 2, .int .u64 0, .string (str [105]), .slice none 0 0, .int .i64 1, .int .u64 3, .string (str []), .slice none 0 0] 40 (0, 0)) → W.heap[HEr]? = some (.cells #[.int .i64 2, .int .u64 0, .string (str [105]), .slice none 0 0, .int .i64 2, .int .u64 0, .string (str [122]), .slice none 0 0] 40 (0, 0)) → W.heap[w43.heap.size]? = some (.cells #[.int .i64 1, .string (str [105]), .slice none 0 0, .int .i64 6, .int .u64 0, .string (str []), .slice (some ⟨HEr, 0, none⟩) 2 2, .int .i64 0, .int .u64 0, .string (str []), .slice none 0 0, .slice none 0 0, .int .u64 0, .int .u64 0, .slice none 0 0, .slice none 0 0, .int .i64 1, .string (str [122]), .slice none 0 0, .int .i64 2, .int .u64 0, .string (str [120]), .slice none 0 0, .int .i64 0, .int .u64 0, .string (str []), .slice none 0 0, .slice none 0 0, .int .u64 0, .int .u64 0, .slice none 0 0, .slice none 0 0] 45 (0, 0)) → W.heap[w43.heap.size + 1]? = some (.cells #[.int .i64 4, .string (str []), .slice none 0 0, .int .i64 19, .int .u64 0, .string (str []), .slice (some ⟨HAr, 0, none⟩) 2 2, .int .i64 0, .int .u64 0, .string (str []), .slice none 0 0, .slice none 0 0, .int .u64 0, .int .u64 0, .slice (some ⟨w43.heap.size, 0, none⟩) 2 2, .slice none 0 0] 45 (0, 0)) → kl6.In W w45.heap.size (some ⟨w43.heap.size + 1, 0, none⟩) := fun W ha he hd hc => ⟨show 1 ≤ 140737488355328 by decide, .inr ⟨_, 0, rfl, (lt_blk HC.out), st_at (e := exT 19 (exV [105]) (exN 3)) (a := ex0) (g := .nil) (bd := .cons (mkS 1 [105] (exT 6 (exV [105]) (exV [122])) ex0 .nil .nil) (.cons (mkS 1 [122] (exV [120]) ex0 .nil .nil) .nil)) hc 0 rfl (by decide) (by decide) (two_in ha (lt_blk HA.out) (by decide) (by decide) exs0 exs0) exs0 exs0 ⟨show 2 ≤ 140737488355328 by decide, .inr ⟨_, 0, rfl, (lt_blk HD.out), st_at (e := exT 6 (exV [105]) (exV [122])) (a := ex0) (g := .nil) (bd := .nil) hd 0 rfl (by decide) (by decide) (two_in he (lt_blk HE.out) (by decide) (by decide) exs0 exs0) exs0 exs0 sts0, st_at (e := exV [120]) (a := ex0) (g := .nil) (bd := .nil) hd 16 rfl (by decide) (by decide) exs0 exs0 exs0 sts0, trivial⟩⟩, trivial⟩⟩
 have HL := Lib.hid (And.intro (hl w45 HA.out HE.out HD.out HC.out) (hl (zc w45) (zc_blk HA.out) (zc_blk HE.out) (zc_blk HD.out) (zc_blk HC.out)))
 clear hl
 refine (main_any kl6 (some ⟨w43.heap.size + 1, 0, none⟩) 1 w45).mono ?_
 rintro z w46 ⟨rfl, hA, hs, hB⟩
 have HM := Lib.hid (main_no kr6 (by decide) hA hs hB HL.out.1 HL.out.2 (Nat.le_refl _))
 clear HA HE HD HC
 replace HB := Lib.hid (HB.out.trans (hB.mono HB.out.size))
 replace HRow1 := Lib.hid (And.intro ((hB.cell HRow1.out.2).trans HRow1.out.1) (Nat.lt_of_lt_of_le HRow1.out.2 hB.size))
 replace HRow5 := Lib.hid (And.intro ((hB.cell HRow5.out.2).trans HRow5.out.1) (Nat.lt_of_lt_of_le HRow5.out.2 hB.size))
 clear hA hs hB HL
 go_wp2_with fail
 refine HM.out.mono ?_
 rintro z w47 ⟨rfl, hB⟩
 replace HB := Lib.hid (HB.out.trans (hB.mono HB.out.size))
 replace HRow1 := Lib.hid (And.intro ((hB.cell HRow1.out.2).trans HRow1.out.1) (Nat.lt_of_lt_of_le HRow1.out.2 hB.size))
 replace HRow5 := Lib.hid (And.intro ((hB.cell HRow5.out.2).trans HRow5.out.1) (Nat.lt_of_lt_of_le HRow5.out.2 hB.size))
 clear hB HM
 have d1 := HRow1.out.1
 have d5 := HRow5.out.1
 go_wp2_with fail
 go_ret
 exact ⟨rfl, HB.out⟩
end Go.Proofs.YtihmibggonffdaaGreat
