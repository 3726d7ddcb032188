/- The law MemNil, walked. -/
import Derived.Test.YtigkjmjkpjjjkaaKN
import Derived.Test.YtigkjmjkpjjjkaaNT
namespace Go.Proofs.Ytigkjmjkpjjjkaa
open Go.RowKit

abbrev kE : ByteArray := ⟨#[]⟩
def KT : List Rg := [⟨kA, 45056, 512, false⟩]
def T2 : List Rg := [⟨kA, 45064, 512, false⟩]
def T3 : List Rg := [⟨kA, -8, 1, false⟩]
def T4 : List Rg := [⟨kA, 0, 513, false⟩]
def T5 : List Rg := [⟨kE, 0, 1, false⟩]
def T6 : List Rg := [⟨kA, 0, 1, false⟩, ⟨kA, 8, 1, false⟩]
def T7 : List Rg := [⟨kA, 4611686018427387904, 1, false⟩]
theorem t_1 : mayB KT = true := by decide +kernel
theorem t_2 : mayB T2 = false := by decide +kernel
theorem t_3 : mayB T3 = false := by decide +kernel
theorem t_4 : mayB T4 = false := by decide +kernel
theorem t_5 : mayB T5 = false := by decide +kernel
theorem t_6 : mayB T6 = false := by decide +kernel
theorem t_7 : mayB T7 = false := by decide +kernel
theorem t_8 : mayB [] = true := by decide +kernel
theorem t_ok : KT.all Rg.ok = true := by decide +kernel
theorem t_st : errW KT 49144 = 0 := by decide +kernel
theorem zero_1 : Try.zeroCells76[1]? = some .nilFunc := by kernel_rfl

set_option maxRecDepth 100000 in
set_option maxHeartbeats 3200000 in
theorem nil_law (w : World) :
    Calls Try.prog 8 #[] w fun e w' => e = .returned (.bool true) ∧ Below w.heap.size w w' := by
  have HB0 := Lib.hid (Below.refl w.heap.size w)
  go_enter Try.func8, Try.ntmps8
  go_wp2_with fail
  refine (region_any kA 45056 512 _).mono ?_
  rintro e w1 ⟨rfl, hB⟩
  have HB1 := Lib.hid (HB0.out.trans (hB.mono HB0.out.size))
  clear hB
  have HA1 := Lib.hid (HB1.out.alloc HB1.out.size (.cells #[.string kA, .int .i64 45056, .int .i64 512, .bool false] 70 (0, 0)))
  go_wp2_with fail
  refine (new_any KT _ 1 (w1.heap.size + 1) _ (in_1 w1 ⟨kA, 45056, 512, false⟩) (by simp) (by decide) (by decide) (fun h => by cases h)).mono ?_
  rintro e w2 ⟨hN, hB⟩
  have HB2 := Lib.hid (HA1.out.trans (hB.mono HA1.out.size))
  obtain ⟨g, rfl, hM⟩ := hN.2 t_1
  have HT2 := Lib.hid (hM.base HA1.out.size)
  clear hM
  clear hB hN
  go_wp2_with fail
  refine (region_any kA 45064 512 _).mono ?_
  rintro e w3 ⟨rfl, hB⟩
  have HB3 := Lib.hid (HB2.out.trans (hB.mono HB2.out.size))
  have HT3 := Lib.hid (HT2.out.later hB)
  clear hB
  have HA3 := Lib.hid (HB3.out.alloc HB3.out.size (.cells #[.string kA, .int .i64 45064, .int .i64 512, .bool false] 70 (0, 0)))
  have HTa3 := Lib.hid (HT3.out.later ((Below.refl _ _).alloc (Nat.le_refl _) (.cells #[.string kA, .int .i64 45064, .int .i64 512, .bool false] 70 (0, 0))))
  go_wp2_with fail
  refine (new_any T2 _ 1 (w3.heap.size + 1) _ (in_1 w3 ⟨kA, 45064, 512, false⟩) (by simp) (by decide) (by decide) (fun h => by cases h)).mono ?_
  rintro e w4 ⟨hN, hB⟩
  have HB4 := Lib.hid (HA3.out.trans (hB.mono HA3.out.size))
  have HT4 := Lib.hid (HTa3.out.later hB)
  obtain rfl := hN.1 t_2
  clear hB hN
  go_wp2_with fail
  refine (region_any kA (-8) 1 _).mono ?_
  rintro e w5 ⟨rfl, hB⟩
  have HB5 := Lib.hid (HB4.out.trans (hB.mono HB4.out.size))
  have HT5 := Lib.hid (HT4.out.later hB)
  clear hB
  have HA5 := Lib.hid (HB5.out.alloc HB5.out.size (.cells #[.string kA, .int .i64 (-8), .int .i64 1, .bool false] 70 (0, 0)))
  have HTa5 := Lib.hid (HT5.out.later ((Below.refl _ _).alloc (Nat.le_refl _) (.cells #[.string kA, .int .i64 (-8), .int .i64 1, .bool false] 70 (0, 0))))
  go_wp2_with fail
  refine (new_any T3 _ 1 (w5.heap.size + 1) _ (in_1 w5 ⟨kA, (-8), 1, false⟩) (by simp) (by decide) (by decide) (fun h => by cases h)).mono ?_
  rintro e w6 ⟨hN, hB⟩
  have HB6 := Lib.hid (HA5.out.trans (hB.mono HA5.out.size))
  have HT6 := Lib.hid (HTa5.out.later hB)
  obtain rfl := hN.1 t_3
  clear hB hN
  go_wp2_with fail
  refine (region_any kA 0 513 _).mono ?_
  rintro e w7 ⟨rfl, hB⟩
  have HB7 := Lib.hid (HB6.out.trans (hB.mono HB6.out.size))
  have HT7 := Lib.hid (HT6.out.later hB)
  clear hB
  have HA7 := Lib.hid (HB7.out.alloc HB7.out.size (.cells #[.string kA, .int .i64 0, .int .i64 513, .bool false] 70 (0, 0)))
  have HTa7 := Lib.hid (HT7.out.later ((Below.refl _ _).alloc (Nat.le_refl _) (.cells #[.string kA, .int .i64 0, .int .i64 513, .bool false] 70 (0, 0))))
  go_wp2_with fail
  refine (new_any T4 _ 1 (w7.heap.size + 1) _ (in_1 w7 ⟨kA, 0, 513, false⟩) (by simp) (by decide) (by decide) (fun h => by cases h)).mono ?_
  rintro e w8 ⟨hN, hB⟩
  have HB8 := Lib.hid (HA7.out.trans (hB.mono HA7.out.size))
  have HT8 := Lib.hid (HTa7.out.later hB)
  obtain rfl := hN.1 t_4
  clear hB hN
  go_wp2_with fail
  refine (region_any kE 0 1 _).mono ?_
  rintro e w9 ⟨rfl, hB⟩
  have HB9 := Lib.hid (HB8.out.trans (hB.mono HB8.out.size))
  have HT9 := Lib.hid (HT8.out.later hB)
  clear hB
  have HA9 := Lib.hid (HB9.out.alloc HB9.out.size (.cells #[.string kE, .int .i64 0, .int .i64 1, .bool false] 70 (0, 0)))
  have HTa9 := Lib.hid (HT9.out.later ((Below.refl _ _).alloc (Nat.le_refl _) (.cells #[.string kE, .int .i64 0, .int .i64 1, .bool false] 70 (0, 0))))
  go_wp2_with fail
  refine (new_any T5 _ 1 (w9.heap.size + 1) _ (in_1 w9 ⟨kE, 0, 1, false⟩) (by simp) (by decide) (by decide) (fun h => by cases h)).mono ?_
  rintro e w10 ⟨hN, hB⟩
  have HB10 := Lib.hid (HA9.out.trans (hB.mono HA9.out.size))
  have HT10 := Lib.hid (HTa9.out.later hB)
  obtain rfl := hN.1 t_5
  clear hB hN
  go_wp2_with fail
  refine (region_any kA 0 1 _).mono ?_
  rintro e w11 ⟨rfl, hB⟩
  have HB11 := Lib.hid (HB10.out.trans (hB.mono HB10.out.size))
  have HT11 := Lib.hid (HT10.out.later hB)
  clear hB
  go_wp2_with fail
  refine (region_any kA 8 1 _).mono ?_
  rintro e w12 ⟨rfl, hB⟩
  have HB12 := Lib.hid (HB11.out.trans (hB.mono HB11.out.size))
  have HT12 := Lib.hid (HT11.out.later hB)
  clear hB
  have HA12 := Lib.hid (HB12.out.alloc HB12.out.size (.cells #[.string kA, .int .i64 0, .int .i64 1, .bool false, .string kA, .int .i64 8, .int .i64 1, .bool false] 70 (0, 0)))
  have HTa12 := Lib.hid (HT12.out.later ((Below.refl _ _).alloc (Nat.le_refl _) (.cells #[.string kA, .int .i64 0, .int .i64 1, .bool false, .string kA, .int .i64 8, .int .i64 1, .bool false] 70 (0, 0))))
  go_wp2_with fail
  refine (new_any T6 _ 2 (w12.heap.size + 1) _ (in_2 w12 ⟨kA, 0, 1, false⟩ ⟨kA, 8, 1, false⟩) (by simp) (by decide) (by decide) (fun h => by cases h)).mono ?_
  rintro e w13 ⟨hN, hB⟩
  have HB13 := Lib.hid (HA12.out.trans (hB.mono HA12.out.size))
  have HT13 := Lib.hid (HTa12.out.later hB)
  obtain rfl := hN.1 t_6
  clear hB hN
  go_wp2_with fail
  refine (region_any kA 4611686018427387904 1 _).mono ?_
  rintro e w14 ⟨rfl, hB⟩
  have HB14 := Lib.hid (HB13.out.trans (hB.mono HB13.out.size))
  have HT14 := Lib.hid (HT13.out.later hB)
  clear hB
  have HA14 := Lib.hid (HB14.out.alloc HB14.out.size (.cells #[.string kA, .int .i64 4611686018427387904, .int .i64 1, .bool false] 70 (0, 0)))
  have HTa14 := Lib.hid (HT14.out.later ((Below.refl _ _).alloc (Nat.le_refl _) (.cells #[.string kA, .int .i64 4611686018427387904, .int .i64 1, .bool false] 70 (0, 0))))
  go_wp2_with fail
  refine (new_any T7 _ 1 (w14.heap.size + 1) _ (in_1 w14 ⟨kA, 4611686018427387904, 1, false⟩) (by simp) (by decide) (by decide) (fun h => by cases h)).mono ?_
  rintro e w15 ⟨hN, hB⟩
  have HB15 := Lib.hid (HA14.out.trans (hB.mono HA14.out.size))
  have HT15 := Lib.hid (HTa14.out.later hB)
  obtain rfl := hN.1 t_7
  clear hB hN
  go_wp2_with fail
  refine (new_any [] none 0 0 _ ⟨by simp, .inl rfl⟩ (Nat.zero_le _) (by simp) (by decide) (fun _ => rfl)).mono ?_
  rintro e w16 ⟨hN, hB⟩
  have HB16 := Lib.hid (HB15.out.trans (hB.mono HB15.out.size))
  have HT16 := Lib.hid (HT15.out.later hB)
  obtain ⟨g2, rfl, hM⟩ := hN.2 t_8
  have HE16 := Lib.hid hM
  have HBE := HB15
  clear hB hN hM
  go_wp2_with fail
  refine (num_any 0 _).mono ?_
  rintro e w' ⟨rfl, rfl⟩
  go_wp2_with fail
  refine (num_any 0 _).mono ?_
  rintro e w' ⟨rfl, rfl⟩
  have HG : Hid (w.heap.size ≤ g) := by have h := HT16.out; obtain ⟨p, c, q, h1, h2, h3, h4, h5, h6, h7, _⟩ := h; exact Nat.le_of_lt (Nat.lt_of_le_of_lt h5 h6)
  have HG2 : Hid (g < w15.heap.size) := by have h := HT15.out; obtain ⟨p, c, q, h1, h2, h3, h4, h5, h6, h7, _⟩ := h; exact h7
  go_wp2_with fail
  refine (store_yes KT _ w.heap.size g 49144 1 _ HT16.out t_ok (by decide) t_st (by decide)).mono ?_
  rintro e w17 ⟨rfl, hM, hA⟩
  have HB17 := Lib.hid (hA.below HB16.out HG.out HB16.out.size)
  have HE17 : Hid (MemIs w17 w15.heap.size g2 [] (fun _ => 0)) := by
    have h := HE16.out
    have hz : g2 < w16.heap.size := by obtain ⟨p, c, q, h1, h2, h3, h4, h5, h6, h7, _⟩ := h; exact h7
    exact h.far (fun k h1 h2 => hA.block k (by omega) (by have := HG2.out; omega)) (Nat.lt_of_lt_of_le hz hA.size)
  clear hM hA
  go_wp2_with fail
  refine (num_any 0 _).mono ?_
  rintro e w' ⟨rfl, rfl⟩
  go_wp2_with fail
  refine (num_any 2 _).mono ?_
  rintro e w' ⟨rfl, rfl⟩
  go_wp2_with fail
  refine (num_any 2 _).mono ?_
  rintro e w' ⟨rfl, rfl⟩
  go_wp2_with fail
  refine (num_any 2 _).mono ?_
  rintro e w' ⟨rfl, rfl⟩
  go_wp2_with fail
  refine (num_any 2 _).mono ?_
  rintro e w' ⟨rfl, rfl⟩
  go_wp2_with fail
  refine (num_any 2 _).mono ?_
  rintro e w' ⟨rfl, rfl⟩
  go_wp2_with fail
  refine (num_any 2 _).mono ?_
  rintro e w' ⟨rfl, rfl⟩
  go_wp2_with fail
  refine (nothing_none (.pointer none) _ (.inl rfl)).mono ?_
  rintro e w18 ⟨rfl, hB⟩
  have HB18 := Lib.hid (HB17.out.trans (hB.mono HB17.out.size))
  have HE18 := Lib.hid (HE17.out.later hB)
  clear hB
  have HN := Lib.hid (show NoneIs (w18.alloc (.cells Try.zeroCells76 76 (0, 0))) (.pointer (some ⟨w18.heap.size, 0, none⟩)) from .inr ⟨_, rfl, by simp, by rw [cell_of_row _ _ _ _ _ _ (heap_alloc_new w18 _)]; exact zero_1⟩)
  have HA18 := Lib.hid (HB18.out.alloc HB18.out.size (.cells Try.zeroCells76 76 (0, 0)))
  have HEa := Lib.hid (HE18.out.later ((Below.refl _ _).alloc (Nat.le_refl _) (.cells Try.zeroCells76 76 (0, 0))))
  go_wp2_with fail
  refine (nothing_none _ _ HN.out).mono ?_
  rintro e w19 ⟨rfl, hB⟩
  have HB19 := Lib.hid (HA18.out.trans (hB.mono HA18.out.size))
  have HE19 := Lib.hid (HEa.out.later hB)
  clear hB
  go_wp2_with fail
  refine (same_none _ _ _ g2 _ HE19.out).mono ?_
  rintro e w' ⟨rfl, rfl⟩
  go_wp2_with fail
  refine (known_any _).mono ?_
  rintro e w20 ⟨rfl, hB⟩
  have HB20 := Lib.hid (HB19.out.trans (hB.mono HB19.out.size))
  clear hB
  go_wp2_with fail
  go_ret
  exact ⟨rfl, HB20.out⟩
end Go.Proofs.Ytigkjmjkpjjjkaa
