/- The law MemMeans, walked. -/
import Derived.Test.YtigkjmjkpjjjkaaKN
import Derived.Test.YtigkjmjkpjjjkaaBE
namespace Go.Proofs.Ytigkjmjkpjjjkaa
open Go.RowKit

theorem placeIn_ne {l : List Rg} {a : Nat} : ∀ k, (placeIn l k a).1 ≠ -2 ↔ ∃ r ∈ l, r.addr ≤ (a : Int) ∧ (a : Int) < r.addr + r.size * 8 := by
  induction l with
  | nil => intro k; simp [placeIn]
  | cons r rs ih =>
    intro k
    rw [placeIn]
    split
    · rename_i h
      exact ⟨fun _ => ⟨r, by simp, h⟩, fun _ => by simp⟩
    · rename_i h
      rw [ih (k + 1)]
      constructor
      · rintro ⟨s, hs, h1⟩; exact ⟨s, by simp [hs], h1⟩
      · rintro ⟨s, hs, h1⟩
        rcases List.mem_cons.1 hs with rfl | hs
        · exact absurd h1 h
        · exact ⟨s, hs, h1⟩
theorem errB_at {l : List Rg} {a i : Nat} (hok : l.all Rg.ok = true) (h : errW l a = 0) (hi : i < 8) : errB l (a + i) = 0 := by
  obtain ⟨h8, hb⟩ := errW_0 h
  unfold errB at hb ⊢
  split at hb
  · omega
  · rename_i h0
    rw [if_neg]
    unfold placeOf at h0 ⊢
    split at h0
    · rw [if_pos (by omega)]; simp
    · rename_i h1
      have hlt := placeIn_lt hok 0 h0
      rw [if_neg (by omega), ← ne_eq, placeIn_ne]
      obtain ⟨r, hr, h2, h3⟩ := (placeIn_ne 0).1 h0
      obtain ⟨_, r0, r8, rb⟩ := Rg.ok_iff.1 (List.all_eq_true.1 hok r hr)
      exact ⟨r, hr, by omega, by omega⟩
theorem ok_of {l : List Rg} (h : mayB l = true) : l.all Rg.ok = true := by
  simp only [mayB, Bool.and_eq_true] at h; exact h.2.1

/-- what the law is given -/
structure GivenM (w : World) (l : List Rg) (p : Option Addr) (c : Nat) : Prop where
  rg : RgIn w w.heap.size l p
  le : l.length ≤ c
  cap : c ≤ 9223372036854775807
  nil : p = none → c = 0
theorem GivenM.later {w w' : World} {l : List Rg} {p : Option Addr} {c : Nat} (h : GivenM w l p c) (hB : Below w.heap.size w w') : GivenM w' l p c :=
  ⟨h.rg.later hB hB.size, h.le, h.cap, h.nil⟩

set_option maxHeartbeats 1600000 in
theorem means_long (l : List Rg) (p : Option Addr) (c a b x : Nat) (w : World) (h : GivenM w l p c) (hl : longB l = true) :
    Calls Try.prog 7 #[.slice p l.length c, .int .u64 a, .int .u64 b, .int .u64 x] w fun e w' => e = .returned (.bool true) ∧ Below w.heap.size w w' := by
  have HG := Lib.hid h
  clear h
  have HL : Hid (∀ w', Below w.heap.size w w' → Calls Try.prog 11 #[.slice p l.length c] w' fun e w'' => e = .returned (.bool true) ∧ w' = w'') := Lib.hid fun w' hB => by
    have := long_any l p c _ w' (HG.out.later hB).rg; rw [hl] at this; exact this
  clear hl
  go_enter Try.func7, Try.ntmps7
  go_wp2_with fail
  refine (known_any _).mono ?_
  rintro e w1 ⟨rfl, hB⟩
  have HB := Lib.hid hB
  have H1 := Lib.hid (HL.out _ hB)
  clear hB
  go_wp2_with fail
  refine H1.out.mono ?_
  rintro e w2 ⟨rfl, rfl⟩
  go_wp2_with fail
  go_ret
  exact ⟨rfl, HB.out⟩
set_option maxHeartbeats 1600000 in
theorem means_bad (l : List Rg) (p : Option Addr) (c a b x : Nat) (w : World) (h : GivenM w l p c) (hl : longB l = false) (hm : mayB l = false) :
    Calls Try.prog 7 #[.slice p l.length c, .int .u64 a, .int .u64 b, .int .u64 x] w fun e w' => e = .returned (.bool true) ∧ Below w.heap.size w w' := by
  have HG := Lib.hid h
  clear h
  have HL : Hid (∀ w', Below w.heap.size w w' → Calls Try.prog 11 #[.slice p l.length c] w' fun e w'' => e = .returned (.bool false) ∧ w' = w'') := Lib.hid fun w' hB => by
    have := long_any l p c _ w' (HG.out.later hB).rg; rw [hl] at this; exact this
  have HM : Hid (∀ w', Below w.heap.size w w' → Calls Try.prog 15 #[.slice p l.length c] w' fun e w'' => e = .returned (.bool false) ∧ Below w'.heap.size w' w'') := Lib.hid fun w' hB => by
    have := refMay_any l p c _ w' (HG.out.later hB).rg (Nat.le_refl _); rw [hm] at this; exact this
  clear hl hm
  go_enter Try.func7, Try.ntmps7
  go_wp2_with fail
  refine (known_any _).mono ?_
  rintro e w1 ⟨rfl, hB⟩
  have HB := Lib.hid hB
  have H1 := Lib.hid (HL.out _ hB)
  have H2 := Lib.hid (HM.out _ hB)
  clear hB
  go_wp2_with fail
  refine H1.out.mono ?_
  rintro e w2 ⟨rfl, rfl⟩
  go_wp2_with fail
  refine H2.out.mono ?_
  rintro e w2 ⟨rfl, hB⟩
  have HB2 := Lib.hid (HB.out.trans (hB.mono HB.out.size))
  clear hB
  go_wp2_with fail
  go_ret
  exact ⟨rfl, HB2.out⟩

theorem f_word {l : List Rg} {a x : Nat} (h : errW l a = 0) : loadV l (upd (fun _ => 0) (a / 8) x) a = x := by simp [loadV, h, upd]
theorem f_other {l : List Rg} {a b x : Nat} (h : errW l a = 0) (hne : a ≠ b) : loadV l (upd (fun _ => 0) (a / 8) x) b = loadV l (fun _ => 0) b := by
  unfold loadV
  split
  · rename_i hb
    have h1 := (errW_0 h).1
    have h2 := (errW_0 hb).1
    unfold upd
    rw [if_neg (by omega)]
  · rfl
theorem f_byte {l : List Rg} {a x i : Nat} (hok : l.all Rg.ok = true) (h : errW l a = 0) (hi : i < 8) : errB l (a + i) = 0 ∧ loadB l (upd (fun _ => 0) (a / 8) x) (a + i) = byteOf x i := by
  have h0 := errB_at hok h hi
  have h8 := (errW_0 h).1
  refine ⟨h0, ?_⟩
  rw [loadB, if_pos h0, show (a + i) / 8 = a / 8 by omega, show (a + i) % 8 = i by omega]
  simp [upd]

set_option maxRecDepth 100000 in
set_option maxHeartbeats 3200000 in
theorem means_err (l : List Rg) (p : Option Addr) (c a b x : Nat) (w : World) (h : GivenM w l p c) (hl : longB l = false) (hm : mayB l = true) (ha : a < 18446744073709551616) (hb : b < 18446744073709551616) (he : errW l a ≠ 0) :
    Calls Try.prog 7 #[.slice p l.length c, .int .u64 a, .int .u64 b, .int .u64 x] w fun e w' => e = .returned (.bool true) ∧ Below w.heap.size w w' := by
  have HG := Lib.hid h
  have hok := ok_of hm
  clear h
  have HL : Hid (∀ w', Below w.heap.size w w' → Calls Try.prog 11 #[.slice p l.length c] w' fun e w'' => e = .returned (.bool false) ∧ w' = w'') := Lib.hid fun w' hB => by
    have := long_any l p c _ w' (HG.out.later hB).rg; rw [hl] at this; exact this
  have HM : Hid (∀ w', Below w.heap.size w w' → Calls Try.prog 15 #[.slice p l.length c] w' fun e w'' => e = .returned (.bool true) ∧ Below w'.heap.size w' w'') := Lib.hid fun w' hB => by
    have := refMay_any l p c _ w' (HG.out.later hB).rg (Nat.le_refl _); rw [hm] at this; exact this
  have HN : Hid (∀ w', Below w.heap.size w w' → Calls Try.prog 13 #[.slice p l.length c] w' fun e w'' => (∃ g, e = .returned (.tuple #[.pointer (some ⟨g, 0, none⟩), .int .i64 0]) ∧ MemIs w'' w'.heap.size g l (fun _ => 0)) ∧ Below w'.heap.size w' w'') := Lib.hid fun w' hB =>
    (new_any l p c _ w' (HG.out.later hB).rg (Nat.le_refl _) HG.out.le HG.out.cap HG.out.nil).mono fun e w'' h => ⟨h.1.2 hm, h.2⟩
  have HV : Hid (∀ B g w', MemIs w' B g l (fun _ => 0) → Calls Try.prog 28 #[.pointer (some ⟨g, 0, none⟩), .int .u64 b] w' fun e w'' => e = .returned (.tuple #[.int .u64 (loadV l (fun _ => 0) b), .int .i64 (errW l b)]) ∧ Below w'.heap.size w' w'') := Lib.hid fun B g w' hM => load_any l _ B g b w' hM hok hb
  have HS : Hid (∀ B g w', MemIs w' B g l (fun _ => 0) → Calls Try.prog 38 #[.pointer (some ⟨g, 0, none⟩), .int .u64 a, .int .u64 x] w' fun e w'' => e = .returned (.int .i64 (errW l a)) ∧ Below w'.heap.size w' w'') := Lib.hid fun B g w' hM => store_no l _ B g a x w' hM hok ha he
  have ho := errW_or l a
  generalize errW l a = z at HS he ho
  generalize errW l b = zb at HV
  generalize loadV l (fun _ => 0) b = vb at HV
  clear hl hm hok
  have d0 : (z != 0) = true := by simpa using he
  have HO := Lib.hid (show z = 2 ∨ z = 14 by omega)
  clear he ho
  go_enter Try.func7, Try.ntmps7
  go_wp2_with fail
  refine (known_any _).mono ?_
  rintro e w1 ⟨rfl, hB⟩
  have HB := Lib.hid hB
  have H1 := Lib.hid (HL.out _ hB)
  have H2 := Lib.hid (HM.out _ hB)
  clear hB
  go_wp2_with fail
  refine H1.out.mono ?_
  rintro e w2 ⟨rfl, rfl⟩
  go_wp2_with fail
  refine H2.out.mono ?_
  rintro e w2 ⟨rfl, hB⟩
  have HB2 := Lib.hid (HB.out.trans (hB.mono HB.out.size))
  have H3 := Lib.hid (HN.out _ HB2.out)
  clear hB H1 H2 HB
  go_wp2_with fail
  refine H3.out.mono ?_
  rintro e w3 ⟨⟨g, rfl, hM⟩, hB⟩
  have HB3 := Lib.hid (HB2.out.trans (hB.mono HB2.out.size))
  have HM3 := Lib.hid hM
  have HG3 : Hid (w.heap.size ≤ g) := by
    obtain ⟨p, c, q, h1, h2, h3, h4, h5, h6, h7, _⟩ := hM
    exact Nat.le_trans HB2.out.size (Nat.le_trans h5 (Nat.le_of_lt h6))
  have H4 := Lib.hid (HV.out _ _ _ hM)
  clear hB H3 HB2 hM
  go_wp2_with fail
  refine H4.out.mono ?_
  rintro e w4 ⟨rfl, hB⟩
  have HB4 := Lib.hid (HB3.out.trans (hB.mono HB3.out.size))
  have HM4 := Lib.hid (HM3.out.later hB)
  have H5 := Lib.hid (HS.out _ _ _ HM4.out)
  clear hB H4 HB3 HM3
  go_wp2_with fail
  refine H5.out.mono ?_
  rintro e w5 ⟨rfl, hB⟩
  have HB5 := Lib.hid (HB4.out.trans (hB.mono HB4.out.size))
  clear hB H5 HB4 HM4
  go_wp2_with fail
  refine (num_any z _).mono ?_
  rintro e w6 ⟨rfl, rfl⟩
  go_wp2_with (refine (num_any z _).mono ?_; rintro e w6 ⟨rfl, rfl⟩)
  all_goals go_ret
  all_goals refine ⟨ret_bool ?_, HB5.out⟩
  all_goals (rcases HO.out with h | h <;> simp_all)
set_option maxRecDepth 100000 in
set_option maxHeartbeats 3200000 in
theorem means_eq (l : List Rg) (p : Option Addr) (c a b x : Nat) (w : World) (h : GivenM w l p c) (hl : longB l = false) (hm : mayB l = true) (ha : a < 18446744073709551616) (hb : b < 18446744073709551616) (he : errW l a = 0) (hx : x < 18446744073709551616) (hab : a = b) :
    Calls Try.prog 7 #[.slice p l.length c, .int .u64 a, .int .u64 b, .int .u64 x] w fun e w' => e = .returned (.bool true) ∧ Below w.heap.size w w' := by
  have HG := Lib.hid h
  have hok := ok_of hm
  clear h
  have HL : Hid (∀ w', Below w.heap.size w w' → Calls Try.prog 11 #[.slice p l.length c] w' fun e w'' => e = .returned (.bool false) ∧ w' = w'') := Lib.hid fun w' hB => by
    have := long_any l p c _ w' (HG.out.later hB).rg; rw [hl] at this; exact this
  have HM : Hid (∀ w', Below w.heap.size w w' → Calls Try.prog 15 #[.slice p l.length c] w' fun e w'' => e = .returned (.bool true) ∧ Below w'.heap.size w' w'') := Lib.hid fun w' hB => by
    have := refMay_any l p c _ w' (HG.out.later hB).rg (Nat.le_refl _); rw [hm] at this; exact this
  have HN : Hid (∀ w', Below w.heap.size w w' → Calls Try.prog 13 #[.slice p l.length c] w' fun e w'' => (∃ g, e = .returned (.tuple #[.pointer (some ⟨g, 0, none⟩), .int .i64 0]) ∧ MemIs w'' w'.heap.size g l (fun _ => 0)) ∧ Below w'.heap.size w' w'') := Lib.hid fun w' hB =>
    (new_any l p c _ w' (HG.out.later hB).rg (Nat.le_refl _) HG.out.le HG.out.cap HG.out.nil).mono fun e w'' h => ⟨h.1.2 hm, h.2⟩
  have HV : Hid (∀ B g w', MemIs w' B g l (fun _ => 0) → Calls Try.prog 28 #[.pointer (some ⟨g, 0, none⟩), .int .u64 b] w' fun e w'' => e = .returned (.tuple #[.int .u64 (loadV l (fun _ => 0) b), .int .i64 (errW l b)]) ∧ Below w'.heap.size w' w'') := Lib.hid fun B g w' hM => load_any l _ B g b w' hM hok hb
  have HS : Hid (∀ B g w', MemIs w' B g l (fun _ => 0) → Calls Try.prog 38 #[.pointer (some ⟨g, 0, none⟩), .int .u64 a, .int .u64 x] w' fun e w'' => e = .returned (.int .i64 0) ∧ MemIs w'' B g l (upd (fun _ => 0) (a / 8) x) ∧ Agr g w' w'') := Lib.hid fun B g w' hM => store_yes l _ B g a x w' hM hok ha he hx
  have HA : Hid (∀ B g w', MemIs w' B g l (upd (fun _ => 0) (a / 8) x) → Calls Try.prog 28 #[.pointer (some ⟨g, 0, none⟩), .int .u64 a] w' fun e w'' => e = .returned (.tuple #[.int .u64 x, .int .i64 0]) ∧ Below w'.heap.size w' w'') := Lib.hid fun B g w' hM => by
    have := load_any l _ B g a w' hM hok ha; rw [f_word he, he] at this; exact this
  have HZ : Hid (∀ B g w', MemIs w' B g l (upd (fun _ => 0) (a / 8) x) → Calls Try.prog 28 #[.pointer (some ⟨g, 0, none⟩), .int .u64 b] w' fun e w'' => e = .returned (.tuple #[.int .u64 (loadV l (upd (fun _ => 0) (a / 8) x) b), .int .i64 (errW l b)]) ∧ Below w'.heap.size w' w'') := Lib.hid fun B g w' hM => load_any l _ B g b w' hM hok hb
  have ha8 : a < 65536 := errB_lt hok (errW_0 he).2
  have HY : Hid (∀ B g w' (i : Nat), i < 8 → MemIs w' B g l (upd (fun _ => 0) (a / 8) x) → Calls Try.prog 30 #[.pointer (some ⟨g, 0, none⟩), .int .u64 ((a : Int) + (i : Int))] w' fun e w'' => e = .returned (.tuple #[.int .u8 (byteOf x i : Nat), .int .i64 0]) ∧ Below w'.heap.size w' w'') := Lib.hid fun B g w' i hi hM => by
    have := loadByte_any l _ B g (a + i) w' hM hok (by omega); rw [(f_byte (x := x) hok he hi).2, (f_byte (x := x) hok he hi).1, Int.natCast_add] at this; exact this
  have hE := f_word (l := l) (x := x) he
  obtain rfl := hab
  rw [hE] at HZ
  generalize loadV l (fun _ => 0) a = vb at HV
  generalize errW l a = zb at HV HZ
  clear hE
  generalize upd (fun _ => 0) (a / 8) x = f1 at HS HA HZ HY
  clear hl hm hok he
  go_enter Try.func7, Try.ntmps7
  go_wp2_with fail
  refine (known_any _).mono ?_
  rintro e w1 ⟨rfl, hB⟩
  have HB := Lib.hid hB
  have H1 := Lib.hid (HL.out _ hB)
  have H2 := Lib.hid (HM.out _ hB)
  clear hB
  go_wp2_with fail
  refine H1.out.mono ?_
  rintro e w2 ⟨rfl, rfl⟩
  go_wp2_with fail
  refine H2.out.mono ?_
  rintro e w2 ⟨rfl, hB⟩
  have HB2 := Lib.hid (HB.out.trans (hB.mono HB.out.size))
  have H3 := Lib.hid (HN.out _ HB2.out)
  clear hB H1 H2 HB
  go_wp2_with fail
  refine H3.out.mono ?_
  rintro e w3 ⟨⟨g, rfl, hM⟩, hB⟩
  have HB3 := Lib.hid (HB2.out.trans (hB.mono HB2.out.size))
  have HM3 := Lib.hid hM
  have HG3 : Hid (w.heap.size ≤ g) := by
    obtain ⟨p, c, q, h1, h2, h3, h4, h5, h6, h7, _⟩ := hM
    exact Nat.le_trans HB2.out.size (Nat.le_trans h5 (Nat.le_of_lt h6))
  have H4 := Lib.hid (HV.out _ _ _ hM)
  clear hB H3 HB2 hM
  go_wp2_with fail
  refine H4.out.mono ?_
  rintro e w4 ⟨rfl, hB⟩
  have HB4 := Lib.hid (HB3.out.trans (hB.mono HB3.out.size))
  have HM4 := Lib.hid (HM3.out.later hB)
  have H5 := Lib.hid (HS.out _ _ _ HM4.out)
  clear hB H4 HB3 HM3
  go_wp2_with fail
  refine H5.out.mono ?_
  rintro e w5 ⟨rfl, hM, hA⟩
  have HB5 := Lib.hid (hA.below HB4.out HG3.out HB4.out.size)
  have HM5 := Lib.hid hM
  have H6 := Lib.hid (HA.out _ _ _ hM)
  clear hA H5 HB4 HM4 hM
  go_wp2_with fail
  refine (num_any 0 _).mono ?_
  rintro e w' ⟨rfl, rfl⟩
  go_wp2_with fail
  refine H6.out.mono ?_
  rintro e w6 ⟨rfl, hB⟩
  have HB6 := Lib.hid (HB5.out.trans (hB.mono HB5.out.size))
  have HM6 := Lib.hid (HM5.out.later hB)
  have H7 := Lib.hid (HZ.out _ _ _ HM6.out)
  clear hB H6 HB5 HM5
  go_wp2_with fail
  refine H7.out.mono ?_
  rintro e w7 ⟨rfl, hB⟩
  have HB7 := Lib.hid (HB6.out.trans (hB.mono HB6.out.size))
  have HM7 := Lib.hid (HM6.out.later hB)
  clear hB H7 HB6 HM6
  go_wp2_with fail
  generalize w2.heap.size = B2 at HM7
  go_loopw [18] (fun i wr => ∃ k : Nat, i = .int .u64 k ∧ k ≤ 8 ∧ Hid (MemIs wr B2 g l f1) ∧ Hid (Below w.heap.size w wr)) (fun i _ => 8 - (intOf i).toNat)
  case atStart => exact ⟨0, rfl, by omega, HM7, HB7⟩
  case round =>
    obtain ⟨k, rfl, hk, hM, hB⟩ := hrel
    by_cases hlt : k < 8
    · have H8 := Lib.hid (HY.out _ _ _ k hlt hM.out)
      go_wp2_with fail
      refine H8.out.mono ?_
      rintro e w8 ⟨rfl, hB8⟩
      have HB8 := Lib.hid (hB.out.trans (hB8.mono hB.out.size))
      have HM8 := Lib.hid (hM.out.later hB8)
      have d3 : (((byteOf x k : Nat) : Int) != (x : Int) / 2 ^ (8 * k) % 256) = false := by
        unfold byteOf; rw [Nat.mul_comm]; simp
      have d4 : (((byteOf x k : Nat) : Int) != (x : Int) / 2 ^ (k * 8) % 256) = false := by
        unfold byteOf; simp
      clear hB8 H8
      go_wp2_with (refine (num_any 0 _).mono ?_; rintro e w' ⟨rfl, rfl⟩)
      go_roundw
      case rel => exact ⟨k + 1, by go_num, by omega, HM8, HB8⟩
      case measure => simp [intOf]; omega
    · go_wp2_with (first | (refine (num_any 0 _).mono ?_; rintro e w' ⟨rfl, rfl⟩) | (refine (num_any zb _).mono ?_; rintro e w' ⟨rfl, rfl⟩))
      go_ret
      exact ⟨ret_bool (by simp), hB.out⟩
set_option maxRecDepth 100000 in
set_option maxHeartbeats 3200000 in
theorem means_ne (l : List Rg) (p : Option Addr) (c a b x : Nat) (w : World) (h : GivenM w l p c) (hl : longB l = false) (hm : mayB l = true) (ha : a < 18446744073709551616) (hb : b < 18446744073709551616) (he : errW l a = 0) (hx : x < 18446744073709551616) (hab : a ≠ b) :
    Calls Try.prog 7 #[.slice p l.length c, .int .u64 a, .int .u64 b, .int .u64 x] w fun e w' => e = .returned (.bool true) ∧ Below w.heap.size w w' := by
  have HG := Lib.hid h
  have hok := ok_of hm
  clear h
  have HL : Hid (∀ w', Below w.heap.size w w' → Calls Try.prog 11 #[.slice p l.length c] w' fun e w'' => e = .returned (.bool false) ∧ w' = w'') := Lib.hid fun w' hB => by
    have := long_any l p c _ w' (HG.out.later hB).rg; rw [hl] at this; exact this
  have HM : Hid (∀ w', Below w.heap.size w w' → Calls Try.prog 15 #[.slice p l.length c] w' fun e w'' => e = .returned (.bool true) ∧ Below w'.heap.size w' w'') := Lib.hid fun w' hB => by
    have := refMay_any l p c _ w' (HG.out.later hB).rg (Nat.le_refl _); rw [hm] at this; exact this
  have HN : Hid (∀ w', Below w.heap.size w w' → Calls Try.prog 13 #[.slice p l.length c] w' fun e w'' => (∃ g, e = .returned (.tuple #[.pointer (some ⟨g, 0, none⟩), .int .i64 0]) ∧ MemIs w'' w'.heap.size g l (fun _ => 0)) ∧ Below w'.heap.size w' w'') := Lib.hid fun w' hB =>
    (new_any l p c _ w' (HG.out.later hB).rg (Nat.le_refl _) HG.out.le HG.out.cap HG.out.nil).mono fun e w'' h => ⟨h.1.2 hm, h.2⟩
  have HV : Hid (∀ B g w', MemIs w' B g l (fun _ => 0) → Calls Try.prog 28 #[.pointer (some ⟨g, 0, none⟩), .int .u64 b] w' fun e w'' => e = .returned (.tuple #[.int .u64 (loadV l (fun _ => 0) b), .int .i64 (errW l b)]) ∧ Below w'.heap.size w' w'') := Lib.hid fun B g w' hM => load_any l _ B g b w' hM hok hb
  have HS : Hid (∀ B g w', MemIs w' B g l (fun _ => 0) → Calls Try.prog 38 #[.pointer (some ⟨g, 0, none⟩), .int .u64 a, .int .u64 x] w' fun e w'' => e = .returned (.int .i64 0) ∧ MemIs w'' B g l (upd (fun _ => 0) (a / 8) x) ∧ Agr g w' w'') := Lib.hid fun B g w' hM => store_yes l _ B g a x w' hM hok ha he hx
  have HA : Hid (∀ B g w', MemIs w' B g l (upd (fun _ => 0) (a / 8) x) → Calls Try.prog 28 #[.pointer (some ⟨g, 0, none⟩), .int .u64 a] w' fun e w'' => e = .returned (.tuple #[.int .u64 x, .int .i64 0]) ∧ Below w'.heap.size w' w'') := Lib.hid fun B g w' hM => by
    have := load_any l _ B g a w' hM hok ha; rw [f_word he, he] at this; exact this
  have HZ : Hid (∀ B g w', MemIs w' B g l (upd (fun _ => 0) (a / 8) x) → Calls Try.prog 28 #[.pointer (some ⟨g, 0, none⟩), .int .u64 b] w' fun e w'' => e = .returned (.tuple #[.int .u64 (loadV l (upd (fun _ => 0) (a / 8) x) b), .int .i64 (errW l b)]) ∧ Below w'.heap.size w' w'') := Lib.hid fun B g w' hM => load_any l _ B g b w' hM hok hb
  have ha8 : a < 65536 := errB_lt hok (errW_0 he).2
  have HY : Hid (∀ B g w' (i : Nat), i < 8 → MemIs w' B g l (upd (fun _ => 0) (a / 8) x) → Calls Try.prog 30 #[.pointer (some ⟨g, 0, none⟩), .int .u64 ((a : Int) + (i : Int))] w' fun e w'' => e = .returned (.tuple #[.int .u8 (byteOf x i : Nat), .int .i64 0]) ∧ Below w'.heap.size w' w'') := Lib.hid fun B g w' i hi hM => by
    have := loadByte_any l _ B g (a + i) w' hM hok (by omega); rw [(f_byte (x := x) hok he hi).2, (f_byte (x := x) hok he hi).1, Int.natCast_add] at this; exact this
  rw [f_other he hab] at HZ
  generalize loadV l (fun _ => 0) b = vb at HV HZ
  generalize errW l b = zb at HV HZ
  have hne : ((a : Int) == (b : Int)) = false := by simp; omega
  have hne2 : (a == b) = false := by simp; omega
  generalize upd (fun _ => 0) (a / 8) x = f1 at HS HA HZ HY
  clear hl hm hok he
  go_enter Try.func7, Try.ntmps7
  go_wp2_with fail
  refine (known_any _).mono ?_
  rintro e w1 ⟨rfl, hB⟩
  have HB := Lib.hid hB
  have H1 := Lib.hid (HL.out _ hB)
  have H2 := Lib.hid (HM.out _ hB)
  clear hB
  go_wp2_with fail
  refine H1.out.mono ?_
  rintro e w2 ⟨rfl, rfl⟩
  go_wp2_with fail
  refine H2.out.mono ?_
  rintro e w2 ⟨rfl, hB⟩
  have HB2 := Lib.hid (HB.out.trans (hB.mono HB.out.size))
  have H3 := Lib.hid (HN.out _ HB2.out)
  clear hB H1 H2 HB
  go_wp2_with fail
  refine H3.out.mono ?_
  rintro e w3 ⟨⟨g, rfl, hM⟩, hB⟩
  have HB3 := Lib.hid (HB2.out.trans (hB.mono HB2.out.size))
  have HM3 := Lib.hid hM
  have HG3 : Hid (w.heap.size ≤ g) := by
    obtain ⟨p, c, q, h1, h2, h3, h4, h5, h6, h7, _⟩ := hM
    exact Nat.le_trans HB2.out.size (Nat.le_trans h5 (Nat.le_of_lt h6))
  have H4 := Lib.hid (HV.out _ _ _ hM)
  clear hB H3 HB2 hM
  go_wp2_with fail
  refine H4.out.mono ?_
  rintro e w4 ⟨rfl, hB⟩
  have HB4 := Lib.hid (HB3.out.trans (hB.mono HB3.out.size))
  have HM4 := Lib.hid (HM3.out.later hB)
  have H5 := Lib.hid (HS.out _ _ _ HM4.out)
  clear hB H4 HB3 HM3
  go_wp2_with fail
  refine H5.out.mono ?_
  rintro e w5 ⟨rfl, hM, hA⟩
  have HB5 := Lib.hid (hA.below HB4.out HG3.out HB4.out.size)
  have HM5 := Lib.hid hM
  have H6 := Lib.hid (HA.out _ _ _ hM)
  clear hA H5 HB4 HM4 hM
  go_wp2_with fail
  refine (num_any 0 _).mono ?_
  rintro e w' ⟨rfl, rfl⟩
  go_wp2_with fail
  refine H6.out.mono ?_
  rintro e w6 ⟨rfl, hB⟩
  have HB6 := Lib.hid (HB5.out.trans (hB.mono HB5.out.size))
  have HM6 := Lib.hid (HM5.out.later hB)
  have H7 := Lib.hid (HZ.out _ _ _ HM6.out)
  clear hB H6 HB5 HM5
  go_wp2_with fail
  refine H7.out.mono ?_
  rintro e w7 ⟨rfl, hB⟩
  have HB7 := Lib.hid (HB6.out.trans (hB.mono HB6.out.size))
  have HM7 := Lib.hid (HM6.out.later hB)
  clear hB H7 HB6 HM6
  go_wp2_with fail
  generalize w2.heap.size = B2 at HM7
  go_loopw [18] (fun i wr => ∃ k : Nat, i = .int .u64 k ∧ k ≤ 8 ∧ Hid (MemIs wr B2 g l f1) ∧ Hid (Below w.heap.size w wr)) (fun i _ => 8 - (intOf i).toNat)
  case atStart => exact ⟨0, rfl, by omega, HM7, HB7⟩
  case round =>
    obtain ⟨k, rfl, hk, hM, hB⟩ := hrel
    by_cases hlt : k < 8
    · have H8 := Lib.hid (HY.out _ _ _ k hlt hM.out)
      go_wp2_with fail
      refine H8.out.mono ?_
      rintro e w8 ⟨rfl, hB8⟩
      have HB8 := Lib.hid (hB.out.trans (hB8.mono hB.out.size))
      have HM8 := Lib.hid (hM.out.later hB8)
      have d3 : (((byteOf x k : Nat) : Int) != (x : Int) / 2 ^ (8 * k) % 256) = false := by
        unfold byteOf; rw [Nat.mul_comm]; simp
      have d4 : (((byteOf x k : Nat) : Int) != (x : Int) / 2 ^ (k * 8) % 256) = false := by
        unfold byteOf; simp
      clear hB8 H8
      go_wp2_with (refine (num_any 0 _).mono ?_; rintro e w' ⟨rfl, rfl⟩)
      go_roundw
      case rel => exact ⟨k + 1, by go_num, by omega, HM8, HB8⟩
      case measure => simp [intOf]; omega
    · go_wp2_with (first | (refine (num_any 0 _).mono ?_; rintro e w' ⟨rfl, rfl⟩) | (refine (num_any zb _).mono ?_; rintro e w' ⟨rfl, rfl⟩))
      go_ret
      exact ⟨ret_bool (by simp), hB.out⟩
theorem means_law (l : List Rg) (p : Option Addr) (c a b x : Nat) (w : World) (h : GivenM w l p c) (ha : a < 18446744073709551616) (hb : b < 18446744073709551616) (hx : x < 18446744073709551616) :
    Calls Try.prog 7 #[.slice p l.length c, .int .u64 a, .int .u64 b, .int .u64 x] w fun e w' => e = .returned (.bool true) ∧ Below w.heap.size w w' := by
  cases hl : longB l with
  | true => exact means_long l p c a b x w h hl
  | false =>
    cases hm : mayB l with
    | false => exact means_bad l p c a b x w h hl hm
    | true =>
      by_cases he : errW l a = 0
      · by_cases hab : a = b
        · exact means_eq l p c a b x w h hl hm ha hb he hx hab
        · exact means_ne l p c a b x w h hl hm ha hb he hx hab
      · exact means_err l p c a b x w h hl hm ha hb he
end Go.Proofs.Ytigkjmjkpjjjkaa
