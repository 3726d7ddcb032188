/- The law MemBytes, walked. -/
import Derived.Test.YtigkjmjkpjjjkaaLM
namespace Go.Proofs.Ytigkjmjkpjjjkaa
open Go.RowKit

theorem storeB_any (l : List Rg) (f : Nat → Nat) (B g a x : Nat) (w : World) (h : MemIs w B g l f) (hok : l.all Rg.ok = true) (ha : a < 18446744073709551616) (hx : x < 256) :
    Calls Try.prog 41 #[.pointer (some ⟨g, 0, none⟩), .int .u64 a, .int .u8 x] w fun e w' => e = .returned (.int .i64 (errB l a)) ∧ (∃ f', MemIs w' B g l f') ∧ Agr g w w' := by
  by_cases h0 : errB l a = 0
  · refine (storeB_yes l f B g a x w h hok h0 hx).mono ?_
    rintro e w' ⟨rfl, hM, hA⟩
    exact ⟨by rw [h0], ⟨_, hM⟩, hA⟩
  · refine (storeB_no l f B g a x w h hok ha h0).mono ?_
    rintro e w' ⟨rfl, hB⟩
    exact ⟨rfl, ⟨_, h.later hB⟩, Agr.of hB⟩

set_option maxRecDepth 100000 in
set_option maxHeartbeats 3200000 in
theorem bytes_long (l : List Rg) (p : Option Addr) (c a x : Nat) (w : World) (h : GivenM w l p c) (hl : longB l = true) :
    Calls Try.prog 9 #[.slice p l.length c, .int .u64 a, .int .u64 x] w fun e w' => e = .returned (.bool true) ∧ Below w.heap.size w w' := by
  have HG := Lib.hid h
  clear h
  have HL : Hid (∀ w', Below w.heap.size w w' → Calls Try.prog 11 #[.slice p l.length c] w' fun e w'' => e = .returned (.bool true) ∧ w' = w'') := Lib.hid fun w' hB => by
    have := long_any l p c _ w' (HG.out.later hB).rg; rw [hl] at this; exact this
  have H1 := Lib.hid (HL.out _ (Below.refl _ _))
  clear hl
  go_enter Try.func9, Try.ntmps9
  go_wp2_with fail
  refine H1.out.mono ?_
  rintro e w2 ⟨rfl, rfl⟩
  go_wp2_with fail
  refine (known_any _).mono ?_
  rintro e w3 ⟨rfl, hB⟩
  have HB := Lib.hid hB
  clear hB
  go_wp2_with fail
  go_ret
  exact ⟨rfl, HB.out⟩
set_option maxRecDepth 100000 in
set_option maxHeartbeats 3200000 in
theorem bytes_bad (l : List Rg) (p : Option Addr) (c a x : Nat) (w : World) (h : GivenM w l p c) (hl : longB l = false) (hm : mayB l = false) :
    Calls Try.prog 9 #[.slice p l.length c, .int .u64 a, .int .u64 x] w fun e w' => e = .returned (.bool true) ∧ Below w.heap.size w w' := by
  have HG := Lib.hid h
  clear h
  have HL : Hid (∀ w', Below w.heap.size w w' → Calls Try.prog 11 #[.slice p l.length c] w' fun e w'' => e = .returned (.bool false) ∧ w' = w'') := Lib.hid fun w' hB => by
    have := long_any l p c _ w' (HG.out.later hB).rg; rw [hl] at this; exact this
  have HM : Hid (∀ w', Below w.heap.size w w' → Calls Try.prog 15 #[.slice p l.length c] w' fun e w'' => e = .returned (.bool false) ∧ Below w'.heap.size w' w'') := Lib.hid fun w' hB => by
    have := refMay_any l p c _ w' (HG.out.later hB).rg (Nat.le_refl _); rw [hm] at this; exact this
  have H1 := Lib.hid (HL.out _ (Below.refl _ _))
  have H2 := Lib.hid (HM.out _ (Below.refl _ _))
  clear hl hm
  go_enter Try.func9, Try.ntmps9
  go_wp2_with fail
  refine H1.out.mono ?_
  rintro e w2 ⟨rfl, rfl⟩
  go_wp2_with fail
  refine H2.out.mono ?_
  rintro e w2 ⟨rfl, hB⟩
  have HB := Lib.hid hB
  clear hB
  go_wp2_with fail
  refine (known_any _).mono ?_
  rintro e w3 ⟨rfl, hB⟩
  have HB3 := Lib.hid (HB.out.trans (hB.mono HB.out.size))
  clear hB
  go_wp2_with fail
  go_ret
  exact ⟨rfl, HB3.out⟩
set_option maxRecDepth 100000 in
set_option maxHeartbeats 3200000 in
theorem bytes_ok (l : List Rg) (p : Option Addr) (c a x : Nat) (w : World) (h : GivenM w l p c) (hl : longB l = false) (hm : mayB l = true) (ha : a < 18446744073709551616) (hx : x < 18446744073709551616) (he : errW l a = 0) :
    Calls Try.prog 9 #[.slice p l.length c, .int .u64 a, .int .u64 x] w fun e w' => e = .returned (.bool true) ∧ Below w.heap.size w w' := by
  have HG := Lib.hid h
  have hok := ok_of hm
  clear h
  have HL : Hid (∀ w', Below w.heap.size w w' → Calls Try.prog 11 #[.slice p l.length c] w' fun e w'' => e = .returned (.bool false) ∧ w' = w'') := Lib.hid fun w' hB => by
    have := long_any l p c _ w' (HG.out.later hB).rg; rw [hl] at this; exact this
  have HM : Hid (∀ w', Below w.heap.size w w' → Calls Try.prog 15 #[.slice p l.length c] w' fun e w'' => e = .returned (.bool true) ∧ Below w'.heap.size w' w'') := Lib.hid fun w' hB => by
    have := refMay_any l p c _ w' (HG.out.later hB).rg (Nat.le_refl _); rw [hm] at this; exact this
  have HN : Hid (∀ w', Below w.heap.size w w' → Calls Try.prog 13 #[.slice p l.length c] w' fun e w'' => (∃ g, e = .returned (.tuple #[.pointer (some ⟨g, 0, none⟩), .int .i64 0]) ∧ MemIs w'' w'.heap.size g l (fun _ => 0)) ∧ Below w'.heap.size w' w'') := Lib.hid fun w' hB =>
    (new_any l p c _ w' (HG.out.later hB).rg (Nat.le_refl _) HG.out.le HG.out.cap HG.out.nil).mono fun e w'' h => ⟨h.1.2 hm, h.2⟩
  have ha8 : a < 65536 := errB_lt hok (errW_0 he).2
  have HV : Hid (∀ B g w' f, MemIs w' B g l f → Calls Try.prog 28 #[.pointer (some ⟨g, 0, none⟩), .int .u64 a] w' fun e w'' => e = .returned (.tuple #[.int .u64 (f (a / 8) : Nat), .int .i64 0]) ∧ Below w'.heap.size w' w'') := Lib.hid fun B g w' f hM => by
    have := load_any l f B g a w' hM hok ha; rw [loadV, if_pos he, he] at this; exact this
  have HS : Hid (∀ B g w' f (k : Nat), k < 8 → MemIs w' B g l f → Calls Try.prog 41 #[.pointer (some ⟨g, 0, none⟩), .int .u64 ((a : Int) + (k : Int)), .int .u8 (byteOf x k : Nat)] w' fun e w'' => e = .returned (.int .i64 0) ∧ MemIs w'' B g l (upd f (a / 8) (setByte (f (a / 8)) k (byteOf x k))) ∧ Agr g w' w'') := Lib.hid fun B g w' f k hk hM => by
    have := storeB_yes l f B g (a + k) (byteOf x k) w' hM hok (errB_at hok he hk) (byte_lt _ _)
    have h8 := (errW_0 he).1
    rw [show (a + k) / 8 = a / 8 by omega, show (a + k) % 8 = k by omega, Int.natCast_add] at this; exact this
  have HQ := Lib.hid (errW_0 he).1
  clear hl hm hok he
  have H1 := Lib.hid (HL.out _ (Below.refl _ _))
  have H2 := Lib.hid (HM.out _ (Below.refl _ _))
  go_enter Try.func9, Try.ntmps9
  go_wp2_with fail
  refine H1.out.mono ?_
  rintro e w2 ⟨rfl, rfl⟩
  go_wp2_with fail
  refine H2.out.mono ?_
  rintro e w2 ⟨rfl, hB⟩
  have HB2 := Lib.hid hB
  have H3 := Lib.hid (HN.out _ HB2.out)
  clear hB H1 H2
  go_wp2_with fail
  refine H3.out.mono ?_
  rintro e w3 ⟨⟨g, rfl, hM⟩, hB⟩
  have HB3 := Lib.hid (HB2.out.trans (hB.mono HB2.out.size))
  have HM3 := Lib.hid hM
  have HG3 : Hid (w.heap.size ≤ g) := by
    obtain ⟨p, c, q, h1, h2, h3, h4, h5, h6, h7, _⟩ := hM
    exact Nat.le_trans HB2.out.size (Nat.le_trans h5 (Nat.le_of_lt h6))
  have H4 := Lib.hid (HV.out _ _ _ _ hM)
  clear hB H3 HB2 hM
  go_wp2_with fail
  refine (num_any 0 _).mono ?_
  rintro e w' ⟨rfl, rfl⟩
  go_wp2_with fail
  refine H4.out.mono ?_
  rintro e w4 ⟨rfl, hB⟩
  have HB4 := Lib.hid (HB3.out.trans (hB.mono HB3.out.size))
  have HM4 := Lib.hid (HM3.out.later hB)
  clear hB H4 HB3 HM3
  go_wp2_with fail
  generalize w2.heap.size = B2 at HM4
  go_loopw [11] (fun i wr => ∃ (k : Nat) (f : Nat → Nat), i = .int .u64 k ∧ k ≤ 8 ∧ Hid (MemIs wr B2 g l f) ∧ Hid (∀ j, j < k → byteOf (f (a / 8)) ((j + 4) % 8) = byteOf x ((j + 4) % 8)) ∧ Hid (Below w.heap.size w wr)) (fun i _ => 8 - (intOf i).toNat)
  case atStart => exact ⟨0, _, rfl, by omega, HM4, Lib.hid (fun j hj => absurd hj (Nat.not_lt_zero j)), HB4⟩
  case round =>
    obtain ⟨i, f, rfl, hi, hM, hJ, hB⟩ := hrel
    by_cases hlt : i < 8
    · obtain ⟨k, hk⟩ : ∃ k, (i + 4) % 8 = k := ⟨_, rfl⟩
      have hk8 : k < 8 := by omega
      have hki : ((i : Int) + 4) % 8 = (k : Int) := by omega
      have hxb : (x : Int) / 2 ^ (8 * k) % 256 = ((byteOf x k : Nat) : Int) := by unfold byteOf; rw [Nat.mul_comm]; simp
      have hxc : (x : Int) / 2 ^ (k * 8) % 256 = ((byteOf x k : Nat) : Int) := by unfold byteOf; simp
      have H8 := Lib.hid (HS.out _ _ _ f k hk8 hM.out)
      have HK := Lib.hid hk
      clear hk
      go_wp2_with fail
      refine H8.out.mono ?_
      rintro e w8 ⟨rfl, hM8, hA8⟩
      have HB8 := Lib.hid (hA8.below hB.out HG3.out hB.out.size)
      have HM8 := Lib.hid hM8
      have HJ8 : Hid (∀ j, j < i + 1 → byteOf (upd f (a / 8) (setByte (f (a / 8)) k (byteOf x k)) (a / 8)) ((j + 4) % 8) = byteOf x ((j + 4) % 8)) := Lib.hid fun j hj => by
        have hk := HK.out
        rw [upd, if_pos rfl, byte_set _ _ _ _ hk8 (by omega) (byte_lt _ _)]
        by_cases e : (j + 4) % 8 = k
        · rw [if_pos e, e]
        · rw [if_neg e]; exact hJ.out j (by rcases Nat.lt_or_ge j i with h | h; exact h; have : j = i := by omega
                                            subst this; exact absurd hk e)
      clear hM8 hA8 H8 hxb hxc
      generalize upd f (a / 8) (setByte (f (a / 8)) k (byteOf x k)) = f8 at HM8 HJ8
      generalize byteOf x k = bx
      go_wp2_with (refine (num_any 0 _).mono ?_; rintro e w' ⟨rfl, rfl⟩)
      go_roundw
      case rel => exact ⟨i + 1, f8, by go_num, by omega, HM8, HJ8, HB8⟩
      case measure => simp [intOf]; omega
    · have H9 := Lib.hid (HV.out _ _ _ _ hM.out)
      have hfx : f (a / 8) = x := bytes_eq (hM.out.lt _) hx fun t ht => by
        have := hJ.out ((t + 4) % 8) (by omega)
        rw [show ((t + 4) % 8 + 4) % 8 = t by omega] at this; exact this
      rw [hfx] at H9
      clear hfx
      go_wp2_with fail
      refine H9.out.mono ?_
      rintro e w9 ⟨rfl, hB9⟩
      have HB9 := Lib.hid (hB.out.trans (hB9.mono hB.out.size))
      clear hB9 H9
      go_wp2_with (first | (refine (num_any 0 _).mono ?_; rintro e w' ⟨rfl, rfl⟩) | (refine (known_any _).mono ?_; rintro e w10 ⟨rfl, hB⟩))
      go_ret
      exact ⟨ret_bool (by simp), HB9.out.trans (hB.mono HB9.out.size)⟩
set_option maxRecDepth 100000 in
set_option maxHeartbeats 3200000 in
theorem bytes_err (l : List Rg) (p : Option Addr) (c a x : Nat) (w : World) (h : GivenM w l p c) (hl : longB l = false) (hm : mayB l = true) (ha : a < 18446744073709551616) (_hx : x < 18446744073709551616) (he : errW l a ≠ 0) :
    Calls Try.prog 9 #[.slice p l.length c, .int .u64 a, .int .u64 x] w fun e w' => e = .returned (.bool true) ∧ Below w.heap.size w w' := by
  have HG := Lib.hid h
  have hok := ok_of hm
  clear h
  have HL : Hid (∀ w', Below w.heap.size w w' → Calls Try.prog 11 #[.slice p l.length c] w' fun e w'' => e = .returned (.bool false) ∧ w' = w'') := Lib.hid fun w' hB => by
    have := long_any l p c _ w' (HG.out.later hB).rg; rw [hl] at this; exact this
  have HM : Hid (∀ w', Below w.heap.size w w' → Calls Try.prog 15 #[.slice p l.length c] w' fun e w'' => e = .returned (.bool true) ∧ Below w'.heap.size w' w'') := Lib.hid fun w' hB => by
    have := refMay_any l p c _ w' (HG.out.later hB).rg (Nat.le_refl _); rw [hm] at this; exact this
  have HN : Hid (∀ w', Below w.heap.size w w' → Calls Try.prog 13 #[.slice p l.length c] w' fun e w'' => (∃ g, e = .returned (.tuple #[.pointer (some ⟨g, 0, none⟩), .int .i64 0]) ∧ MemIs w'' w'.heap.size g l (fun _ => 0)) ∧ Below w'.heap.size w' w'') := Lib.hid fun w' hB =>
    (new_any l p c _ w' (HG.out.later hB).rg (Nat.le_refl _) HG.out.le HG.out.cap HG.out.nil).mono fun e w'' h => ⟨h.1.2 hm, h.2⟩
  have HV : Hid (∀ B g w' f, MemIs w' B g l f → Calls Try.prog 28 #[.pointer (some ⟨g, 0, none⟩), .int .u64 a] w' fun e w'' => e = .returned (.tuple #[.int .u64 0, .int .i64 (errW l a)]) ∧ Below w'.heap.size w' w'') := Lib.hid fun B g w' f hM => by
    have := load_any l f B g a w' hM hok ha; rw [loadV, if_neg he] at this; exact this
  have HS : Hid (∀ B g w' f (m y : Nat), m < 18446744073709551616 → y < 256 → MemIs w' B g l f → Calls Try.prog 41 #[.pointer (some ⟨g, 0, none⟩), .int .u64 m, .int .u8 y] w' fun e w'' => e = .returned (.int .i64 (errB l m)) ∧ (∃ f', MemIs w'' B g l f') ∧ Agr g w' w'') := Lib.hid fun B g w' f m y hm hy hM => storeB_any l f B g m y w' hM hok hm hy
  have d0 : (errW l a != 0) = true := by simpa using he
  have d1 : (errW l a == 0) = false := by simpa using he
  generalize errW l a = z at HV d0 d1
  clear hl hm hok he
  have H1 := Lib.hid (HL.out _ (Below.refl _ _))
  have H2 := Lib.hid (HM.out _ (Below.refl _ _))
  go_enter Try.func9, Try.ntmps9
  go_wp2_with fail
  refine H1.out.mono ?_
  rintro e w2 ⟨rfl, rfl⟩
  go_wp2_with fail
  refine H2.out.mono ?_
  rintro e w2 ⟨rfl, hB⟩
  have HB2 := Lib.hid hB
  have H3 := Lib.hid (HN.out _ HB2.out)
  clear hB H1 H2
  go_wp2_with fail
  refine H3.out.mono ?_
  rintro e w3 ⟨⟨g, rfl, hM⟩, hB⟩
  have HB3 := Lib.hid (HB2.out.trans (hB.mono HB2.out.size))
  have HM3 := Lib.hid hM
  have HG3 : Hid (w.heap.size ≤ g) := by
    obtain ⟨p, c, q, h1, h2, h3, h4, h5, h6, h7, _⟩ := hM
    exact Nat.le_trans HB2.out.size (Nat.le_trans h5 (Nat.le_of_lt h6))
  have H4 := Lib.hid (HV.out _ _ _ _ hM)
  clear hB H3 HB2 hM
  go_wp2_with fail
  refine (num_any 0 _).mono ?_
  rintro e w' ⟨rfl, rfl⟩
  go_wp2_with fail
  refine H4.out.mono ?_
  rintro e w4 ⟨rfl, hB⟩
  have HB4 := Lib.hid (HB3.out.trans (hB.mono HB3.out.size))
  have HM4 := Lib.hid (HM3.out.later hB)
  clear hB H4 HB3 HM3
  go_wp2_with fail
  generalize w2.heap.size = B2 at HM4
  go_loopw [11] (fun i wr => ∃ (k : Nat) (f : Nat → Nat), i = .int .u64 k ∧ k ≤ 8 ∧ Hid (MemIs wr B2 g l f) ∧ Hid (Below w.heap.size w wr)) (fun i _ => 8 - (intOf i).toNat)
  case atStart => exact ⟨0, _, rfl, by omega, HM4, HB4⟩
  case round =>
    obtain ⟨i, f, rfl, hi, hM, hB⟩ := hrel
    by_cases hlt : i < 8
    · obtain ⟨k, hk⟩ : ∃ k, (i + 4) % 8 = k := ⟨_, rfl⟩
      have hk8 : k < 8 := by omega
      have hki : ((i : Int) + 4) % 8 = (k : Int) := by omega
      have hxb : (x : Int) / 2 ^ (8 * k) % 256 = ((byteOf x k : Nat) : Int) := by unfold byteOf; rw [Nat.mul_comm]; simp
      have hxc : (x : Int) / 2 ^ (k * 8) % 256 = ((byteOf x k : Nat) : Int) := by unfold byteOf; simp
      obtain ⟨m, hm1, hm2⟩ : ∃ m : Nat, IntKind.u64.wrap ((a : Int) + (k : Int)) = (m : Int) ∧ m < 18446744073709551616 := ⟨(a + k) % 18446744073709551616, by rw [IntKind.wrap_u64]; omega, by omega⟩
      have H8 := Lib.hid (HS.out _ _ _ f m (byteOf x k) hm2 (byte_lt _ _) hM.out)
      have HK := Lib.hid hk
      clear hk ha
      generalize errB l m = zb at H8
      go_wp2_with fail
      refine H8.out.mono ?_
      rintro e w8 ⟨rfl, ⟨f8, hM8⟩, hA8⟩
      have HB8 := Lib.hid (hA8.below hB.out HG3.out hB.out.size)
      have HM8 := Lib.hid hM8
      clear hM8 hA8 H8 hxb hxc
      go_wp2_with (refine (num_any z _).mono ?_; rintro e w' ⟨rfl, rfl⟩)
      go_roundw
      case rel => exact ⟨i + 1, f8, by go_num, by omega, HM8, HB8⟩
      case measure => simp [intOf]; omega
    · have H9 := Lib.hid (HV.out _ _ _ _ hM.out)
      go_wp2_with fail
      refine H9.out.mono ?_
      rintro e w9 ⟨rfl, hB9⟩
      have HB9 := Lib.hid (hB.out.trans (hB9.mono hB.out.size))
      clear hB9 H9
      go_wp2_with (first | (refine (num_any z _).mono ?_; rintro e w' ⟨rfl, rfl⟩) | (refine (known_any _).mono ?_; rintro e w10 ⟨rfl, hB⟩))
      go_ret
      exact ⟨ret_bool (by simp), HB9.out.trans (hB.mono HB9.out.size)⟩
theorem bytes_law (l : List Rg) (p : Option Addr) (c a x : Nat) (w : World) (h : GivenM w l p c) (ha : a < 18446744073709551616) (hx : x < 18446744073709551616) :
    Calls Try.prog 9 #[.slice p l.length c, .int .u64 a, .int .u64 x] w fun e w' => e = .returned (.bool true) ∧ Below w.heap.size w w' := by
  cases hl : longB l with
  | true => exact bytes_long l p c a x w h hl
  | false =>
    cases hm : mayB l with
    | false => exact bytes_bad l p c a x w h hl hm
    | true =>
      by_cases he : errW l a = 0
      · exact bytes_ok l p c a x w h hl hm ha hx he
      · exact bytes_err l p c a x w h hl hm ha hx he
end Go.Proofs.Ytigkjmjkpjjjkaa
