/- Who has an address: the closure. -/
import Derived.Test.YtajjpaabkdgjbaaB6
namespace Go.Proofs.Ytajjpaabkdgjbaa
open Go.RowKit

def placeIn : List Rg → Nat → Nat → Int × Int
  | [], _, _ => (-2, 0)
  | r :: rs, k, a => if r.addr ≤ (a : Int) ∧ (a : Int) < r.addr + r.size * 8 then ((k : Int), (a : Int) - r.addr) else placeIn rs (k + 1) a
def placeOf (l : List Rg) (a : Nat) : Int × Int := if 49152 ≤ a ∧ a < 65536 then (-1, (a : Int) - 49152) else placeIn l 0 a

theorem wrap_u (x : Int) (h1 : 0 ≤ x) (h2 : x < 18446744073709551616) : IntKind.u64.wrap x = x := by
  simp only [IntKind.wrap, IntKind.bits, IntKind.signed]; simp; omega
theorem wrap_i (x : Int) (h1 : -9223372036854775808 ≤ x) (h2 : x < 9223372036854775808) : IntKind.i64.wrap x = x := IntWalk.i64_in _ (by omega)
theorem wrap_neg (x : Int) (h1 : -49153 ≤ x) (h2 : x < 0) : 100000 < IntKind.u64.wrap x := by
  simp only [IntKind.wrap, IntKind.bits, IntKind.signed]; simp; omega
set_option maxHeartbeats 1600000 in
theorem where_stack (a : Nat) (q : Addr) (w : World) (h1 : 49152 ≤ a) (h2 : a < 65536) :
    Calls Try.prog 63 #[.int .u64 a, .pointer (some q)] w fun e w' => e = .returned (.tuple #[.int .i64 (-1), .int .i64 ((a : Int) - 49152)]) ∧ w = w' := by
  have e1 : IntKind.u64.wrap ((a : Int) - 49152) = (a : Int) - 49152 := wrap_u _ (by omega) (by omega)
  have e2 : IntKind.i64.wrap ((a : Int) - 49152) = (a : Int) - 49152 := wrap_i _ (by omega) (by omega)
  have d1 : decide ((49152 : Int) ≤ (a : Int)) = true := decide_eq_true (by omega)
  have d2 : decide ((a : Int) < (65536 : Int)) = true := decide_eq_true (by omega)
  go_enter Try.func63, Try.ntmps63
  go_wp2_with fail
  go_ret2
  exact ⟨rfl, rfl⟩

theorem in_yes {l ds rs : List Rg} {r : Rg} {a : Nat} {z : Int × Int} (h : placeIn l 0 a = z) (hI : placeIn l 0 a = placeIn (r :: rs) ds.length a) (h1 : r.addr ≤ (a : Int)) (h2 : (a : Int) < r.addr + r.size * 8) : z = ((ds.length : Int), (a : Int) - r.addr) := by
  rw [← h, hI, placeIn, if_pos ⟨h1, h2⟩]
theorem in_no {l ds rs : List Rg} {r : Rg} {a : Nat} (hI : placeIn l 0 a = placeIn (r :: rs) ds.length a) (h1 : ¬ (r.addr ≤ (a : Int) ∧ (a : Int) < r.addr + r.size * 8)) : placeIn l 0 a = placeIn rs (ds ++ [r]).length a := by
  rw [hI, placeIn, if_neg h1, List.length_append]; rfl
set_option maxHeartbeats 1600000 in
theorem where_low (l : List Rg) (p : Option Addr) (c N q : Nat) (a : Nat) (w : World) (h : RgIn w N l p) (hN : N ≤ w.heap.size) (hq : w.cell? ⟨q, 0, none⟩ = some (.slice p l.length c)) (hqz : q < w.heap.size)
    (hok : l.all Rg.ok = true) (ha : a < 18446744073709551616) (hs : a < 49152) :
    Calls Try.prog 63 #[.int .u64 a, .pointer (some ⟨q, 0, none⟩)] w fun e w' => e = .returned (.tuple #[.int .i64 (placeIn l 0 a).1, .int .i64 (placeIn l 0 a).2]) ∧ Below w.heap.size w w' := by
  have HS := Lib.hid h
  have HO := Lib.hid hok
  have hm := h.1
  have HQ := Lib.hid hq
  clear h hok
  obtain ⟨z0, hz0⟩ : ∃ z : Int × Int, placeIn l 0 a = z := ⟨_, rfl⟩
  rw [hz0]
  have HZ := Lib.hid hz0
  clear hz0
  have d1 : decide ((49152 : Int) ≤ (a : Int)) = false := decide_eq_false (by omega)
  go_enter Try.func63, Try.ntmps63
  go_wp2_with fail
  clear hq
  go_loopw [18] (fun i wr => ∃ (ds rs : List Rg), i = .int .i64 ds.length ∧ Hid (l = ds ++ rs) ∧ ds.length + rs.length = l.length ∧ Hid (placeIn l 0 a = placeIn rs ds.length a) ∧ Hid (Below w.heap.size w wr))
    (fun i _ => l.length - (intOf i).toNat)
  case atStart => exact ⟨[], l, rfl, Lib.hid rfl, by simp, Lib.hid rfl, Lib.hid (Below.refl _ _)⟩
  case round =>
    obtain ⟨ds, rs, rfl, hE, hk, hI, hB⟩ := hrel
    cases rs with
    | nil =>
      simp only [List.length_nil] at hk
      have hge : ¬ ds.length < l.length := by omega
      go_wp2_with fail
      go_ret2
      have h0 := HZ.out
      rw [hI.out] at h0
      subst h0
      exact ⟨rfl, hB.out⟩
    | cons r rs =>
      simp only [List.length_cons] at hk
      obtain ⟨b, o, rfl, hb, hA⟩ : ∃ b o, p = some ⟨b, o, none⟩ ∧ b < N ∧ RgAt w l b o := by
        rcases HS.out.2 with h0 | h0
        · omega
        · exact h0
      rw [hE.out] at hA
      obtain ⟨⟨f0, f1, f2, f3⟩, _⟩ := RgAt.drop ds (r :: rs) b o hA
      have g0 := (hB.out.cell (show b < w.heap.size by omega)).trans f0
      have g1 := (hB.out.cell (show b < w.heap.size by omega)).trans f1
      have g2 := (hB.out.cell (show b < w.heap.size by omega)).trans f2
      have g3 := (hB.out.cell (show b < w.heap.size by omega)).trans f3
      have gq := (hB.out.cell (show q < w.heap.size by omega)).trans HQ.out
      have hlt : ds.length < l.length := by omega
      have hwz : w.heap.size ≤ wr.heap.size := hB.out.size
      have hro : r.ok = true := List.all_eq_true.1 HO.out r (by rw [hE.out]; simp)
      obtain ⟨_, r0, r8, rb⟩ := Rg.ok_iff.1 hro
      obtain ⟨_, _, rz1, rz2⟩ := (Rg.ok_iff.1 hro).1
      clear hA f0 f1 f2 f3 hro r8
      have e1 : IntKind.u64.wrap r.addr = r.addr := wrap_u _ r0 (by omega)
      have e2 : IntKind.u64.wrap (r.size * 8) = r.size * 8 := wrap_u _ (by omega) (by omega)
      obtain ⟨z, hz⟩ : ∃ z, IntKind.u64.wrap ((a : Int) - r.addr) = z := ⟨_, rfl⟩
      by_cases hin : r.addr ≤ (a : Int) ∧ (a : Int) < r.addr + r.size * 8
      · have hz1 : z = (a : Int) - r.addr := by rw [← hz]; exact wrap_u _ (by omega) (by omega)
        have e3 : IntKind.i64.wrap z = z := wrap_i _ (by omega) (by omega)
        have d3 : decide (z < r.size * 8) = true := decide_eq_true (by omega)
        have HE := Lib.hid (in_yes HZ.out hI.out hin.1 hin.2)
        have HZ1 := Lib.hid hz1
        clear hz1 hin
        go_wp2_with (first | (go_at_call 62; (with_reducible refine (bytesOf_any r _ (by omega) (by omega)).mono ?_); rintro e w' ⟨rfl, hB2⟩; have HB2 := Lib.hid (hB.out.trans (hB2.mono hwz)); clear hB2))
        go_ret2
        have h0 := HE.out
        subst h0
        have h1 := HZ1.out
        subst h1
        exact ⟨rfl, HB2.out⟩
      · have d3 : decide (z < r.size * 8) = false := by
          refine decide_eq_false ?_
          rw [← hz]
          by_cases h0 : r.addr ≤ (a : Int)
          · rw [wrap_u _ (by omega) (by omega)]; omega
          · have := wrap_neg ((a : Int) - r.addr) (by omega) (by omega); omega
        have HN := Lib.hid (in_no hI.out hin)
        clear hin
        go_wp2_with (first | (go_at_call 62; (with_reducible refine (bytesOf_any r _ (by omega) (by omega)).mono ?_); rintro e w' ⟨rfl, hB2⟩; have HB2 := Lib.hid (hB.out.trans (hB2.mono hwz)); clear hB2))
        go_roundw
        case rel => exact ⟨ds ++ [r], rs, by rw [List.length_append]; go_num, Lib.hid (by rw [hE.out]; simp), by simp; omega, HN, HB2⟩
        case measure => simp [intOf]; omega
set_option maxHeartbeats 1600000 in
theorem where_high (l : List Rg) (p : Option Addr) (c N q : Nat) (a : Nat) (w : World) (h : RgIn w N l p) (hN : N ≤ w.heap.size) (hq : w.cell? ⟨q, 0, none⟩ = some (.slice p l.length c)) (hqz : q < w.heap.size)
    (hok : l.all Rg.ok = true) (ha : a < 18446744073709551616) (hs : 65536 ≤ a) :
    Calls Try.prog 63 #[.int .u64 a, .pointer (some ⟨q, 0, none⟩)] w fun e w' => e = .returned (.tuple #[.int .i64 (placeIn l 0 a).1, .int .i64 (placeIn l 0 a).2]) ∧ Below w.heap.size w w' := by
  have HS := Lib.hid h
  have HO := Lib.hid hok
  have hm := h.1
  have HQ := Lib.hid hq
  clear h hok
  obtain ⟨z0, hz0⟩ : ∃ z : Int × Int, placeIn l 0 a = z := ⟨_, rfl⟩
  rw [hz0]
  have HZ := Lib.hid hz0
  clear hz0
  have d1 : decide ((49152 : Int) ≤ (a : Int)) = true := decide_eq_true (by omega)
  have d2 : decide ((a : Int) < (65536 : Int)) = false := decide_eq_false (by omega)
  go_enter Try.func63, Try.ntmps63
  go_wp2_with fail
  clear hq
  go_loopw [18] (fun i wr => ∃ (ds rs : List Rg), i = .int .i64 ds.length ∧ Hid (l = ds ++ rs) ∧ ds.length + rs.length = l.length ∧ Hid (placeIn l 0 a = placeIn rs ds.length a) ∧ Hid (Below w.heap.size w wr))
    (fun i _ => l.length - (intOf i).toNat)
  case atStart => exact ⟨[], l, rfl, Lib.hid rfl, by simp, Lib.hid rfl, Lib.hid (Below.refl _ _)⟩
  case round =>
    obtain ⟨ds, rs, rfl, hE, hk, hI, hB⟩ := hrel
    cases rs with
    | nil =>
      simp only [List.length_nil] at hk
      have hge : ¬ ds.length < l.length := by omega
      go_wp2_with fail
      go_ret2
      have h0 := HZ.out
      rw [hI.out] at h0
      subst h0
      exact ⟨rfl, hB.out⟩
    | cons r rs =>
      simp only [List.length_cons] at hk
      obtain ⟨b, o, rfl, hb, hA⟩ : ∃ b o, p = some ⟨b, o, none⟩ ∧ b < N ∧ RgAt w l b o := by
        rcases HS.out.2 with h0 | h0
        · omega
        · exact h0
      rw [hE.out] at hA
      obtain ⟨⟨f0, f1, f2, f3⟩, _⟩ := RgAt.drop ds (r :: rs) b o hA
      have g0 := (hB.out.cell (show b < w.heap.size by omega)).trans f0
      have g1 := (hB.out.cell (show b < w.heap.size by omega)).trans f1
      have g2 := (hB.out.cell (show b < w.heap.size by omega)).trans f2
      have g3 := (hB.out.cell (show b < w.heap.size by omega)).trans f3
      have gq := (hB.out.cell (show q < w.heap.size by omega)).trans HQ.out
      have hlt : ds.length < l.length := by omega
      have hwz : w.heap.size ≤ wr.heap.size := hB.out.size
      have hro : r.ok = true := List.all_eq_true.1 HO.out r (by rw [hE.out]; simp)
      obtain ⟨_, r0, r8, rb⟩ := Rg.ok_iff.1 hro
      obtain ⟨_, _, rz1, rz2⟩ := (Rg.ok_iff.1 hro).1
      clear hA f0 f1 f2 f3 hro r8
      have e1 : IntKind.u64.wrap r.addr = r.addr := wrap_u _ r0 (by omega)
      have e2 : IntKind.u64.wrap (r.size * 8) = r.size * 8 := wrap_u _ (by omega) (by omega)
      obtain ⟨z, hz⟩ : ∃ z, IntKind.u64.wrap ((a : Int) - r.addr) = z := ⟨_, rfl⟩
      by_cases hin : r.addr ≤ (a : Int) ∧ (a : Int) < r.addr + r.size * 8
      · have hz1 : z = (a : Int) - r.addr := by rw [← hz]; exact wrap_u _ (by omega) (by omega)
        have e3 : IntKind.i64.wrap z = z := wrap_i _ (by omega) (by omega)
        have d3 : decide (z < r.size * 8) = true := decide_eq_true (by omega)
        have HE := Lib.hid (in_yes HZ.out hI.out hin.1 hin.2)
        have HZ1 := Lib.hid hz1
        clear hz1 hin
        go_wp2_with (first | (go_at_call 62; (with_reducible refine (bytesOf_any r _ (by omega) (by omega)).mono ?_); rintro e w' ⟨rfl, hB2⟩; have HB2 := Lib.hid (hB.out.trans (hB2.mono hwz)); clear hB2))
        go_ret2
        have h0 := HE.out
        subst h0
        have h1 := HZ1.out
        subst h1
        exact ⟨rfl, HB2.out⟩
      · have d3 : decide (z < r.size * 8) = false := by
          refine decide_eq_false ?_
          rw [← hz]
          by_cases h0 : r.addr ≤ (a : Int)
          · rw [wrap_u _ (by omega) (by omega)]; omega
          · have := wrap_neg ((a : Int) - r.addr) (by omega) (by omega); omega
        have HN := Lib.hid (in_no hI.out hin)
        clear hin
        go_wp2_with (first | (go_at_call 62; (with_reducible refine (bytesOf_any r _ (by omega) (by omega)).mono ?_); rintro e w' ⟨rfl, hB2⟩; have HB2 := Lib.hid (hB.out.trans (hB2.mono hwz)); clear hB2))
        go_roundw
        case rel => exact ⟨ds ++ [r], rs, by rw [List.length_append]; go_num, Lib.hid (by rw [hE.out]; simp), by simp; omega, HN, HB2⟩
        case measure => simp [intOf]; omega
theorem where_any (l : List Rg) (p : Option Addr) (c N q : Nat) (a : Nat) (w : World) (h : RgIn w N l p) (hN : N ≤ w.heap.size) (hq : w.cell? ⟨q, 0, none⟩ = some (.slice p l.length c)) (hqz : q < w.heap.size)
    (hok : l.all Rg.ok = true) (ha : a < 18446744073709551616) :
    Calls Try.prog 63 #[.int .u64 a, .pointer (some ⟨q, 0, none⟩)] w fun e w' => e = .returned (.tuple #[.int .i64 (placeOf l a).1, .int .i64 (placeOf l a).2]) ∧ Below w.heap.size w w' := by
  by_cases h1 : 49152 ≤ a ∧ a < 65536
  · rw [placeOf, if_pos h1]
    refine (where_stack a ⟨q, 0, none⟩ w h1.1 h1.2).mono ?_
    rintro e w' ⟨rfl, rfl⟩
    exact ⟨rfl, Below.refl _ _⟩
  · rw [placeOf, if_neg h1]
    by_cases h2 : a < 49152
    · exact where_low l p c N q a w h hN hq hqz hok ha h2
    · exact where_high l p c N q a w h hN hq hqz hok ha (by omega)
end Go.Proofs.Ytajjpaabkdgjbaa
