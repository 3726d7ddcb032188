/- The document's memory: Place, ask, Store, StoreByte. -/
import Derived.Test.YtajjpaabkdgjbaaD1
import Derived.Test.YtajjpaabkdgjbaaBE
namespace Go.Proofs.Ytajjpaabkdgjbaa
open Go.RowKit

theorem placeIn_high {l : List Rg} {a : Nat} (hok : l.all Rg.ok = true) (h : 49152 ≤ a) : ∀ k, placeIn l k a = (-2, 0) := by
  induction l with
  | nil => intro k; rfl
  | cons r rs ih =>
    intro k
    simp only [List.all_cons, Bool.and_eq_true] at hok
    obtain ⟨_, r0, r8, rb⟩ := Rg.ok_iff.1 hok.1
    rw [placeIn, if_neg (by omega)]
    exact ih hok.2 _
theorem place_top {l : List Rg} {a : Nat} (hok : l.all Rg.ok = true) (h : 65536 ≤ a) : placeOf l a = (-2, 0) := by
  rw [placeOf, if_neg (by omega)]; exact placeIn_high hok (by omega) 0
theorem place_stack {l : List Rg} {a : Nat} (h : 49152 ≤ a) (h2 : a < 65536) : placeOf l a = (-1, (a : Int) - 49152) := by
  rw [placeOf, if_pos ⟨h, h2⟩]
theorem place_low {l : List Rg} {a : Nat} (h : a < 49152) : placeOf l a = placeIn l 0 a := by
  rw [placeOf, if_neg (by omega)]

set_option maxHeartbeats 1600000 in
theorem refPlace_top (l : List Rg) (bt : Nat → Nat) (B g a : Nat) (w : World) (_h : RefIs w B g l bt) (hok : l.all Rg.ok = true) (ha : a < 18446744073709551616) (hs : 65536 ≤ a) :
    Calls Try.prog 18 #[.pointer (some ⟨g, 0, none⟩), .int .u64 a] w fun e w' => e = .returned (.tuple #[.int .i64 (placeOf l a).1, .int .i64 (placeOf l a).2]) ∧ Below w.heap.size w w' := by
  rw [place_top hok hs]
  have d1 : decide ((65536 : Int) ≤ (a : Int)) = true := decide_eq_true (by omega)
  clear _h hok
  go_enter Try.func18, Try.ntmps18
  go_wp2_with fail
  go_ret2
  exact ⟨rfl, Below.refl _ _⟩
set_option maxHeartbeats 1600000 in
theorem refPlace_stack (l : List Rg) (bt : Nat → Nat) (B g a : Nat) (w : World) (_h : RefIs w B g l bt) (ha : a < 65536) (hs : 49152 ≤ a) :
    Calls Try.prog 18 #[.pointer (some ⟨g, 0, none⟩), .int .u64 a] w fun e w' => e = .returned (.tuple #[.int .i64 (placeOf l a).1, .int .i64 (placeOf l a).2]) ∧ Below w.heap.size w w' := by
  rw [place_stack hs ha]
  have d1 : decide ((65536 : Int) ≤ (a : Int)) = false := decide_eq_false (by omega)
  have d2 : decide ((49152 : Int) ≤ (a : Int)) = true := decide_eq_true (by omega)
  clear _h
  go_enter Try.func18, Try.ntmps18
  go_wp2_with fail
  go_ret2
  exact ⟨rfl, Below.refl _ _⟩
set_option maxHeartbeats 1600000 in
theorem refPlace_low (l : List Rg) (bt : Nat → Nat) (B g a : Nat) (w : World) (h : RefIs w B g l bt) (hok : l.all Rg.ok = true) (hs : a < 49152) :
    Calls Try.prog 18 #[.pointer (some ⟨g, 0, none⟩), .int .u64 a] w fun e w' => e = .returned (.tuple #[.int .i64 (placeOf l a).1, .int .i64 (placeOf l a).2]) ∧ Below w.heap.size w w' := by
  rw [place_low hs]
  have HO := Lib.hid hok
  obtain ⟨p, c, q, h1, h2, h4, h5, h6, h7, h8, h9, h10, h11, h12, h13⟩ := h
  have HS := Lib.hid h4
  have hm := h4.1
  have HQ := Lib.hid h1
  clear h1 h2 h4 h10 h11 h12 h13 hok
  obtain ⟨z0, hz0⟩ : ∃ z : Int × Int, placeIn l 0 a = z := ⟨_, rfl⟩
  rw [hz0]
  have HZ := Lib.hid hz0
  clear hz0
  have d1 : decide ((65536 : Int) ≤ (a : Int)) = false := decide_eq_false (by omega)
  have d2 : decide ((49152 : Int) ≤ (a : Int)) = false := decide_eq_false (by omega)
  go_enter Try.func18, Try.ntmps18
  go_wp2_with fail
  go_loopw [7] (fun i wr => ∃ (ds rs : List Rg), i = .int .i64 ds.length ∧ Hid (l = ds ++ rs) ∧ ds.length + rs.length = l.length ∧ Hid (placeIn l 0 a = placeIn rs ds.length a) ∧ Hid (Below w.heap.size w wr))
    (fun i _ => l.length - (intOf i).toNat)
  case atStart => exact ⟨[], l, rfl, Lib.hid rfl, by simp, Lib.hid rfl, Lib.hid (Below.refl _ _)⟩
  case round =>
    obtain ⟨ds, rs, rfl, hE, hk, hI, hB⟩ := hrel
    have hP := (hB.out.cell (p := ⟨g, 0, none⟩) h7).trans HQ.out
    cases rs with
    | nil =>
      simp only [List.length_nil] at hk
      have hge : ¬ ds.length < l.length := by omega
      go_wp2_with fail
      go_ret2
      have h0 := HZ.out
      rw [hI.out] at h0
      subst h0
      exact ⟨rfl, hB.out⟩
    | cons r rs =>
      simp only [List.length_cons] at hk
      obtain ⟨b, o, rfl, hb, hA⟩ : ∃ b o, p = some ⟨b, o, none⟩ ∧ b < g ∧ RgAt w l b o := by
        rcases HS.out.2 with h0 | h0
        · omega
        · exact h0
      rw [hE.out] at hA
      obtain ⟨⟨f0, f1, f2, f3⟩, _⟩ := RgAt.drop ds (r :: rs) b o hA
      have g1 := (hB.out.cell (show b < w.heap.size by omega)).trans f1
      have g2 := (hB.out.cell (show b < w.heap.size by omega)).trans f2
      have hlt : ds.length < l.length := by omega
      have hro : r.ok = true := List.all_eq_true.1 HO.out r (by rw [hE.out]; simp)
      obtain ⟨_, r0, r8, rb⟩ := Rg.ok_iff.1 hro
      obtain ⟨_, _, rz1, rz2⟩ := (Rg.ok_iff.1 hro).1
      clear hA f0 f1 f2 f3 hro r8
      have e1 := wrap8 r.size rz1 rz2
      have e2 := wrapA8 r.addr r.size r0 (by omega) rz1 rz2
      by_cases hin : r.addr ≤ (a : Int) ∧ (a : Int) < r.addr + r.size * 8
      · have d3 : decide (r.addr ≤ (a : Int)) = true := decide_eq_true hin.1
        have d4 : decide ((a : Int) < r.addr + 8 * r.size) = true := decide_eq_true (by omega)
        have e3 : IntKind.i64.wrap ((a : Int) - r.addr) = (a : Int) - r.addr := IntWalk.i64_in _ (by omega)
        have HE := Lib.hid (in_yes HZ.out hI.out hin.1 hin.2)
        clear hin
        go_wp2_with fail
        go_quiet (fail)
        all_goals go_wp2_with fail
        all_goals go_quiet (fail)
        all_goals go_wp2_with fail
        all_goals go_ret2
        all_goals
          have h0 := HE.out
          subst h0
          exact ⟨rfl, below_drewN (below_drewN hB.out _) _⟩
      · have HN := Lib.hid (in_no hI.out hin)
        cases h1 : decide (r.addr ≤ (a : Int)) with
        | false =>
          clear hin
          go_wp2_with fail
          go_quiet (fail)
          all_goals go_wp2_with fail
          all_goals go_roundw
          case rel => exact ⟨ds ++ [r], rs, by rw [List.length_append]; go_num, Lib.hid (by rw [hE.out]; simp), by simp; omega, HN, Lib.hid (below_drewN hB.out _)⟩
          case measure => simp [intOf]; omega
        | true =>
          have d4 : decide ((a : Int) < r.addr + 8 * r.size) = false := decide_eq_false (by have := of_decide_eq_true h1; omega)
          clear hin
          go_wp2_with fail
          go_quiet (fail)
          all_goals go_wp2_with fail
          all_goals go_roundw
          case rel => exact ⟨ds ++ [r], rs, by rw [List.length_append]; go_num, Lib.hid (by rw [hE.out]; simp), by simp; omega, HN, Lib.hid (below_drewN hB.out _)⟩
          case measure => simp [intOf]; omega
end Go.Proofs.Ytajjpaabkdgjbaa
