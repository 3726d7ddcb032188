/- May and New. -/
import Derived.Test.YtajjpaabkdgjbaaB3
import Derived.Test.YtajjpaabkdgjbaaB5
namespace Go.Proofs.Ytajjpaabkdgjbaa
open Go.RowKit

set_option maxHeartbeats 1600000 in
theorem may_any (l : List Rg) (p : Option Addr) (c N : Nat) (w : World) (h : RgIn w N l p) (hN : N ≤ w.heap.size) (hc : l.length ≤ c) (hcm : c ≤ 9223372036854775807) :
    Calls Try.prog 31 #[.slice p l.length c] w fun e w' => e = .returned (.bool (mayB l)) ∧ Below w.heap.size w w' := by
  have HS := Lib.hid h
  have hm := h.1
  clear h
  by_cases h16 : l.length ≤ 16
  · go_enter Try.func31, Try.ntmps31
    go_wp2_with fail
    go_loopw [10] (fun i wr => ∃ (ds rs : List Rg), i = .int .i64 ds.length ∧ Hid (l = ds ++ rs) ∧ ds.length + rs.length = l.length ∧ Hid (ds.all Rg.ok = true) ∧ Hid (Below w.heap.size w wr))
      (fun i _ => l.length - (intOf i).toNat)
    case atStart => exact ⟨[], l, rfl, Lib.hid rfl, by simp, Lib.hid rfl, Lib.hid (Below.refl _ _)⟩
    case round =>
      obtain ⟨ds, rs, rfl, hE, hk, hO, hB⟩ := hrel
      cases rs with
      | nil =>
        simp only [List.length_nil] at hk
        have hge : ¬ ds.length < l.length := by omega
        have hl : Hid (l = ds) := by have h0 := hE.out; rw [List.append_nil] at h0; exact h0
        have hwz : w.heap.size ≤ wr.heap.size := hB.out.size
        have HA := Lib.hid (anyMeet_any l p c w.heap.size wr (HS.out.later (hB.out.mono hN) hN) hwz hc hcm (by rw [hl.out]; exact hO.out))
        go_wp2_with (go_at_call 51; refine HA.out.mono ?_; rintro e w' ⟨rfl, hB2⟩)
        have HB2 := Lib.hid (hB.out.trans (hB2.mono hwz))
        clear hB2
        go_ret
        exact ⟨ret_bool (by rw [mayB, hl.out, hO.out, ← hl.out]; simp; omega), HB2.out⟩
      | cons r rs =>
        simp only [List.length_cons] at hk
        obtain ⟨b, o, rfl, hb, hA⟩ : ∃ b o, p = some ⟨b, o, none⟩ ∧ b < N ∧ RgAt w l b o := by
          rcases HS.out.2 with h0 | h0
          · omega
          · exact h0
        rw [hE.out] at hA
        obtain ⟨⟨f0, f1, f2, f3⟩, _⟩ := RgAt.drop ds (r :: rs) b o hA
        have g0 := (hB.out.cell (show b < w.heap.size by omega)).trans f0
        have g1 := (hB.out.cell (show b < w.heap.size by omega)).trans f1
        have g2 := (hB.out.cell (show b < w.heap.size by omega)).trans f2
        have g3 := (hB.out.cell (show b < w.heap.size by omega)).trans f3
        clear hA f0 f1 f2 f3
        have hlt : ds.length < l.length := by omega
        have hwz : w.heap.size ≤ wr.heap.size := hB.out.size
        cases hr : r.ok with
        | false =>
          go_wp2_with (go_at_call 50; refine (mayBe_any r _).mono ?_; rintro e w' ⟨rfl, hB2⟩)
          have HB2 := Lib.hid ((hB.out.alloc hwz _).trans (hB2.mono (by simp; omega)))
          clear hB2
          go_wp2_with fail
          go_ret
          exact ⟨ret_bool (by rw [mayB, hE.out]; simp [hr]), HB2.out⟩
        | true =>
          go_wp2_with (go_at_call 50; refine (mayBe_any r _).mono ?_; rintro e w' ⟨rfl, hB2⟩)
          have HB2 := Lib.hid ((hB.out.alloc hwz _).trans (hB2.mono (by simp; omega)))
          clear hB2
          go_wp2_with fail
          go_roundw
          case rel => exact ⟨ds ++ [r], rs, by rw [List.length_append]; go_num, Lib.hid (by rw [hE.out]; simp), by simp; omega, Lib.hid (by rw [List.all_append, hO.out]; simp [hr]), HB2⟩
          case measure => simp [intOf]; omega
  · go_enter Try.func31, Try.ntmps31
    go_wp2_with fail
    go_ret
    exact ⟨ret_bool (by simp [mayB, h16]), Below.refl _ _⟩

theorem MemIs.base {w : World} {B B' g : Nat} {l : List Rg} {f : Nat → Nat} (h : MemIs w B g l f) (hB : B' ≤ B) : MemIs w B' g l f := by
  obtain ⟨p, c, q, h1, h2, h3, h4, h5, h6, h7, h8, h9, h10, h11, h12, h13⟩ := h
  exact ⟨p, c, q, h1, h2, h3, h4, by omega, h6, h7, h8, h9, h10, fun b o hp => by have := h11 b o hp; omega, h12, h13⟩
/-- what New answers -/
def NewOf (w : World) (l : List Rg) (e : Ending) (w' : World) : Prop :=
  (mayB l = false → e = .returned (.tuple #[.pointer none, .int .i64 2])) ∧ (mayB l = true → ∃ g, e = .returned (.tuple #[.pointer (some ⟨g, 0, none⟩), .int .i64 0]) ∧ MemIs w' w.heap.size g l (fun _ => 0))
set_option maxHeartbeats 1600000 in
theorem new_any (l : List Rg) (p : Option Addr) (c N : Nat) (w : World) (h : RgIn w N l p) (hN : N ≤ w.heap.size) (hc : l.length ≤ c) (hcm : c ≤ 9223372036854775807) (hp : p = none → c = 0) :
    Calls Try.prog 26 #[.slice p l.length c] w fun e w' => NewOf w l e w' ∧ Below w.heap.size w w' := by
  have HM := Lib.hid (may_any l p c N w h hN hc hcm)
  have HP := Lib.hid hp
  have HS := Lib.hid h
  clear h hp
  cases hm : mayB l with
  | false =>
    go_enter Try.func26, Try.ntmps26
    go_wp2_with (go_at_call 31; refine HM.out.mono ?_; rintro e w' ⟨rfl, hB⟩)
    go_ret2
    exact ⟨⟨fun _ => rfl, fun h => by rw [hm] at h; cases h⟩, hB⟩
  | true =>
    have hl : l.length ≤ 1000000 := by simp [mayB] at hm; omega
    go_enter Try.func26, Try.ntmps26
    go_wp2_with (first | (go_at_call 31; refine HM.out.mono ?_; rintro e w' ⟨rfl, hB⟩; have HD := Lib.hid (made_all l p c w.heap.size w' (HS.out.later (hB.mono hN) hN) hB.size hl HP.out)) | (go_at_call 33; refine HD.out.mono ?_; rintro e w2 ⟨⟨g, rfl, hI⟩, hB2⟩))
    have HZ := Lib.hid (And.intro hI (And.intro hB hB2))
    clear hI hB hB2
    go_ret2
    obtain ⟨hI, hB, hB2⟩ := HZ.out
    exact ⟨⟨fun h => (by rw [hm] at h; cases h), fun _ => ⟨g, rfl, hI.base hB.size⟩⟩, hB.trans (hB2.mono hB.size)⟩
end Go.Proofs.Ytajjpaabkdgjbaa
