/- do: any step. -/
import Derived.Test.YtajjpaabkdgjbaaE3
import Derived.Test.YtajjpaabkdgjbaaDD
import Derived.Test.YtajjpaabkdgjbaaDE
import Derived.Test.YtajjpaabkdgjbaaDF
import Derived.Test.YtajjpaabkdgjbaaDG
import Derived.Test.YtajjpaabkdgjbaaDH
namespace Go.Proofs.Ytajjpaabkdgjbaa
open Go.RowKit

theorem MemIs.agr {w w' : World} {B g g1 : Nat} {l : List Rg} {f : Nat → Nat} (h : MemIs w B g l f) (hA : Agr g1 w w') (hd : g1 < B ∨ g < g1) : MemIs w' B g l f := by
  have hg := h.gt
  exact h.far (fun k h1 h2 => hA.block k (by omega) (by omega)) (Nat.lt_of_lt_of_le hg.2 hA.size)
theorem memB_self (l : List Rg) (f : Nat → Nat) : memB l l f f = true := by
  unfold memB wordsEq
  rw [← eqB_true rfl, @decide_eq_true (EqW f f) (Classical.propDecidable _) (fun j _ => rfl)]
  rfl
theorem errW_top (l : List Rg) : errW l 65528 = 0 := by
  have hp : (placeOf l 65528).1 = -1 := by unfold placeOf; rw [if_pos (by omega)]
  unfold errW errB
  rw [if_pos (by decide), if_neg (by rw [hp]; decide)]
set_option maxRecDepth 100000 in
set_option maxHeartbeats 1600000 in
theorem do_copy (l : List Rg) (f bt : Nat → Nat) (B1 g1 B2 g2 : Nat) (s : Stp) (w : World) (hm : MemIs w B1 g1 l f) (hr : RefIs w B2 g2 l bt) (hd : g1 < B2 ∨ g2 < B1) (hok : l.all Rg.ok = true) (hl : l.length ≤ 16) (h1 : s.kind = 3) :
    Calls Try.prog 37 #[.pointer (some ⟨g1, 0, none⟩), .pointer (some ⟨g2, 0, none⟩), .agg #[.int .i64 s.kind, .int .u64 (s.addr : Int), .int .u64 (s.x : Int)]] w
      fun e w' => (∃ B3 g3, e = .returned (.tuple #[.pointer (some ⟨g3, 0, none⟩), .bool true]) ∧ MemIs w' B3 g3 l f ∧ w.heap.size ≤ B3) ∧ RefIs w' B2 g2 l bt ∧ ∃ W1, Below w.heap.size w W1 ∧ Agr g1 W1 w' := by
  rw [h1]
  have hB0 := (Below.refl _ w).alloc (Nat.le_refl _) (.cells #[.int .i64 3, .int .u64 (s.addr : Int), .int .u64 (s.x : Int)] 78 (0, 0))
  have HB0 := Lib.hid hB0
  have HC := Lib.hid (copy_any l f B1 g1 _ (hm.later hB0) hl)
  have hg1 := hm.gt
  have HM := Lib.hid hm
  have HR := Lib.hid hr
  have hsz : w.heap.size < (w.alloc (.cells #[.int .i64 3, .int .u64 (s.addr : Int), .int .u64 (s.x : Int)] 78 (0, 0))).heap.size := by simp
  have HSZ := Lib.hid hsz
  clear hm hr hB0 h1 hsz
  go_enter Try.func37, Try.ntmps37
  go_wp2_with fail
  refine HC.out.mono ?_
  rintro e w1 ⟨⟨g3, rfl, hI⟩, hB⟩
  generalize (w.alloc (.cells #[.int .i64 3, .int .u64 (s.addr : Int), .int .u64 (s.x : Int)] 78 (0, 0))).heap.size = B3 at HSZ hI
  have HB1 := Lib.hid (HB0.out.trans (hB.mono HB0.out.size))
  have HI := Lib.hid hI
  have HS := Lib.hid (by have := memSame_any l l f f B3 g3 B1 g1 w1 hI (HM.out.later HB1.out); rw [memB_self] at this; exact this)
  clear hB hI HC
  go_wp2_with fail
  refine HS.out.mono ?_
  rintro e w2 ⟨rfl, hB⟩
  have HB2 := Lib.hid (HB1.out.trans (hB.mono HB1.out.size))
  have HI2 := Lib.hid (HI.out.later hB)
  have HT := Lib.hid (store_yes l f B1 g1 65528 77 w2 (HM.out.later HB2.out) hok (by omega) (errW_top l) (by omega))
  clear hB HS HI
  go_wp2_with fail
  refine HT.out.mono ?_
  rintro e w3 ⟨rfl, _, hA⟩
  have hB3 := HSZ.out
  have HI3 := Lib.hid (HI2.out.agr hA (.inl (by omega)))
  have HR3 := Lib.hid ((HR.out.later HB2.out).agr hA (by have := HR.out.ptr; obtain ⟨_, _, h1, h2, _⟩ := this; omega))
  have HA := Lib.hid hA
  clear hA HT hB3
  go_wp2_with fail
  go_ret2
  exact ⟨⟨B3, g3, rfl, HI3.out, Nat.le_of_lt HSZ.out⟩, HR3.out, w2, HB2.out, HA.out⟩

/-- what any step leaves -/
def DoPost (l : List Rg) (B1 B2 g2 : Nat) (w : World) (e : Ending) (w' : World) : Prop :=
  ∃ (B3 g3 : Nat) (f bt : Nat → Nat), e = .returned (.tuple #[.pointer (some ⟨g3, 0, none⟩), .bool true]) ∧ MemIs w' B3 g3 l f ∧ RefIs w' B2 g2 l bt ∧ RelWB f bt ∧ (g3 < B2 ∨ g2 < B3) ∧ (B3 = B1 ∨ w.heap.size ≤ B3) ∧
    ∀ (N : Nat) (w0 : World), N ≤ B1 → N ≤ B2 → N ≤ w.heap.size → Below N w0 w → Below N w0 w'
theorem do_any (l : List Rg) (f bt : Nat → Nat) (B1 g1 B2 g2 : Nat) (s : Stp) (w : World) (hm : MemIs w B1 g1 l f) (hr : RefIs w B2 g2 l bt) (hrel : RelWB f bt) (hd : g1 < B2 ∨ g2 < B1) (hok : l.all Rg.ok = true) (hl : l.length ≤ 16) (ha : s.addr < 18446744073709551616) (hx : s.x < 18446744073709551616) :
    Calls Try.prog 37 #[.pointer (some ⟨g1, 0, none⟩), .pointer (some ⟨g2, 0, none⟩), .agg #[.int .i64 s.kind, .int .u64 (s.addr : Int), .int .u64 (s.x : Int)]] w (DoPost l B1 B2 g2 w) := by
  have hg1 := hm.gt
  obtain ⟨q2, _, hq1, hq2, hq3⟩ := hr.ptr
  have keep : ∀ w', Below w.heap.size w w' → ∀ (N : Nat) (w0 : World), N ≤ B1 → N ≤ B2 → N ≤ w.heap.size → Below N w0 w → Below N w0 w' := fun w' hB N w0 _ _ hN h0 => h0.trans (hB.mono hN)
  have keep2 : ∀ w', (∃ W1 W2, Below w.heap.size w W1 ∧ Agr g1 W1 W2 ∧ AgX B2 g2 W2 w') → ∀ (N : Nat) (w0 : World), N ≤ B1 → N ≤ B2 → N ≤ w.heap.size → Below N w0 w → Below N w0 w' := fun w' ⟨W1, W2, hB, hA, hX⟩ N w0 h1 h2 hN h0 =>
    AgX.below (Agr.below (h0.trans (hB.mono hN)) hA (by omega) (Nat.le_trans hN hB.size)) hX h2 (Nat.le_trans hN (Nat.le_trans hB.size hA.size))
  by_cases k1 : s.kind = 1
  · by_cases h0 : errW l s.addr = 0
    · refine (do_store_yes l f bt B1 g1 B2 g2 s w hm hr hd hok k1 hx h0).mono ?_
      rintro e w' ⟨rfl, hI, hR, hK⟩
      have h8 : s.addr = 8 * (s.addr / 8) := by have := (errW_0 h0).1; omega
      refine ⟨B1, g1, _, _, rfl, hI, hR, ?_, hd, .inl rfl, keep2 w' hK⟩
      have := RelWB.put hrel (s.addr / 8) s.x
      rw [← h8] at this
      exact this
    · refine (do_store_no l f bt B1 g1 B2 g2 s w hm hr hok k1 ha h0).mono ?_
      rintro e w' ⟨rfl, hI, hR, hB⟩
      exact ⟨B1, g1, _, _, rfl, hI, hR, hrel, hd, .inl rfl, keep w' hB⟩
  · by_cases k2 : s.kind = 2
    · by_cases h0 : errB l s.addr = 0
      · refine (do_byte_yes l f bt B1 g1 B2 g2 s w hm hr hd hok k2 h0).mono ?_
        rintro e w' ⟨rfl, hI, hR, hK⟩
        exact ⟨B1, g1, _, _, rfl, hI, hR, RelWB.byte hrel s.addr (s.x % 256) (Nat.mod_lt _ (by omega)), hd, .inl rfl, keep2 w' hK⟩
      · refine (do_byte_no l f bt B1 g1 B2 g2 s w hm hr hok k2 ha h0).mono ?_
        rintro e w' ⟨rfl, hI, hR, hB⟩
        exact ⟨B1, g1, _, _, rfl, hI, hR, hrel, hd, .inl rfl, keep w' hB⟩
    · by_cases k3 : s.kind = 3
      · refine (do_copy l f bt B1 g1 B2 g2 s w hm hr hd hok hl k3).mono ?_
        rintro e w' ⟨⟨B3, g3, rfl, hI, h3⟩, hR, W1, hB, hA⟩
        exact ⟨B3, g3, _, _, rfl, hI, hR, hrel, .inr (by omega), .inr h3, keep2 w' ⟨W1, w', hB, hA, AgX.refl _ _ _⟩⟩
      · refine (do_other _ _ s w k1 k2 k3).mono ?_
        rintro e w' ⟨rfl, hB⟩
        exact ⟨B1, g1, _, _, rfl, hm.later hB, hr.later hB, hrel, hd, .inl rfl, keep w' hB⟩
end Go.Proofs.Ytajjpaabkdgjbaa
