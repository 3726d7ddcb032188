/- Which regions may be: the program's bytesOf and mayBe, the document's Long. -/
import Derived.Test.YtajjpaabkdgjbaaB1
import Derived.Deep.RegionHeld3
import Derived.Outline
import Derived.IntWalk
import Derived.Deep.QuietTactic
import Derived.BigQuiet
namespace Go.Proofs.Ytajjpaabkdgjbaa
open Go.RowKit

set_option maxHeartbeats 400000 in
theorem bytesOf_any (r : Rg) (w : World) (h1 : -1000000000000 ≤ r.size) (h2 : r.size ≤ 1000000000000) :
    Calls Try.prog 62 #[r.val] w fun e w' => e = .returned (.int .i64 (r.size * 8)) ∧ Below w.heap.size w w' := by
  go_enter Try.func62, Try.ntmps62
  go_wp2_with fail
  go_ret
  exact ⟨rfl, (Below.refl _ _).alloc (Nat.le_refl _) _⟩

set_option maxHeartbeats 1600000 in
theorem mayBe_n (r : Rg) (w : World) (h : r.okN = false) :
    Calls Try.prog 50 #[r.val] w fun e w' => e = .returned (.bool false) ∧ Below w.heap.size w w' := by
  have H : ¬ (1 ≤ r.name.size) ∨ (1 ≤ r.name.size ∧ ¬ r.name.size ≤ 16) ∨ (1 ≤ r.name.size ∧ r.name.size ≤ 16 ∧ ¬ 1 ≤ r.size) ∨ (1 ≤ r.name.size ∧ r.name.size ≤ 16 ∧ 1 ≤ r.size ∧ ¬ r.size ≤ 512) := by
    simp [Rg.okN] at h; omega
  clear h
  rcases H with h | ⟨h1, h⟩ | ⟨h1, h2, h⟩ | ⟨h1, h2, h3, h⟩
  all_goals
    go_enter Try.func50, Try.ntmps50
    go_wp2_with fail
    all_goals go_ret
    all_goals exact ⟨rfl, (Below.refl _ _).alloc (Nat.le_refl _) _⟩

theorem wrapB (z : Int) (h1 : 1 ≤ z) (h2 : z ≤ 512) : IntKind.i64.wrap (49152 - z * 8) = 49152 - z * 8 := IntWalk.i64_in _ (by omega)
set_option maxHeartbeats 1600000 in
theorem mayBe_0 (r : Rg) (w : World) (h : r.okN = true) (h5 : ¬ 0 ≤ r.addr) :
    Calls Try.prog 50 #[r.val] w fun e w' => e = .returned (.bool false) ∧ Below w.heap.size w w' := by
  simp [Rg.okN] at h
  obtain ⟨⟨⟨h1, h2⟩, h3⟩, h4⟩ := h
  have d1 : decide (0 ≤ r.addr) = false := by simpa using h5
  go_enter Try.func50, Try.ntmps50
  go_wp2_with fail
  go_quiet (fail)
  all_goals go_wp2_with fail
  all_goals go_ret
  all_goals exact ⟨rfl, below_drewN ((Below.refl _ _).alloc (Nat.le_refl _) _) _⟩
set_option maxHeartbeats 1600000 in
theorem mayBe_8 (r : Rg) (w : World) (h : r.okN = true) (h5 : 0 ≤ r.addr) (h6 : r.addr % 8 ≠ 0) :
    Calls Try.prog 50 #[r.val] w fun e w' => e = .returned (.bool false) ∧ Below w.heap.size w w' := by
  simp [Rg.okN] at h
  obtain ⟨⟨⟨h1, h2⟩, h3⟩, h4⟩ := h
  have d1 : decide (0 ≤ r.addr) = true := by simpa using h5
  have d2 : (r.addr.tmod 8 == 0) = false := by rw [Int.tmod_eq_emod_of_nonneg h5]; simpa using h6
  clear h6
  go_enter Try.func50, Try.ntmps50
  go_wp2_with fail
  go_quiet (fail)
  all_goals go_wp2_with fail
  all_goals go_ret
  all_goals exact ⟨rfl, below_drewN ((Below.refl _ _).alloc (Nat.le_refl _) _) _⟩
set_option maxHeartbeats 1600000 in
theorem mayBe_b (r : Rg) (w : World) (h : r.okN = true) (h5 : 0 ≤ r.addr) (h6 : r.addr % 8 = 0) (B : Bool) (d3 : decide (r.addr ≤ 49152 - r.size * 8) = B) :
    Calls Try.prog 50 #[r.val] w fun e w' => e = .returned (.bool B) ∧ Below w.heap.size w w' := by
  simp [Rg.okN] at h
  obtain ⟨⟨⟨h1, h2⟩, h3⟩, h4⟩ := h
  have d1 : decide (0 ≤ r.addr) = true := by simpa using h5
  have d2 : (r.addr.tmod 8 == 0) = true := by rw [Int.tmod_eq_emod_of_nonneg h5]; simpa using h6
  have d4 := wrapB r.size h3 h4
  clear h6
  go_enter Try.func50, Try.ntmps50
  go_wp2_with fail
  go_region_held3 (fun w' => w'.cell? ⟨w.heap.size, 0, none⟩ = some (.string r.name) ∧ w'.cell? ⟨w.heap.size, 1, none⟩ = some (.int .i64 r.addr) ∧ w'.cell? ⟨w.heap.size, 2, none⟩ = some (.int .i64 r.size) ∧ w'.cell? ⟨w.heap.size, 3, none⟩ = some (.bool r.sec))
    (first | go_keep | (go_split_ands; refine ⟨?_, ?_, ?_, ?_⟩ <;> (refine (hB.cell (by simp)).trans ?_; assumption)))
    (first | (go_at_call 62; refine (bytesOf_any r _ (by omega) (by omega)).mono ?_; rintro e w' ⟨rfl, hB⟩))
  have HB := Lib.hid hB
  clear hB
  go_wp2_with fail
  go_ret
  exact ⟨rfl, (((Below.refl _ _).alloc (Nat.le_refl _) _).drew.trans (HB.out.mono (by simp)))⟩
theorem mayBe_any (r : Rg) (w : World) : Calls Try.prog 50 #[r.val] w fun e w' => e = .returned (.bool r.ok) ∧ Below w.heap.size w w' := by
  cases h : r.okN with
  | false => rw [show r.ok = false by simp [Rg.ok, h]]; exact mayBe_n r w h
  | true =>
    by_cases h5 : 0 ≤ r.addr
    · by_cases h6 : r.addr % 8 = 0
      · exact mayBe_b r w h h5 h6 _ (by simp [Rg.ok, Rg.okA, h, h5, h6])
      · rw [show r.ok = false by simp [Rg.ok, Rg.okA, h6]]; exact mayBe_8 r w h h5 h6
    · rw [show r.ok = false by simp [Rg.ok, Rg.okA]; omega]; exact mayBe_0 r w h h5

theorem long_yes {l ds rs : List Rg} {r : Rg} (hE : l = ds ++ r :: rs) (h : ds.length < 41) (hr : 900 < r.name.size) : longB l = true := by
  subst hE
  have h1 : ds.length < (List.take 41 (ds ++ r :: rs)).length := by simp; omega
  have h2 : (List.take 41 (ds ++ r :: rs))[ds.length] = r := by simp
  have h3 : (List.take 41 (ds ++ r :: rs))[ds.length] ∈ List.take 41 (ds ++ r :: rs) := List.getElem_mem h1
  rw [h2] at h3
  rw [longB, Bool.or_eq_true]
  exact .inr (List.any_eq_true.2 ⟨r, h3, by simpa using hr⟩)
theorem long_end {l ds rs : List Rg} (hE : l = ds ++ rs) (h : ds.length ≤ 41) (hr : rs = [] ∨ ds.length = 41) (hN : ds.any (fun r => decide (900 < r.name.size)) = false) : longB l = decide (40 < l.length) := by
  have : l.take 41 = ds := by
    rcases hr with rfl | hr
    · rw [hE, List.append_nil]; exact List.take_of_length_le h
    · rw [hE, ← hr]; simp
  rw [longB, this, hN, Bool.or_false]
theorem At_take {_w : World} {_b o k n : Nat} (h : n = k * 4) : o + n = o + k * 4 := by rw [h]
set_option maxHeartbeats 1600000 in
theorem long_any (l : List Rg) (p : Option Addr) (c N : Nat) (w : World) (h : RgIn w N l p) :
    Calls Try.prog 6 #[.slice p l.length c] w fun e w' => e = .returned (.bool (longB l)) ∧ w = w' := by
  rcases h with ⟨hm, h0 | ⟨b, o, rfl, hb, ha⟩⟩
  · have : l = [] := List.eq_nil_of_length_eq_zero h0
    subst this
    go_enter Try.func6, Try.ntmps6
    go_wp2_with fail
    go_loopw [3] (fun i wr => i = .int .i64 0 ∧ wr = w) (fun i _ => 0)
    case atStart => exact ⟨rfl, rfl⟩
    case round =>
      obtain ⟨rfl, rfl⟩ := hrel
      go_wp2_with fail
      go_ret
      exact ⟨rfl, rfl⟩
  · have HA := Lib.hid ha
    clear ha
    go_enter Try.func6, Try.ntmps6
    go_wp2_with fail
    go_loopw [3] (fun i wr => ∃ (ds rs : List Rg), i = .int .i64 ds.length ∧ Hid (l = ds ++ rs) ∧ ds.length + rs.length = l.length ∧ ds.length ≤ 41 ∧ Hid (ds.any (fun r => decide (900 < r.name.size)) = false) ∧ wr = w)
      (fun i _ => l.length - (intOf i).toNat)
    case atStart => exact ⟨[], l, rfl, Lib.hid rfl, by simp, by simp, Lib.hid rfl, rfl⟩
    case round =>
      obtain ⟨ds, rs, rfl, hE, hk, h41, hN, rfl⟩ := hrel
      by_cases hlt : ds.length < 41
      · cases rs with
        | nil =>
          simp only [List.length_nil] at hk
          have hge : ¬ ds.length < l.length := by omega
          go_wp2_with fail
          go_ret
          refine ⟨ret_bool ?_, rfl⟩
          rw [long_end hE.out h41 (.inl rfl) hN.out]; apply bool_of; simp; omega
        | cons r rs =>
          simp only [List.length_cons] at hk
          have hA := RgAt.drop ds (r :: rs) b o (by rw [← hE.out]; exact HA.out)
          obtain ⟨⟨g0, _⟩, _⟩ := hA
          have hlt2 : ds.length < l.length := by omega
          by_cases hz : 900 < r.name.size
          · go_wp2_with fail
            go_ret
            refine ⟨ret_bool ?_, rfl⟩
            rw [long_yes hE.out hlt hz]
          · go_wp2_with fail
            go_roundw
            case rel => exact ⟨ds ++ [r], rs, by rw [List.length_append]; go_num, Lib.hid (by rw [hE.out]; simp), by simp; omega, by simp; omega, Lib.hid (by rw [List.any_append, hN.out]; simp; omega), trivial⟩
            case measure => simp [intOf]; omega
      · go_wp2_with fail
        all_goals go_ret
        all_goals refine ⟨ret_bool ?_, rfl⟩
        all_goals rw [long_end hE.out h41 (.inr (by omega)) hN.out]
        all_goals (apply bool_of; simp; try omega)
end Go.Proofs.Ytajjpaabkdgjbaa
