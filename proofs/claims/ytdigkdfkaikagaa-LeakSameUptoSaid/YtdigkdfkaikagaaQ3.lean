/- The program's Line. -/
import Derived.Test.YtdigkdfkaikagaaQ2
namespace Go.Proofs.Ytdigkdfkaikagaa
open Go.RowKit

theorem info_u64 : (Try.prog.info? 26).map (fun i => (i.zero, i.size, i.bytes)) = some (some (.int .u64 0), 1, 8) := by kernel_rfl
theorem info_leak : (Try.prog.info? 44).map (fun i => (i.zero, i.size, i.bytes)) = some (some (.agg #[.int .i64 0, .slice none 0 0, .bool false, .slice none 0 0]), 4, 64) := by kernel_rfl
theorem oneInts : ∀ xs : List Int, ∀ u ∈ intCells xs, u.oneCell' = true := by
  intro xs u hu
  obtain ⟨x, _, rfl⟩ := List.mem_map.1 hu
  rfl
theorem Src.ints {w : World} {N : Nat} {xs : List Int} {p : Option Addr} {c : Nat} (h : Sl N p xs.length (Ints w xs)) (hp : p = none → c = 0) : Src w 1 p xs.length c (intCells xs) := by
  refine ⟨by simp [intCells], ?_⟩
  cases p with
  | none =>
    rcases h.2 with h0 | ⟨b, o, hq, _⟩
    · exact .inl ⟨rfl, h0, hp rfl⟩
    · cases hq
  | some ad =>
    refine .inr ⟨ad, rfl, fun j u hu => ?_⟩
    rcases h.2 with h0 | ⟨b, o, hq, hb, ha⟩
    · have : xs = [] := List.eq_nil_of_length_eq_zero h0
      subst this; simp [intCells] at hu
    · cases hq
      rw [add_of]
      exact Ints.list xs b o ha j u hu
theorem Ints.keep {w w' : World} {b : Nat} (hw : ∀ o, w'.cell? ⟨b, o, none⟩ = w.cell? ⟨b, o, none⟩) : ∀ (xs : List Int) (o : Nat), Ints w xs b o → Ints w' xs b o
  | [], _, _ => trivial
  | _ :: xs, o, h => ⟨(hw _).trans h.1, Ints.keep hw xs (o + 1) h.2⟩
theorem own_ints {w : World} {base : Nat} {v : Value} {xs : List Int} (h : w.ownsRow base 26 1 v xs.length (intCells xs)) (hx : xs.length ≤ 1000000) :
    ∃ q d, v = .slice q xs.length d ∧ Sl w.heap.size q xs.length (Ints w xs) ∧ ∀ b o, q = some ⟨b, o, none⟩ → base ≤ b := by
  rcases h.2 with ⟨rfl, h0⟩ | ⟨g, cap, cur, rfl, _⟩
  · rw [h0]; exact ⟨none, 0, rfl, ⟨by omega, .inl rfl⟩, fun _ _ h => by cases h⟩
  · refine ⟨_, cap, rfl, ⟨by omega, .inr ⟨g, 0, rfl, (h.lt g rfl).2, Ints.of xs g 0 fun j u hu => ?_⟩⟩, fun b o hb => by cases hb; exact (h.lt g rfl).1⟩
    have := h.cells (g := g) rfl j u hu
    rw [add_of] at this; exact this

set_option maxHeartbeats 1600000 in
theorem copyItems_any (xs : List Int) (p : Option Addr) (c N : Nat) (w : World) (h : Sl N p xs.length (Ints w xs)) (hp : p = none → c = 0) (hx : xs.length ≤ 1000000) :
    Calls Try.prog 45 #[.slice p xs.length c] w fun e w' => ∃ q d, e = .returned (.slice q xs.length d) ∧ Below w.heap.size w w' ∧ Sl w'.heap.size q xs.length (Ints w' xs) ∧ ∀ b o, q = some ⟨b, o, none⟩ → w.heap.size ≤ b := by
  have HS := Lib.hid (Src.ints h hp)
  have HO := Lib.hid (fun (v : Value) (w' : World) (h : w'.ownsRow w.heap.size 26 1 v xs.length (intCells xs)) => own_ints h hx)
  have HL := Lib.hid (show 0 + xs.length ≤ maxLen ∧ (0 + xs.length) * 8 ≤ 140737488355328 by unfold maxLen; omega)
  obtain ⟨i0, hi, hz0, hz1, hz2⟩ := info_parts info_u64
  have HI := Lib.hid (And.intro hi (And.intro hz0 (And.intro hz1 hz2)))
  have HB0 := Lib.hid (fun (w' : World) (hg : w.grownBy w' (Value.ownBlock (.slice none 0 0))) => (Below.refl _ w).grown hg (Nat.le_refl _) (by simp [Value.ownBlock]))
  clear h hp hi hz0 hz1 hz2
  go_enter Try.func45, Try.ntmps45
  go_wp2_with (at_builtin; refine wpList_append_src rfl _ _ 40 rfl w.heap.size 26 i0 (.int .u64 0) 1 8 Try.underlying40 HI.out.1 HI.out.2.1 HI.out.2.2.1 HI.out.2.2.2 rfl (by decide) _ 0 [] rfl (World.ownsRow_nil _ _ _ _) p xs.length c (intCells xs) rfl HS.out (oneInts xs) HL.out.1 HL.out.2 (Nat.le_refl _) ?_; intro v' w1 hown hg)
  rw [Nat.zero_add, List.nil_append] at hown
  obtain ⟨q, d, rfl, hs⟩ := HO.out _ _ hown
  have HR := Lib.hid (HB0.out _ hg)
  clear hown hg
  have HS2 := Lib.hid hs
  clear hs
  go_wp2_with fail
  go_ret
  exact ⟨q, d, rfl, HR.out, HS2.out⟩

set_option maxHeartbeats 1600000 in
theorem lineP_any (xs : List Int) (p : Option Addr) (c N : Nat) (w : World) (h : Sl N p xs.length (Ints w xs)) (hN : N ≤ w.heap.size) (hp : p = none → c = 0) (hx : xs.length ≤ 1000000) :
    Calls Try.prog 18 #[.slice p xs.length c] w fun e w' => ∃ q d, e = .returned (.agg #[.int .i64 1, .slice q xs.length d, .bool false, .slice none 0 0]) ∧ Below w.heap.size w w' ∧ Sl w'.heap.size q xs.length (Ints w' xs) := by
  have HA := Lib.hid ((Below.refl _ w).alloc (Nat.le_refl _) (Obj.cells #[.int .i64 0, .slice none 0 0, .bool false, .slice none 0 0] 44))
  have HC := Lib.hid (copyItems_any xs p c N (w.alloc (Obj.cells #[.int .i64 0, .slice none 0 0, .bool false, .slice none 0 0] 44)) (h.imp (Nat.le_refl _) fun b o hb ha => Ints.later (HA.out.mono hN) xs b o hb ha) hp hx)
  have HK := Lib.hid (show ∀ w1, Below (w.alloc (Obj.cells #[.int .i64 0, .slice none 0 0, .bool false, .slice none 0 0] 44)).heap.size (w.alloc (Obj.cells #[.int .i64 0, .slice none 0 0, .bool false, .slice none 0 0] 44)) w1 →
      (w1.cell? ⟨w.heap.size, 0, none⟩ = some (.int .i64 0) ∧ w1.cell? ⟨w.heap.size, 1, none⟩ = some (.slice none 0 0) ∧ w1.cell? ⟨w.heap.size, 2, none⟩ = some (.bool false) ∧ w1.cell? ⟨w.heap.size, 3, none⟩ = some (.slice none 0 0)) ∧ ∀ j, w1.frozen? ⟨w.heap.size, j, none⟩ = false from
    fun w1 hb => ⟨⟨(hb.cell (by simp)).trans (by simp [go_sem]), (hb.cell (by simp)).trans (by simp [go_sem]), (hb.cell (by simp)).trans (by simp [go_sem]), (hb.cell (by simp)).trans (by simp [go_sem])⟩, fun j => (hb.frozen (by simp)).trans (by simp [go_sem])⟩)
  clear h hp
  go_enter Try.func18, Try.ntmps18
  go_wp2_with (go_at_call 45; refine HC.out.mono ?_; rintro e w1 ⟨q, d, rfl, hB1, hs, hq⟩; obtain ⟨⟨c0, c1, c2, c3⟩, fz⟩ := HK.out _ hB1; have z0 := fz 0; have z1 := fz 1; have z2 := fz 2; have z3 := fz 3; clear fz; have HS2 := Lib.hid (And.intro hs hq); clear hs hq)
  have HB1 := Lib.hid (HA.out.trans (hB1.mono (by simp)))
  have k0 := World.cell?_setCell_same w1 ⟨w.heap.size, 0, none⟩ (.int .i64 1) c0
  have k1 := World.cell?_setCell_same (w1.setCell ⟨w.heap.size, 0, none⟩ (.int .i64 1)) ⟨w.heap.size, 1, none⟩ (.slice q xs.length d) ((World.cell?_setCell_other _ _ _ _ (by simp)).trans c1)
  have k2 := World.cell?_setCell_same ((w1.setCell ⟨w.heap.size, 0, none⟩ (.int .i64 1)).setCell ⟨w.heap.size, 1, none⟩ (.slice q xs.length d)) ⟨w.heap.size, 2, none⟩ (.bool false) ((World.cell?_setCell_other _ _ _ _ (by simp)).trans ((World.cell?_setCell_other _ _ _ _ (by simp)).trans c2))
  have k3 := World.cell?_setCell_same (((w1.setCell ⟨w.heap.size, 0, none⟩ (.int .i64 1)).setCell ⟨w.heap.size, 1, none⟩ (.slice q xs.length d)).setCell ⟨w.heap.size, 2, none⟩ (.bool false)) ⟨w.heap.size, 3, none⟩ (.slice none 0 0) ((World.cell?_setCell_other _ _ _ _ (by simp)).trans ((World.cell?_setCell_other _ _ _ _ (by simp)).trans ((World.cell?_setCell_other _ _ _ _ (by simp)).trans c3)))
  have HB5 := Lib.hid ((((HB1.out.setCell (p := ⟨w.heap.size, 0, none⟩) (Nat.le_refl _) (.int .i64 1)).setCell (p := ⟨w.heap.size, 1, none⟩) (Nat.le_refl _) (.slice q xs.length d)).setCell (p := ⟨w.heap.size, 2, none⟩) (Nat.le_refl _) (.bool false)).setCell (p := ⟨w.heap.size, 3, none⟩) (Nat.le_refl _) (.slice none 0 0))
  refine bodyPost_ret (v := .agg #[.int .i64 1, .slice q xs.length d, .bool false, .slice none 0 0]) (by simp [results, Try.results18, go_sem, k0, k1, k2, k3]) rfl ⟨q, d, rfl, HB5.out, ?_⟩
  obtain ⟨hs, hq⟩ := HS2.out
  rcases hs with ⟨hm, h0 | ⟨b, o, rfl, hb, ha⟩⟩
  · exact ⟨hm, .inl h0⟩
  · have hge := hq b o rfl
    have hne : w.heap.size < b := by simp at hge; omega
    refine ⟨hm, .inr ⟨b, o, rfl, by simpa using hb, Ints.keep (fun o => ?_) xs o ha⟩⟩
    rw [World.cell?_setCell_other _ _ _ _ (by simp), World.cell?_setCell_other _ _ _ _ (by simp), World.cell?_setCell_other _ _ _ _ (by simp), World.cell?_setCell_other _ _ _ _ (by simp)]
end Go.Proofs.Ytdigkdfkaikagaa
