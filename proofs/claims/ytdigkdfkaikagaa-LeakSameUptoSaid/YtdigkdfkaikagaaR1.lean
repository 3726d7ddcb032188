/- Rewriting: small functions. -/
import Derived.Test.YtdigkdfkaikagaaT3
import Derived.Test.YtdigkdfkaikagaaT8
import Derived.Test.YtdigkdfkaikagaaL6
namespace Go.Proofs.Ytdigkdfkaikagaa
open Go.RowKit

set_option maxHeartbeats 1600000 in
theorem must_true (w : World) : Calls Try.prog 74 #[.bool true] w fun e w' => e = .returned (.tuple #[]) ∧ w = w' := by
  go_enter Try.func74, Try.ntmps74
  go_wp2_with fail
  go_end0
  exact ⟨rfl, rfl⟩
set_option maxHeartbeats 1600000 in
theorem must_false (w : World) : Calls Try.prog 74 #[.bool false] w fun e w' => e = panicked 2 ∧ w = w' := by
  go_enter Try.func74, Try.ntmps74
  go_wp2_with fail
  exact ⟨rfl, rfl, rfl⟩
set_option maxHeartbeats 1600000 in
theorem asMany_same (n : Nat) (br : Bool) (w : World) : Calls Try.prog 63 #[.int .i64 n, .int .i64 n, .bool br] w fun e w' => e = .returned (.tuple #[]) ∧ w = w' := by
  have HM := Lib.hid (must_true w)
  go_enter Try.func63, Try.ntmps63
  go_wp2_with (go_at_call 74; refine HM.out.mono ?_; rintro e w' ⟨rfl, rfl⟩)
  go_end0
  exact ⟨rfl, rfl⟩

def lenSum : List (List Pk) → Nat
  | [] => 0
  | l :: ls => l.length + lenSum ls
theorem linesW_eq : ∀ ls : List (List Pk), linesW ls = ls.length + lenSum ls
  | [] => rfl
  | l :: ls => by have := linesW_eq ls; simp only [linesW, lenSum, List.length_cons]; omega
structure LR (w w1 wr : World) (v : Value) (g : Int) (m : Nat) : Prop where
  bel : Below w.heap.size w wr
  bel1 : Below w1.heap.size w1 wr
  c0 : wr.cell? ⟨w1.heap.size, 0, none⟩ = some v
  c1 : wr.cell? ⟨w1.heap.size, 1, none⟩ = some (.int .i64 g)
  c2 : wr.cell? ⟨w1.heap.size, 2, none⟩ = some (.int .i64 m)
  z2 : wr.frozen? ⟨w1.heap.size, 2, none⟩ = false
theorem LR.set {w w1 wr : World} {v : Value} {g : Int} {m : Nat} (h : LR w w1 wr v g m) (hB : w.heap.size ≤ w1.heap.size) (n : Nat) (u : Value) (hu : u = .int .i64 n) : LR w w1 (wr.setCell ⟨w1.heap.size, 2, none⟩ u) v g n := by
  subst hu
  exact ⟨h.bel.setCell hB _, h.bel1.setCell (Nat.le_refl _) _, (World.cell?_setCell_other _ _ _ _ (by simp)).trans h.c0, (World.cell?_setCell_other _ _ _ _ (by simp)).trans h.c1, World.cell?_setCell_same _ _ _ h.c2, by simpa using h.z2⟩

set_option maxHeartbeats 1600000 in
theorem linesOf_any (ls : List (List Pk)) (p : Option Addr) (cap N : Nat) (w : World) (h : Sl N p ls.length (Plines w N ls)) (hN : N ≤ w.heap.size) (hw : linesW ls ≤ 1000000000) :
    Calls Try.prog 64 #[.slice p ls.length cap] w fun e w' => e = .returned (.agg #[.slice p ls.length cap, .int .i64 (greatestL ls), .int .i64 (linesW ls)]) ∧ Below w.heap.size w w' := by
  have S0 := Lib.hid h
  have hm := h.1
  have HG := Lib.hid (fun (w1 : World) (hB : Below w.heap.size w w1) => greatest_any ls p cap N w1 (h.imp (Nat.le_refl _) fun b' o' hb' ha' => Plines.later (hB.mono hN) (Nat.le_refl _) _ _ _ hb' ha') (Nat.le_trans hN hB.size))
  have HA := Lib.hid ((Below.refl _ w).alloc (Nat.le_refl _) (.cells #[.slice none 0 0, .int .i64 0, .int .i64 0] 90))
  have HC := Lib.hid (show ∀ w1, Below (w.alloc (.cells #[.slice none 0 0, .int .i64 0, .int .i64 0] 90)).heap.size (w.alloc (.cells #[.slice none 0 0, .int .i64 0, .int .i64 0] 90)) w1 →
      (w1.cell? ⟨w.heap.size, 0, none⟩ = some (.slice none 0 0) ∧ w1.cell? ⟨w.heap.size, 1, none⟩ = some (.int .i64 0) ∧ w1.cell? ⟨w.heap.size, 2, none⟩ = some (.int .i64 0)) ∧ ∀ j, w1.frozen? ⟨w.heap.size, j, none⟩ = false from
    fun w1 hb => ⟨⟨(hb.cell (by simp)).trans (by simp [go_sem]), (hb.cell (by simp)).trans (by simp [go_sem]), (hb.cell (by simp)).trans (by simp [go_sem])⟩, fun j => (hb.frozen (by simp)).trans (by simp [go_sem])⟩)
  clear h
  go_enter Try.func64, Try.ntmps64
  go_wp2_with (go_at_call 68; refine (HG.out _ HA.out).mono ?_; rintro e w1 ⟨rfl, hB1⟩; obtain ⟨⟨c0, c1, c2⟩, fz⟩ := HC.out _ hB1; have z0 := fz 0; have z1 := fz 1; have z2 := fz 2; clear fz)
  have HL := Lib.hid (show LR w w1 (w1.alloc (.cells #[.slice p ls.length cap, .int .i64 (greatestL ls), .int .i64 ls.length] 90)) (.slice p ls.length cap) (greatestL ls) ls.length from
    ⟨(HA.out.trans (hB1.mono (by simp))).alloc (by have := hB1.size; simp at this; omega) _, (Below.refl _ _).alloc (Nat.le_refl _) _, by simp [go_sem], by simp [go_sem], by simp [go_sem], by simp [go_sem]⟩)
  have hs1 : w.heap.size ≤ w1.heap.size := by have := hB1.size; simp at this; omega
  have HW := Lib.hid (linesW_eq ls)
  have HC1 := Lib.hid (fun (w2 : World) (hb : Below w1.heap.size w1 w2) => HC.out w2 (hB1.trans (hb.mono hB1.size)))
  clear hB1 c0 c1 c2 z0 z1 z2
  go_loopw [14] (fun i wr => ∃ (ds rs : List (List Pk)) (m : Nat), i = .int .i64 ds.length ∧ ds.length + rs.length = ls.length ∧ Hid (ls = ds ++ rs) ∧ m + lenSum rs = linesW ls ∧ Hid (LR w w1 wr (.slice p ls.length cap) (greatestL ls) m))
    (fun i _ => ls.length - (intOf i).toNat)
  case atStart => exact ⟨[], ls, ls.length, rfl, by simp, Lib.hid rfl, by have := HW.out; omega, HL⟩
  case round =>
    clear HL
    obtain ⟨ds, rs, m, rfl, hj, hE, hm2, hL⟩ := hrel
    obtain ⟨hbel, hbel1, c0, c1, c2, z2⟩ := hL.out
    have HBel := Lib.hid hbel
    have HBel1 := Lib.hid hbel1
    clear hbel hbel1
    cases rs with
    | nil =>
      simp only [List.length_nil] at hj
      simp only [lenSum] at hm2
      have hge : ¬ ds.length < ls.length := by omega
      have E9 := Lib.hid hm2
      obtain ⟨⟨d0, d1, d2⟩, fz⟩ := HC1.out _ HBel1.out
      have e0 := fz 0
      have e1 := fz 1
      have e2 := fz 2
      clear hm2 fz
      go_wp2_with fail
      have e9 : m = linesW ls := by have := E9.out; omega
      subst e9
      have k0 := World.cell?_setCell_same wr ⟨w.heap.size, 0, none⟩ (.slice p ls.length cap) d0
      have k1 := World.cell?_setCell_same (wr.setCell ⟨w.heap.size, 0, none⟩ (.slice p ls.length cap)) ⟨w.heap.size, 1, none⟩ (.int .i64 (greatestL ls)) ((World.cell?_setCell_other _ _ _ _ (by simp)).trans d1)
      have k2 := World.cell?_setCell_same ((wr.setCell ⟨w.heap.size, 0, none⟩ (.slice p ls.length cap)).setCell ⟨w.heap.size, 1, none⟩ (.int .i64 (greatestL ls))) ⟨w.heap.size, 2, none⟩ (.int .i64 (linesW ls : Int)) ((World.cell?_setCell_other _ _ _ _ (by simp)).trans ((World.cell?_setCell_other _ _ _ _ (by simp)).trans d2))
      refine bodyPost_ret (v := .agg #[.slice p ls.length cap, .int .i64 (greatestL ls), .int .i64 (linesW ls)]) (by simp [results, Try.results64, go_sem, k0, k1, k2]) rfl ⟨rfl, ?_⟩
      exact ((HBel.out.setCell (p := ⟨w.heap.size, 0, none⟩) (Nat.le_refl _) _).setCell (p := ⟨w.heap.size, 1, none⟩) (Nat.le_refl _) _).setCell (p := ⟨w.heap.size, 2, none⟩) (Nat.le_refl _) _
    | cons x rs =>
      simp only [List.length_cons] at hj
      simp only [lenSum] at hm2
      have hlt : ds.length < ls.length := by omega
      rcases S0.out.2 with h30 | ⟨b, o, rfl, hb, ha⟩
      · omega
      rw [hE.out] at ha
      obtain ⟨⟨q, c, g1, s1⟩, _⟩ := Plines.drop _ _ _ _ ha
      have f1 := (HBel.out.cell (show b < w.heap.size by omega)).trans g1
      have hxl := s1.1
      clear ha s1 g1
      go_wp2_with fail
      go_roundw
      case rel => exact ⟨ds ++ [x], rs, m + x.length, by rw [List.length_append]; go_num, by simp; omega, Lib.hid (by rw [hE.out]; simp), by omega, Lib.hid (hL.out.set hs1 _ _ (by simp))⟩
      case measure => simp [intOf]; omega
end Go.Proofs.Ytdigkdfkaikagaa
