/- Rewriting the chapter's third row. -/
import Derived.Test.YtdigkdfkaikagaaRC
import Derived.Test.YtdigkdfkaikagaaC1
import Derived.Test.YtdigkdfkaikagaaT6
import Derived.Test.YtdigkdfkaikagaaL10
namespace Go.Proofs.Ytdigkdfkaikagaa
open Go.RowKit

def liB : Lf := .node 2 [] false (.sub .nil .nil) .nil

theorem caught_B (n m N ct cl : Nat) (p q : Option Addr) (w3 : World) (hT : tfB.In w3 N p) (hL : liB.In w3 N q) (hN : N ≤ w3.heap.size) (hm : w3.heap[m]? = some (fmap deedT))
    (t0 : w3.cell? ⟨n, 0, none⟩ = some (.slice p 1 ct)) (l0 : w3.cell? ⟨n + 1, 0, none⟩ = some (.slice q 1 cl)) (b0 : w3.cell? ⟨n + 1 + 1, 0, none⟩ = some (.bool false)) :
    Calls Try.prog 35 #[.func (Fn.func 36) #[] #[.pointer (some ⟨w3.heap.size, 0, none⟩), .pointer (some ⟨n, 0, none⟩), .pointer (some ⟨n + 1, 0, none⟩), .pointer (some ⟨n + 1 + 1, 0, none⟩), .pointer (some ⟨w3.heap.size + 1, 0, none⟩)]] ((w3.alloc (Obj.cells #[.int .u64 0, .map (some m), .int .i64 0] 70)).alloc (Obj.cells #[.slice none 0 0] 25)) fun e w' =>
      e = .returned (.int .i64 2) ∧ Below w3.heap.size w3 w' := by
  obtain ⟨_, hl0 | ⟨bl, ol, rfl, hbl, ⟨g0, _, g2, _, _⟩⟩⟩ := hL
  · simp [liB, Lf.len] at hl0
  have hB : Below w3.heap.size w3 (((w3.alloc (Obj.cells #[.int .u64 0, .map (some m), .int .i64 0] 70)).alloc (Obj.cells #[.slice none 0 0] 25)).alloc (.cells #[.int .i64 0] 28)) := (((Below.refl _ w3).alloc (Nat.le_refl _) _).alloc (by simp) _).alloc (by simp; omega) _
  have hsz : ((w3.alloc (Obj.cells #[.int .u64 0, .map (some m), .int .i64 0] 70)).alloc (Obj.cells #[.slice none 0 0] 25)).heap.size = w3.heap.size + 2 := by simp
  have hml : m < w3.heap.size := (Array.getElem?_eq_some_iff.1 hm).1
  have k : ∀ b o v, w3.cell? ⟨b, o, none⟩ = some v → (((w3.alloc (Obj.cells #[.int .u64 0, .map (some m), .int .i64 0] 70)).alloc (Obj.cells #[.slice none 0 0] 25)).alloc (.cells #[.int .i64 0] 28)).cell? ⟨b, o, none⟩ = some v := fun b o v h => (hB.cell (World.block_lt_of_cell? _ _ h)).trans h
  have nl : ∀ b o v, w3.cell? ⟨b, o, none⟩ = some v → b ≠ w3.heap.size := fun b o v h => Nat.ne_of_lt (World.block_lt_of_cell? _ _ h)
  have hdo := rewrite1_B w3.heap.size m N n (n + 1) (n + 1 + 1) (w3.heap.size + 1) bl ol cl ct p 0 (((w3.alloc (Obj.cells #[.int .u64 0, .map (some m), .int .i64 0] 70)).alloc (Obj.cells #[.slice none 0 0] 25)).alloc (.cells #[.int .i64 0] 28)) ⟨by simp [go_sem], by simp [go_sem], by simp [go_sem], by simp [go_sem]⟩ ((hB.block m hml).trans hm) hN
    (k _ _ _ t0) (k _ _ _ l0) (k _ _ _ b0) (by simp [go_sem]) (by simp [go_sem]) (by omega) (nl _ _ _ l0) (nl _ _ _ b0) (Tf.In_later hT hB hN) (k _ _ _ g0) (k _ _ _ g2)
  have HC := caught_rewrite _ ((w3.alloc (Obj.cells #[.int .u64 0, .map (some m), .int .i64 0] 70)).alloc (Obj.cells #[.slice none 0 0] 25)) (some 2) (fun w1 => OnlyG w3.heap.size (((w3.alloc (Obj.cells #[.int .u64 0, .map (some m), .int .i64 0] 70)).alloc (Obj.cells #[.slice none 0 0] 25)).alloc (.cells #[.int .i64 0] 28)) w1) (hdo.mono fun e w1 ⟨he, hG⟩ =>
    ⟨he, ⟨(hG.cell (by rw [hsz]; omega) (by simp)).trans (by simp [go_sem]), (hG.frozen (by rw [hsz]; omega) (by simp)).trans (by simp [go_sem])⟩, hG⟩)
  rw [hsz] at HC
  exact HC.mono fun e w' ⟨he, w1, hG, _, hw⟩ => ⟨he, by rw [hw]; exact (hB.trans hG.bel).setCell (p := ⟨w3.heap.size + 2, 0, none⟩) (by simp) _⟩

set_option maxRecDepth 100000 in
set_option maxHeartbeats 3200000 in
theorem Rewrite_B (N ct cl : Nat) (p q : Option Addr) (w : World) (hT : tfB.In w N p) (hL : liB.In w N q) (hN : N ≤ w.heap.size) :
    Calls Try.prog 14 #[.slice p 1 ct, .slice q 1 cl, .int .u64 0, .bool false] w fun e w' =>
      e = .returned (.tuple #[.slice none 0 0, .int .i64 2]) ∧ Below w.heap.size w w' := by
  have hmf : ∀ (fn : Fn) (first cap : Array Value) (w : World), (Instr.makeFunc fn first cap).run Try.prog w = .ok (.func fn first cap) w := fun _ _ _ _ => rfl
  have HC := Lib.hid (fun (w1 : World) (hb : Below w.heap.size w w1) => check_any liB q cl N w1 (In_later hL hb hN) (Nat.le_trans hN hb.size))
  have HT := Lib.hid (fun (w1 : World) (hb : Below w.heap.size w w1) => terms_any tfB p ct N w1 (Tf.In_later hT hb hN) (Nat.le_trans hN hb.size) (by decide) (by decide))
  have e1 : liB.check = 0 := by decide
  have e2 : tfB.okT = true := by decide
  rw [e1] at HC
  rw [e2] at HT
  have HA := Lib.hid (fun (o1 o2 o3 : Obj) => (((Below.refl _ w).alloc (Nat.le_refl _) o1).alloc (by simp) o2).alloc (by simp; omega) o3)
  have CELLS := Lib.hid (show ∀ w1, Below (((w.alloc (Obj.cells #[.slice p 1 ct] 22)).alloc (Obj.cells #[.slice q 1 cl] 25)).alloc (Obj.cells #[.bool false] 4)).heap.size (((w.alloc (Obj.cells #[.slice p 1 ct] 22)).alloc (Obj.cells #[.slice q 1 cl] 25)).alloc (Obj.cells #[.bool false] 4)) w1 → (w1.cell? ⟨w.heap.size, 0, none⟩ = some (.slice p 1 ct) ∧ w1.cell? ⟨w.heap.size + 1, 0, none⟩ = some (.slice q 1 cl) ∧ w1.cell? ⟨w.heap.size + 1 + 1, 0, none⟩ = some (.bool false)) ∧ Below w.heap.size w w1 ∧ w.heap.size + 3 ≤ w1.heap.size from
    fun w1 hb => ⟨⟨(hb.cell (by simp; omega)).trans (by simp [go_sem]), (hb.cell (by simp)).trans (by simp [go_sem]), (hb.cell (by simp)).trans (by simp [go_sem])⟩, (HA.out _ _ _).trans (hb.mono (by simp; omega)), by have := hb.size; simp at this; omega⟩)
  have CA := Lib.hid (fun (m : Nat) (w3 : World) (hb : Below w.heap.size w w3) => caught_B w.heap.size m N ct cl p q w3 (Tf.In_later hT hb hN) (In_later hL hb hN) (Nat.le_trans hN hb.size))
  clear hT hL e1 e2
  go_enter Try.func14, Try.ntmps14
  go_wp2_with (first | (go_at_call 33; refine (HC.out _ (HA.out _ _ _)).mono ?_; rintro e w1 ⟨rfl, hb1⟩; obtain ⟨⟨t0, l0, b0⟩, hB1, hs1⟩ := CELLS.out _ hb1) | (go_at_call 10; refine (HT.out _ hB1).mono ?_; rintro e w2 ⟨rfl, hb2⟩; have hb12 := hb1.trans (hb2.mono hb1.size); obtain ⟨⟨t1, l1, b1⟩, hB2, hs2⟩ := CELLS.out _ hb12) | (go_at_call 34; refine (deeds_any _).mono ?_; rintro e w3 ⟨m, rfl, hm, hmb, hb3⟩; have HM := Lib.hid hm; clear hm; have hb13 := hb12.trans (hb3.mono hb12.size); obtain ⟨⟨t2, l2, b2⟩, hB3, hs3⟩ := CELLS.out _ hb13) | (go_at_call 35; refine (CA.out m w3 hB3 HM.out t2 l2 b2).mono ?_; rintro e w7 ⟨rfl, hB7⟩; have HBE := Lib.hid (hB3.trans (hB7.mono hB3.size)); clear hB7))
  go_ret2
  exact ⟨rfl, HBE.out⟩
end Go.Proofs.Ytdigkdfkaikagaa
