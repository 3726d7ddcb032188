/- C2, RD, RC as one. -/
import Derived.Test.YtcadeeldogknmaaC1
import Derived.Test.YtcadeeldogknmaaFM
import Derived.Test.YtcadeeldogknmaaRB
import Derived.Test.YtcadeeldogknmaaZS
import Derived.Test.YtcadeeldogknmaaR7
import Derived.Test.YtcadeeldogknmaaR5
/- How much the second row's leakage is. -/
namespace Go.Proofs.Ytcadeeldogknmaa
open Go.RowKit

def lfA : Lf := .node 1 [1116] false .nil .nil

set_option maxHeartbeats 1600000 in
theorem count1_any (b o c cp ni : Nat) (q : Option Addr) (n : Nat) (w : World) 
    (h1 : w.cell? ⟨b, o + 1, none⟩ = some (.slice q ni cp)) (hn : n + 1 + ni ≤ 1000000) (hc : w.cell? ⟨c, 0, none⟩ = some (.int .i64 n)) (hz : w.frozen? ⟨c, 0, none⟩ = false) :
    Calls Try.prog 50 #[.pointer (some ⟨b, o, none⟩), .int .i64 1, .pointer (some ⟨c, 0, none⟩)] w fun e w' => e = .returned (.bool true) ∧
      w' = (w.setCell ⟨c, 0, none⟩ (.int .i64 ((n + (1 + ni) : Nat) : Int))).drew := by
  go_enter Try.func50, Try.ntmps50
  go_wp2_with fail
  go_region
  all_goals go_wp2_with fail
  all_goals go_ret
  all_goals exact ⟨rfl, by simp⟩

set_option maxHeartbeats 1600000 in
theorem countWalk_A (b o c cp : Nat) (w : World) (h : lfA.In w w.heap.size (some ⟨b, o, none⟩)) (hc : w.cell? ⟨c, 0, none⟩ = some (.int .i64 0)) (hz : w.frozen? ⟨c, 0, none⟩ = false) (hbc : b ≠ c) :
    Calls Try.prog 28 #[.slice (some ⟨b, o, none⟩) 1 cp, .int .i64 1, .func (Fn.func 50) #[] #[.pointer (some ⟨c, 0, none⟩)]] w fun e w' => e = .returned (.tuple #[]) ∧ w' = (w.setCell ⟨c, 0, none⟩ (.int .i64 2)).drew := by
  obtain ⟨_, h0 | ⟨b', o', he, hb, ⟨g0, ⟨q, cq, g1, s1⟩, g2, ⟨q3, d, g3, s3⟩, _⟩⟩⟩ := h
  · simp [lfA, Lf.len] at h0
  injection he with he
  injection he with e1 e2
  subst e1; subst e2
  have HC := Lib.hid (count1_any b o c cq 1 q 0 w g1 (by decide) hc hz)
  have f3 : (w.setCell ⟨c, 0, none⟩ (.int .i64 2)).drew.cell? ⟨b, o + 3, none⟩ = some (.slice q3 0 d) := (World.cell?_setCell_other _ _ _ _ (by intro e; injection e with e1; exact hbc e1.symm)).trans g3
  clear s1 s3 hc hz
  go_enter Try.func28, Try.ntmps28
  go_wp2_with fail
  go_loopw [11] (fun i wr => (i = .int .i64 0 ∧ Hid (wr = w)) ∨ (i = .int .i64 1 ∧ Hid (wr = (w.setCell ⟨c, 0, none⟩ (.int .i64 2)).drew))) (fun i _ => 1 - (intOf i).toNat)
  case atStart => exact .inl ⟨rfl, Lib.hid rfl⟩
  case round =>
    rcases hrel with ⟨rfl, hw⟩ | ⟨rfl, hw⟩
    · obtain rfl := hw.out
      clear hw
      have HF3 := Lib.hid f3
      clear f3
      go_wp2_with (go_at_call 50; refine HC.out.mono ?_; rintro e w1 ⟨rfl, hw1⟩; have HW1 := Lib.hid hw1; have f3' : w1.cell? ⟨b, o + 3, none⟩ = some (.slice q3 0 d) := (by rw [hw1]; exact HF3.out); clear hw1)
      go_wp2_with fail
      go_loopw [27] (fun i wr' => i = .int .i64 0 ∧ wr' = w1) (fun i _ => 0)
      case atStart => exact ⟨rfl, rfl⟩
      case round =>
        obtain ⟨rfl, rfl⟩ := hrel
        go_wp2_with fail
        go_roundw
        case rel => first | exact Lib.hid HW1.out | exact .inr ⟨by go_num, HW1⟩
        case measure => simp [intOf]
    · obtain rfl := hw.out
      clear hw
      go_wp2_with fail
      go_end0
      exact ⟨rfl, rfl⟩

set_option maxHeartbeats 1600000 in
theorem countClosure_A (b o bl c cp : Nat) (w : World) (h : lfA.In w w.heap.size (some ⟨b, o, none⟩)) (hl : w.cell? ⟨bl, 0, none⟩ = some (.slice (some ⟨b, o, none⟩) 1 cp)) (hc : w.cell? ⟨c, 0, none⟩ = some (.int .i64 0)) (hz : w.frozen? ⟨c, 0, none⟩ = false) (hbc : b ≠ c) :
    Calls Try.prog 49 #[.pointer (some ⟨bl, 0, none⟩), .pointer (some ⟨c, 0, none⟩)] w fun e w' => e = .returned (.tuple #[]) ∧ w' = (w.setCell ⟨c, 0, none⟩ (.int .i64 2)).drew := by
  have hmf : ∀ (fn : Fn) (first cap : Array Value) (w : World), (Instr.makeFunc fn first cap).run Try.prog w = .ok (.func fn first cap) w := fun _ _ _ _ => rfl
  have HW := Lib.hid (countWalk_A b o c cp w h hc hz hbc)
  clear h hc hz
  go_enter Try.func49, Try.ntmps49
  go_wp2_with (go_at_call 28; refine HW.out.mono ?_; rintro e w1 ⟨rfl, hw1⟩)
  go_end0
  first | exact ⟨rfl, rfl⟩ | exact ⟨rfl, hw1⟩

set_option maxHeartbeats 1600000 in
theorem count_A (b o cp : Nat) (w : World) (h : lfA.In w w.heap.size (some ⟨b, o, none⟩)) :
    Calls Try.prog 26 #[.slice (some ⟨b, o, none⟩) 1 cp] w fun e w' => e = .returned (.int .i64 2) ∧ Below w.heap.size w w' := by
  have hmf : ∀ (fn : Fn) (first cap : Array Value) (w : World), (Instr.makeFunc fn first cap).run Try.prog w = .ok (.func fn first cap) w := fun _ _ _ _ => rfl
  have hb : b < w.heap.size := by
    obtain ⟨_, h0 | ⟨b', o', he, hb, _⟩⟩ := h
    · simp [lfA, Lf.len] at h0
    · injection he with he; injection he with e1; omega
  have HA := Lib.hid ((((Below.refl _ w).alloc (Nat.le_refl _) (.cells #[.slice (some ⟨b, o, none⟩) 1 cp] 23)).alloc (by simp) (.cells #[.int .i64 0] 3)).alloc (by simp; omega) (.cells #[.int .i64 0] 28))
  have HC := Lib.hid (caught_count #[.pointer (some ⟨w.heap.size, 0, none⟩), .pointer (some ⟨w.heap.size + 1, 0, none⟩)] ((w.alloc (.cells #[.slice (some ⟨b, o, none⟩) 1 cp] 23)).alloc (.cells #[.int .i64 0] 3)) none
    (fun w1 => Below w.heap.size w w1 ∧ w1.cell? ⟨w.heap.size + 1, 0, none⟩ = some (.int .i64 2))
    ((countClosure_A b o w.heap.size (w.heap.size + 1) cp _ (h.later HA.out (by simp; omega)) (by simp [go_sem]) (by simp [go_sem]) (by simp [go_sem]) (by omega)).mono fun e w1 ⟨he, hw⟩ => by
      subst hw
      refine ⟨he, ⟨(World.cell?_setCell_other _ _ _ _ (by simp)).trans (by simp [go_sem]), by simp [go_sem]⟩, (HA.out.setCell (p := ⟨w.heap.size + 1, 0, none⟩) (Nat.le_succ _) _).drew, World.cell?_setCell_same _ _ (.int .i64 2) (by simp [go_sem]; rfl)⟩))
  clear h
  go_enter Try.func26, Try.ntmps26
  go_wp2_with (go_at_call 22; refine HC.out.mono ?_; rintro e w1 ⟨rfl, w2, ⟨hB, hn⟩, _, hw1⟩; have hn1 : w1.cell? ⟨w.heap.size + 1, 0, none⟩ = some (.int .i64 2) := (by rw [hw1]; exact (World.cell?_setCell_other _ _ _ _ (by simp)).trans hn); have HB1 := Lib.hid (show Below w.heap.size w w1 by rw [hw1]; exact hB.setCell (by simp; omega) _); clear hw1 hB hn)
  all_goals go_ret
  all_goals exact ⟨rfl, HB1.out⟩
end Go.Proofs.Ytcadeeldogknmaa
/- Rewriting the chapter's second row. -/
namespace Go.Proofs.Ytcadeeldogknmaa
open Go.RowKit

def liA : Lf := .node 1 [2] false .nil .nil

theorem lfA_set {w : World} {N b c : Nat} {u v : Value} (h : lfA.In w N (some ⟨b, 0, none⟩)) (hc : w.cell? ⟨c, 0, none⟩ = some v) (h1 : v ≠ .int .i64 1) (h2 : v ≠ .int .u64 1116) : lfA.In (w.setCell ⟨c, 0, none⟩ u) N (some ⟨b, 0, none⟩) := by
  obtain ⟨hm, h0 | ⟨b', o', he, hb, ⟨g0, ⟨q, cq, g1, ⟨hq, hs | ⟨b2, o2, rfl, hb2, ⟨y0, _⟩⟩⟩⟩, g2, ⟨q3, d, g3, s3⟩, _⟩⟩⟩ := h
  · simp [lfA, Lf.len] at h0
  · simp at hs
  injection he with he
  injection he with e1 e2
  subst e1; subst e2
  have n1 : b ≠ c := by rintro rfl; rw [g0] at hc; injection hc with hc; exact h1 hc.symm
  have k : ∀ j, (w.setCell ⟨c, 0, none⟩ u).cell? ⟨b, j, none⟩ = w.cell? ⟨b, j, none⟩ := fun j => World.cell?_setCell_other _ _ _ _ (by intro e; injection e with e1; exact n1 e1.symm)
  have k2 : (w.setCell ⟨c, 0, none⟩ u).cell? ⟨b2, o2, none⟩ = w.cell? ⟨b2, o2, none⟩ := World.cell?_setCell_other _ _ _ _ (by intro e; injection e with e1 e2; subst e1; subst e2; rw [y0] at hc; injection hc with hc; exact h2 hc.symm)
  exact ⟨hm, .inr ⟨b, 0, rfl, hb, (k _).trans g0, ⟨some ⟨b2, o2, none⟩, cq, (k _).trans g1, hq, .inr ⟨b2, o2, rfl, hb2, k2.trans y0, trivial⟩⟩, (k _).trans g2, ⟨q3, d, (k _).trans g3, ⟨s3.1, .inl rfl⟩⟩, trivial⟩⟩

def RAx (w3 : World) (m : Nat) (w' : World) : Prop := ∃ w1 b2 cc, OnlyG w3.heap.size (((w3.alloc (Obj.cells #[.int .u64 1000, .map (some m), .int .i64 0] 64)).alloc (Obj.cells #[.slice none 0 0] 23)).alloc (.cells #[.int .i64 0] 28)) w1 ∧ RwAt w1 w3.heap.size 1000 m 2 ∧ lfA.In w1 w1.heap.size (some ⟨b2, 0, none⟩) ∧ w' = w1.setCell ⟨w3.heap.size + 1, 0, none⟩ (.slice (some ⟨b2, 0, none⟩) 1 cc)
theorem caught_A (n m N ct cl : Nat) (p q : Option Addr) (w3 : World) (hT : tfA.In w3 N p) (hL : liA.In w3 N q) (hN : N ≤ w3.heap.size) (hm : w3.heap[m]? = some (fmap deedT))
    (t0 : w3.cell? ⟨n, 0, none⟩ = some (.slice p 1 ct)) (l0 : w3.cell? ⟨n + 1, 0, none⟩ = some (.slice q 1 cl)) (b0 : w3.cell? ⟨n + 1 + 1, 0, none⟩ = some (.bool false)) :
    Calls Try.prog 22 #[.func (Fn.func 23) #[] #[.pointer (some ⟨w3.heap.size, 0, none⟩), .pointer (some ⟨n, 0, none⟩), .pointer (some ⟨n + 1, 0, none⟩), .pointer (some ⟨n + 1 + 1, 0, none⟩), .pointer (some ⟨w3.heap.size + 1, 0, none⟩)]] ((w3.alloc (Obj.cells #[.int .u64 1000, .map (some m), .int .i64 0] 64)).alloc (Obj.cells #[.slice none 0 0] 23)) fun e w' =>
      e = .returned (.int .i64 0) ∧ ∃ w1, RAx w3 m w1 ∧ w1.cell? ⟨w3.heap.size + 2, 0, none⟩ = some (.int .i64 0) ∧ w' = w1.setCell ⟨w3.heap.size + 2, 0, none⟩ (.int .i64 0) := by
  obtain ⟨_, hl0 | ⟨bl, ol, rfl, hbl, ⟨g0, ⟨q1, c2, g1, ⟨_, hs | ⟨b, o, rfl, hb, ⟨y0, _⟩⟩⟩⟩, g2, ⟨q3, d, g3, s3⟩, _⟩⟩⟩ := hL
  · simp [liA, Lf.len] at hl0
  · simp at hs
  have hB : Below w3.heap.size w3 (((w3.alloc (Obj.cells #[.int .u64 1000, .map (some m), .int .i64 0] 64)).alloc (Obj.cells #[.slice none 0 0] 23)).alloc (.cells #[.int .i64 0] 28)) := (((Below.refl _ w3).alloc (Nat.le_refl _) _).alloc (by simp) _).alloc (by simp; omega) _
  have hsz : ((w3.alloc (Obj.cells #[.int .u64 1000, .map (some m), .int .i64 0] 64)).alloc (Obj.cells #[.slice none 0 0] 23)).heap.size = w3.heap.size + 2 := by simp
  have hml : m < w3.heap.size := (Array.getElem?_eq_some_iff.1 hm).1
  have k : ∀ b o v, w3.cell? ⟨b, o, none⟩ = some v → (((w3.alloc (Obj.cells #[.int .u64 1000, .map (some m), .int .i64 0] 64)).alloc (Obj.cells #[.slice none 0 0] 23)).alloc (.cells #[.int .i64 0] 28)).cell? ⟨b, o, none⟩ = some v := fun b o v h => (hB.cell (World.block_lt_of_cell? _ _ h)).trans h
  have nl : ∀ b o v, w3.cell? ⟨b, o, none⟩ = some v → b ≠ w3.heap.size := fun b o v h => Nat.ne_of_lt (World.block_lt_of_cell? _ _ h)
  have hdo := rewrite1_A w3.heap.size m N n (n + 1) (n + 1 + 1) (w3.heap.size + 1) bl ol cl ct p b o c2 (((w3.alloc (Obj.cells #[.int .u64 1000, .map (some m), .int .i64 0] 64)).alloc (Obj.cells #[.slice none 0 0] 23)).alloc (.cells #[.int .i64 0] 28)) ⟨by simp [go_sem], by simp [go_sem], by simp [go_sem], by simp [go_sem]⟩ ((hB.block m hml).trans hm) (Nat.ne_of_lt hml) hN hb
    (k _ _ _ t0) (k _ _ _ l0) (k _ _ _ b0) (by simp [go_sem]) (by simp [go_sem]) (by omega) (nl _ _ _ l0) (nl _ _ _ b0) (Tf.In_later hT hB hN) (k _ _ _ g1) (k _ _ _ y0)
  have HC := caught_rewrite _ ((w3.alloc (Obj.cells #[.int .u64 1000, .map (some m), .int .i64 0] 64)).alloc (Obj.cells #[.slice none 0 0] 23)) none (RAx w3 m) (hdo.mono fun e w' ⟨he, w1, b2, cc, hG, hR, hin, hw⟩ => by
    subst hw
    have he0 : w1.cell? ⟨((w3.alloc (Obj.cells #[.int .u64 1000, .map (some m), .int .i64 0] 64)).alloc (Obj.cells #[.slice none 0 0] 23)).heap.size, 0, none⟩ = some (.int .i64 0) := (hG.cell (by rw [hsz]; omega) (by simp)).trans (by simp [go_sem])
    have hz0 : w1.frozen? ⟨((w3.alloc (Obj.cells #[.int .u64 1000, .map (some m), .int .i64 0] 64)).alloc (Obj.cells #[.slice none 0 0] 23)).heap.size, 0, none⟩ = false := (hG.frozen (by rw [hsz]; omega) (by simp)).trans (by simp [go_sem])
    refine ⟨he, ⟨(World.cell?_setCell_other _ _ _ _ (by simp)).trans he0, by simpa using hz0⟩, w1, b2, cc, hG, hR, hin, rfl⟩)
  rw [hsz] at HC
  exact HC

theorem after_A {w3 w6 w7 : World} {m : Nat} (h : RAx w3 m w6) (he : w6.cell? ⟨w3.heap.size + 2, 0, none⟩ = some (.int .i64 0)) (hw : w7 = w6.setCell ⟨w3.heap.size + 2, 0, none⟩ (.int .i64 0)) :
    ∃ bb cc, w7.cell? ⟨w3.heap.size, 2, none⟩ = some (.int .i64 2) ∧ w7.cell? ⟨w3.heap.size + 1, 0, none⟩ = some (.slice (some ⟨bb, 0, none⟩) 1 cc) ∧ lfA.In w7 w7.heap.size (some ⟨bb, 0, none⟩) ∧ Below w3.heap.size w3 w7 := by
  obtain ⟨w1, b2, cc, hG, hR, hin, rfl⟩ := h
  subst hw
  have hB : Below w3.heap.size w3 (((w3.alloc (Obj.cells #[.int .u64 1000, .map (some m), .int .i64 0] 64)).alloc (Obj.cells #[.slice none 0 0] 23)).alloc (.cells #[.int .i64 0] 28)) := (((Below.refl _ w3).alloc (Nat.le_refl _) _).alloc (by simp) _).alloc (by simp; omega) _
  have ho : w1.cell? ⟨w3.heap.size + 1, 0, none⟩ = some (.slice none 0 0) := (hG.cell (by omega) (by simp)).trans (by simp [go_sem])
  refine ⟨b2, cc, ?_, ?_, ?_, ?_⟩
  · exact (World.cell?_setCell_other _ _ _ _ (by simp)).trans ((World.cell?_setCell_other _ _ _ _ (by simp)).trans hR.c2)
  · exact (World.cell?_setCell_other _ _ _ _ (by simp)).trans (World.cell?_setCell_same _ _ _ ho)
  · have h1 := lfA_set (u := .slice (some ⟨b2, 0, none⟩) 1 cc) hin ho (by simp) (by simp)
    have h2 := lfA_set (u := .int .i64 0) h1 he (by simp) (by simp)
    simpa [World.setCell] using h2
  · exact ((hB.trans hG.bel).setCell (p := ⟨w3.heap.size + 1, 0, none⟩) (Nat.le_succ _) _).setCell (p := ⟨w3.heap.size + 2, 0, none⟩) (by simp) _

set_option maxRecDepth 100000 in
set_option maxHeartbeats 3200000 in
theorem Rewrite_A (N ct cl : Nat) (p q : Option Addr) (w : World) (hT : tfA.In w N p) (hL : liA.In w N q) (hN : N ≤ w.heap.size) :
    Calls Try.prog 9 #[.slice p 1 ct, .slice q 1 cl, .int .u64 1000, .bool false] w fun e w' =>
      (∃ b2 cc, e = .returned (.tuple #[.slice (some ⟨b2, 0, none⟩) 1 cc, .int .i64 0]) ∧ lfA.In w' w'.heap.size (some ⟨b2, 0, none⟩)) ∧ Below w.heap.size w w' := by
  have hmf : ∀ (fn : Fn) (first cap : Array Value) (w : World), (Instr.makeFunc fn first cap).run Try.prog w = .ok (.func fn first cap) w := fun _ _ _ _ => rfl
  have HC := Lib.hid (fun (w1 : World) (hb : Below w.heap.size w w1) => check_any liA q cl N w1 (In_later hL hb hN) (Nat.le_trans hN hb.size))
  have HT := Lib.hid (fun (w1 : World) (hb : Below w.heap.size w w1) => terms_any tfA p ct N w1 (Tf.In_later hT hb hN) (Nat.le_trans hN hb.size) (by decide) (by decide))
  have e1 : liA.check = 0 := by decide
  have e2 : tfA.okT = true := by decide
  rw [e1] at HC
  rw [e2] at HT
  have HA := Lib.hid (fun (o1 o2 o3 : Obj) => (((Below.refl _ w).alloc (Nat.le_refl _) o1).alloc (by simp) o2).alloc (by simp; omega) o3)
  have CELLS := Lib.hid (show ∀ w1, Below (((w.alloc (Obj.cells #[.slice p 1 ct] 22)).alloc (Obj.cells #[.slice q 1 cl] 23)).alloc (Obj.cells #[.bool false] 4)).heap.size (((w.alloc (Obj.cells #[.slice p 1 ct] 22)).alloc (Obj.cells #[.slice q 1 cl] 23)).alloc (Obj.cells #[.bool false] 4)) w1 → (w1.cell? ⟨w.heap.size, 0, none⟩ = some (.slice p 1 ct) ∧ w1.cell? ⟨w.heap.size + 1, 0, none⟩ = some (.slice q 1 cl) ∧ w1.cell? ⟨w.heap.size + 1 + 1, 0, none⟩ = some (.bool false)) ∧ Below w.heap.size w w1 ∧ w.heap.size + 3 ≤ w1.heap.size from
    fun w1 hb => ⟨⟨(hb.cell (by simp; omega)).trans (by simp [go_sem]), (hb.cell (by simp)).trans (by simp [go_sem]), (hb.cell (by simp)).trans (by simp [go_sem])⟩, (HA.out _ _ _).trans (hb.mono (by simp; omega)), by have := hb.size; simp at this; omega⟩)
  have CA := Lib.hid (fun (m : Nat) (w3 : World) (hb : Below w.heap.size w w3) => caught_A w.heap.size m N ct cl p q w3 (Tf.In_later hT hb hN) (In_later hL hb hN) (Nat.le_trans hN hb.size))
  clear hT hL e1 e2
  go_enter Try.func9, Try.ntmps9
  go_wp2_with (first | (go_at_call 19; refine (HC.out _ (HA.out _ _ _)).mono ?_; rintro e w1 ⟨rfl, hb1⟩; obtain ⟨⟨t0, l0, b0⟩, hB1, hs1⟩ := CELLS.out _ hb1) | (go_at_call 20; refine (HT.out _ hB1).mono ?_; rintro e w2 ⟨rfl, hb2⟩; have hb12 := hb1.trans (hb2.mono hb1.size); obtain ⟨⟨t1, l1, b1⟩, hB2, hs2⟩ := CELLS.out _ hb12) | (go_at_call 21; refine (deeds_any _).mono ?_; rintro e w3 ⟨m, rfl, hm, hmb, hb3⟩; have HM := Lib.hid hm; clear hm; have hb13 := hb12.trans (hb3.mono hb12.size); obtain ⟨⟨t2, l2, b2⟩, hB3, hs3⟩ := CELLS.out _ hb13) | (go_at_call 22; refine (CA.out m w3 hB3 HM.out t2 l2 b2).mono ?_; rintro e w7 ⟨rfl, w6, hRA, he6, hw7⟩; obtain ⟨bb, cc, r2, o0, hin, hB7⟩ := after_A hRA he6 hw7; have HIN := Lib.hid hin; have HBE := Lib.hid (hB3.trans (hB7.mono hB3.size)); clear hRA he6 hw7 hin hB7) | (go_at_call 26; refine (count_A bb 0 cc _ HIN.out).mono ?_; rintro e w8 ⟨rfl, hB8⟩; have o1 := (hB8.cell (World.block_lt_of_cell? _ _ o0)).trans o0))
  go_ret2
  exact ⟨⟨bb, cc, rfl, HIN.out.later hB8 hB8.size⟩, HBE.out.trans (hB8.mono HBE.out.size)⟩
end Go.Proofs.Ytcadeeldogknmaa
/- Rewriting the chapter's rows: the closure that rewrites. -/
namespace Go.Proofs.Ytcadeeldogknmaa
open Go.RowKit

set_option maxRecDepth 100000 in
set_option maxHeartbeats 3200000 in
theorem rewrite1_B (g m N bt bk bb bo bl ol cl ct : Nat) (p : Option Addr) (st : Int) (w : World) (hr : RwAt w g st m 0) (hm : w.heap[m]? = some (fmap deedT)) (hN : N ≤ g)
    (ht : w.cell? ⟨bt, 0, none⟩ = some (.slice p 1 ct)) (hk : w.cell? ⟨bk, 0, none⟩ = some (.slice (some ⟨bl, ol, none⟩) 1 cl)) (hbb : w.cell? ⟨bb, 0, none⟩ = some (.bool false)) (ho : w.cell? ⟨bo, 0, none⟩ = some (.slice none 0 0)) (hoz : w.frozen? ⟨bo, 0, none⟩ = false) (hog : bo ≠ g)
    (_hbk : bk ≠ g) (_hbbg : bb ≠ g)
    (hT : tfB.In w N p) (h0 : w.cell? ⟨bl, ol, none⟩ = some (.int .i64 2)) (h2 : w.cell? ⟨bl, ol + 2, none⟩ = some (.bool false)) :
    Calls Try.prog 23 #[.pointer (some ⟨g, 0, none⟩), .pointer (some ⟨bt, 0, none⟩), .pointer (some ⟨bk, 0, none⟩), .pointer (some ⟨bb, 0, none⟩), .pointer (some ⟨bo, 0, none⟩)] w fun e w' =>
      e = panicked 2 ∧ OnlyG g w w' := by
  have hgl := hr.lt
  have HP := Lib.hid (fun (w1 : World) (hb1 : Below w.heap.size w w1) => recipes_B p ct N w1 (Tf.In_later hT hb1 (Nat.le_trans hN (Nat.le_of_lt hgl))) (Nat.le_trans (Nat.le_trans hN (Nat.le_of_lt hgl)) hb1.size))
  have HL := Lib.hid (fun (w1 : World) (hb1 : Below w.heap.size w w1) (gr c9 cl' : Nat) (pv sv : Value) (gi sz : Int) (hrec : Rec w1 gr 4 true pv gi sz sv) =>
    list_B g m gr c9 bl ol cl' st 0 pv gi sz sv w1 (hr.later hb1 hgl) hrec ((hb1.cell (World.block_lt_of_cell? _ _ h0)).trans h0) ((hb1.cell (World.block_lt_of_cell? _ _ h2)).trans h2)
      ((hb1.block m (by have := (Array.getElem?_eq_some_iff.1 hm).1; exact this)).trans hm))
  have HB9 := Lib.hid (fun (w1 : World) (hb1 : Below w.heap.size w w1) => OnlyG.on (g := g) (w := w) (w1 := w) ⟨Below.refl _ _, fun _ _ _ => rfl⟩ (Nat.le_of_lt hgl) hb1)
  have hol : bo < w.heap.size := World.block_lt_of_cell? _ _ ho
  have HK := Lib.hid (fun (w1 : World) (hb1 : Below w.heap.size w w1) => (show w1.cell? ⟨bk, 0, none⟩ = some (.slice (some ⟨bl, ol, none⟩) 1 cl) ∧ w1.cell? ⟨bb, 0, none⟩ = some (.bool false) from ⟨(hb1.cell (World.block_lt_of_cell? _ _ hk)).trans hk, (hb1.cell (World.block_lt_of_cell? _ _ hbb)).trans hbb⟩))
  have HO := Lib.hid (fun (w1 : World) (hb1 : OnlyG g w w1) => (show w1.cell? ⟨bo, 0, none⟩ = some (.slice none 0 0) ∧ w1.frozen? ⟨bo, 0, none⟩ = false from ⟨(hb1.cell hog hol).trans ho, (hb1.frozen hog hol).trans hoz⟩))
  clear hr hm h0 h2 hT ho hoz
  go_enter Try.func23, Try.ntmps23
  go_wp2_with fail
  have HD := Lib.hid (Below.refl w.heap.size w).drew
  have hNw : N ≤ w.heap.size := Nat.le_trans hN (Nat.le_of_lt hgl)
  go_region_law (first | (refine step_call_panic (by simp [Region.wanted, go_sem]) 24 #[.pointer (some ⟨g, 0, none⟩), .slice none 0 0, .slice (some ⟨w.heap.size, 0, none⟩) 1 c9, .slice (some ⟨bl, ol, none⟩) 1 cl, .bool false] (by simp [Act.eval, go_sem]) (HL.out _ hbw _ _ _ _ _ _ _ hrec.out) (by rintro e w' ⟨rfl, hB⟩; exact ⟨_, rfl, rfl, rfl, HB9.out _ (hbw.trans (hB.mono hbw.size))⟩) ?_) | (refine step_call_fn rfl 25 #[.slice p 1 ct] (by simp [Act.eval, go_sem]) (HP.out _ HD.out) ?_; rintro e w2 ⟨c9, rfl, hB2, q, c, sv, hrec⟩; refine ⟨_, rfl, ?_⟩; have hrec := Lib.hid hrec; have hbw := HD.out.trans (hB2.mono HD.out.size); obtain ⟨k1, k2⟩ := HK.out _ hbw))
  all_goals trivial
end Go.Proofs.Ytcadeeldogknmaa
