/- How much the second row's leakage is. -/
import Derived.Test.YtdigkdfkaikagaaC1
import Derived.Test.YtdigkdfkaikagaaL5
namespace Go.Proofs.Ytdigkdfkaikagaa
open Go.RowKit

def lfA : Lf := .node 1 [1116] false .nil .nil

set_option maxHeartbeats 1600000 in
theorem count1_any (b o c cp ni : Nat) (q : Option Addr) (n : Nat) (w : World) 
    (h1 : w.cell? ⟨b, o + 1, none⟩ = some (.slice q ni cp)) (hn : n + 1 + ni ≤ 1000000) (hc : w.cell? ⟨c, 0, none⟩ = some (.int .i64 n)) (hz : w.frozen? ⟨c, 0, none⟩ = false) :
    Calls Try.prog 67 #[.pointer (some ⟨b, o, none⟩), .int .i64 1, .pointer (some ⟨c, 0, none⟩)] w fun e w' => e = .returned (.bool true) ∧
      w' = (w.setCell ⟨c, 0, none⟩ (.int .i64 ((n + (1 + ni) : Nat) : Int))).drew := by
  go_enter Try.func67, Try.ntmps67
  go_wp2_with fail
  go_region
  all_goals go_wp2_with fail
  all_goals go_ret
  all_goals exact ⟨rfl, by simp⟩

set_option maxHeartbeats 1600000 in
theorem countWalk_A (b o c cp : Nat) (w : World) (h : lfA.In w w.heap.size (some ⟨b, o, none⟩)) (hc : w.cell? ⟨c, 0, none⟩ = some (.int .i64 0)) (hz : w.frozen? ⟨c, 0, none⟩ = false) (hbc : b ≠ c) :
    Calls Try.prog 47 #[.slice (some ⟨b, o, none⟩) 1 cp, .int .i64 1, .func (Fn.func 67) #[] #[.pointer (some ⟨c, 0, none⟩)]] w fun e w' => e = .returned (.tuple #[]) ∧ w' = (w.setCell ⟨c, 0, none⟩ (.int .i64 2)).drew := by
  obtain ⟨_, h0 | ⟨b', o', he, hb, ⟨g0, ⟨q, cq, g1, s1⟩, g2, ⟨q3, d, g3, s3⟩, _⟩⟩⟩ := h
  · simp [lfA, Lf.len] at h0
  injection he with he
  injection he with e1 e2
  subst e1; subst e2
  have HC := Lib.hid (count1_any b o c cq 1 q 0 w g1 (by decide) hc hz)
  have f3 : (w.setCell ⟨c, 0, none⟩ (.int .i64 2)).drew.cell? ⟨b, o + 3, none⟩ = some (.slice q3 0 d) := (World.cell?_setCell_other _ _ _ _ (by intro e; injection e with e1; exact hbc e1.symm)).trans g3
  clear s1 s3 hc hz
  go_enter Try.func47, Try.ntmps47
  go_wp2_with fail
  go_loopw [11] (fun i wr => (i = .int .i64 0 ∧ Hid (wr = w)) ∨ (i = .int .i64 1 ∧ Hid (wr = (w.setCell ⟨c, 0, none⟩ (.int .i64 2)).drew))) (fun i _ => 1 - (intOf i).toNat)
  case atStart => exact .inl ⟨rfl, Lib.hid rfl⟩
  case round =>
    rcases hrel with ⟨rfl, hw⟩ | ⟨rfl, hw⟩
    · obtain rfl := hw.out
      clear hw
      have HF3 := Lib.hid f3
      clear f3
      go_wp2_with (go_at_call 67; refine HC.out.mono ?_; rintro e w1 ⟨rfl, hw1⟩; have HW1 := Lib.hid hw1; have f3' : w1.cell? ⟨b, o + 3, none⟩ = some (.slice q3 0 d) := (by rw [hw1]; exact HF3.out); clear hw1)
      go_wp2_with fail
      go_loopw [27] (fun i wr' => i = .int .i64 0 ∧ wr' = w1) (fun i _ => 0)
      case atStart => exact ⟨rfl, rfl⟩
      case round =>
        obtain ⟨rfl, rfl⟩ := hrel
        go_wp2_with fail
        go_roundw
        case rel => first | exact Lib.hid HW1.out | exact .inr ⟨by go_num, HW1⟩
        case measure => simp [intOf]
    · obtain rfl := hw.out
      clear hw
      go_wp2_with fail
      go_end0
      exact ⟨rfl, rfl⟩

set_option maxHeartbeats 1600000 in
theorem countClosure_A (b o bl c cp : Nat) (w : World) (h : lfA.In w w.heap.size (some ⟨b, o, none⟩)) (hl : w.cell? ⟨bl, 0, none⟩ = some (.slice (some ⟨b, o, none⟩) 1 cp)) (hc : w.cell? ⟨c, 0, none⟩ = some (.int .i64 0)) (hz : w.frozen? ⟨c, 0, none⟩ = false) (hbc : b ≠ c) :
    Calls Try.prog 66 #[.pointer (some ⟨bl, 0, none⟩), .pointer (some ⟨c, 0, none⟩)] w fun e w' => e = .returned (.tuple #[]) ∧ w' = (w.setCell ⟨c, 0, none⟩ (.int .i64 2)).drew := by
  have hmf : ∀ (fn : Fn) (first cap : Array Value) (w : World), (Instr.makeFunc fn first cap).run Try.prog w = .ok (.func fn first cap) w := fun _ _ _ _ => rfl
  have HW := Lib.hid (countWalk_A b o c cp w h hc hz hbc)
  clear h hc hz
  go_enter Try.func66, Try.ntmps66
  go_wp2_with (go_at_call 47; refine HW.out.mono ?_; rintro e w1 ⟨rfl, hw1⟩)
  go_end0
  first | exact ⟨rfl, rfl⟩ | exact ⟨rfl, hw1⟩

set_option maxHeartbeats 1600000 in
theorem count_A (b o cp : Nat) (w : World) (h : lfA.In w w.heap.size (some ⟨b, o, none⟩)) :
    Calls Try.prog 39 #[.slice (some ⟨b, o, none⟩) 1 cp] w fun e w' => e = .returned (.int .i64 2) ∧ Below w.heap.size w w' := by
  have hmf : ∀ (fn : Fn) (first cap : Array Value) (w : World), (Instr.makeFunc fn first cap).run Try.prog w = .ok (.func fn first cap) w := fun _ _ _ _ => rfl
  have hb : b < w.heap.size := by
    obtain ⟨_, h0 | ⟨b', o', he, hb, _⟩⟩ := h
    · simp [lfA, Lf.len] at h0
    · injection he with he; injection he with e1; omega
  have HA := Lib.hid ((((Below.refl _ w).alloc (Nat.le_refl _) (.cells #[.slice (some ⟨b, o, none⟩) 1 cp] 25)).alloc (by simp) (.cells #[.int .i64 0] 3)).alloc (by simp; omega) (.cells #[.int .i64 0] 28))
  have HC := Lib.hid (caught_count #[.pointer (some ⟨w.heap.size, 0, none⟩), .pointer (some ⟨w.heap.size + 1, 0, none⟩)] ((w.alloc (.cells #[.slice (some ⟨b, o, none⟩) 1 cp] 25)).alloc (.cells #[.int .i64 0] 3)) none
    (fun w1 => Below w.heap.size w w1 ∧ w1.cell? ⟨w.heap.size + 1, 0, none⟩ = some (.int .i64 2))
    ((countClosure_A b o w.heap.size (w.heap.size + 1) cp _ (h.later HA.out (by simp; omega)) (by simp [go_sem]) (by simp [go_sem]) (by simp [go_sem]) (by omega)).mono fun e w1 ⟨he, hw⟩ => by
      subst hw
      refine ⟨he, ⟨(World.cell?_setCell_other _ _ _ _ (by simp)).trans (by simp [go_sem]), by simp [go_sem]⟩, (HA.out.setCell (p := ⟨w.heap.size + 1, 0, none⟩) (Nat.le_succ _) _).drew, World.cell?_setCell_same _ _ (.int .i64 2) (by simp [go_sem]; rfl)⟩))
  clear h
  go_enter Try.func39, Try.ntmps39
  go_wp2_with (go_at_call 35; refine HC.out.mono ?_; rintro e w1 ⟨rfl, w2, ⟨hB, hn⟩, _, hw1⟩; have hn1 : w1.cell? ⟨w.heap.size + 1, 0, none⟩ = some (.int .i64 2) := (by rw [hw1]; exact (World.cell?_setCell_other _ _ _ _ (by simp)).trans hn); have HB1 := Lib.hid (show Below w.heap.size w w1 by rw [hw1]; exact hB.setCell (by simp; omega) _); clear hw1 hB hn)
  all_goals go_ret
  all_goals exact ⟨rfl, HB1.out⟩
end Go.Proofs.Ytdigkdfkaikagaa
