/- How deep leakage nests, and how much there is: the document's. -/
import Derived.Test.YtcadeeldogknmaaFM
namespace Go.Proofs.Ytcadeeldogknmaa
open Go.RowKit

mutual
def Lf.weight : Lf → Nat
  | .nil => 0
  | .node _ is _ s r => 1 + is.length + s.weight + r.weight
def Ls.weight : Ls → Nat
  | .nil => 0
  | .sub l r => l.weight + r.weight
end
def CountTo (n : Nat) : Prop := ∀ (l : Lf), l.size < n → ∀ (p : Option Addr) (cap N : Nat) (w : World), l.In w N p → N ≤ w.heap.size → l.weight ≤ 1000000000 →
    Calls Try.prog 13 #[.slice p l.len cap] w fun e w' => e = .returned (.int .i64 l.weight) ∧ Below w.heap.size w w'

theorem At_stepL {N b o k : Nat} {r : Lf} {w : World} (h : r.At w N b (o + k * 4 + 4)) : r.At w N b (o + (k + 1) * 4) := by
  rw [show o + (k + 1) * 4 = o + k * 4 + 4 by omega]; exact h
set_option maxHeartbeats 3200000 in
theorem count_step (n : Nat) (ih : CountTo n) : CountTo (n + 1) := by
  intro l hsz p cap N w h hN hwt
  have IH := Lib.hid ih
  clear ih
  have S0 := Lib.hid h
  have hm := h.1
  clear h
  go_enter Try.func13, Try.ntmps13
  go_wp2_with fail
  go_loopw [3, 4] (fun g i wr => ∃ (k : Nat) (r : Lf) (dn : Nat), g = .int .i64 dn ∧ i = .int .i64 k ∧ k + r.len = l.len ∧ r.size ≤ n ∧ Hid (∀ b o, p = some ⟨b, o, none⟩ → l.At w N b o → r.At w N b (o + k * 4)) ∧ l.weight = dn + r.weight ∧ Hid (Below w.heap.size w wr))
    (fun _ i _ => l.len - (intOf i).toNat)
  case atStart => exact ⟨0, l, 0, rfl, rfl, by omega, by omega, Lib.hid fun b o _ h => by rw [Nat.zero_mul]; exact h, by simp, Lib.hid (Below.refl _ _)⟩
  case round =>
    obtain ⟨k, r, dn, rfl, rfl, hk, hrs, hat, EW, hB⟩ := hrel
    cases r with
    | nil =>
      simp only [Lf.len] at hk
      simp only [Lf.weight] at EW
      have hge : ¬ k < l.len := by omega
      have HB := Lib.hid (show l.weight = dn by omega)
      go_wp2_with fail
      go_ret
      exact ⟨by rw [HB.out]; rfl, hB.out⟩
    | node kd is t s r =>
      simp only [Lf.len] at hk
      simp only [Lf.size] at hrs
      simp only [Lf.weight] at EW
      have hlt : k < l.len := by omega
      rcases S0.out.2 with h30 | ⟨b, o, rfl, hb, ha⟩
      · omega
      obtain ⟨g0, ⟨q, cq, g1, s1⟩, g2, ⟨q3, d, g3, s3⟩, hr⟩ := hat.out b o rfl ha
      have f1 := (hB.out.cell (show b < w.heap.size by omega)).trans g1
      have f3 := (hB.out.cell (show b < w.heap.size by omega)).trans g3
      have HQ := Lib.hid hr
      have S3 := Lib.hid s3
      have hm3 := s3.1
      have hm1 := s1.1
      clear hr ha s1 s3 g0 g2
      go_wp2_with fail
      go_loopw [3, 5] (fun g i wr' => ∃ (j : Nat) (z : Ls) (dn3 : Nat), g = .int .i64 dn3 ∧ i = .int .i64 j ∧ j + z.len = s.len ∧ z.size ≤ s.size ∧ Hid (∀ b o, q3 = some ⟨b, o, none⟩ → s.At w N b o → z.At w N b (o + j)) ∧
          l.weight = dn3 + z.weight + r.weight ∧ Hid (Below w.heap.size w wr'))
        (fun _ i _ => s.len - (intOf i).toNat)
      case atStart => exact ⟨0, s, dn + 1 + is.length, by go_num, rfl, by omega, Nat.le_refl _, Lib.hid fun b o _ h => h, by omega, hB⟩
      case round =>
        clear f1 f3 hB EW
        obtain ⟨j, z, dn3, rfl, rfl, hj3, hzs, hzat, hw3, hB⟩ := hrel
        have f3 := (hB.out.cell (show b < w.heap.size by omega)).trans g3
        cases z with
        | nil =>
          simp only [Ls.len] at hj3
          simp only [Ls.weight] at hw3
          have hge : ¬ j < s.len := by omega
          go_wp2_with fail
          go_roundw
          case rel => exact ⟨k + 1, r, dn3, rfl, by go_num, by omega, by omega, Lib.hid fun b' o' hbo _ => by cases hbo; exact At_stepL HQ.out, by omega, hB⟩
          case measure => simp [intOf]; omega
        | sub l2 r2 =>
          rcases S3.out.2 with h30 | ⟨b3, o3, rfl, hb3, ha3⟩
          · simp only [Ls.len] at hj3; omega
          obtain ⟨⟨q4, c4, g4, s4⟩, hzz⟩ := hzat.out b3 o3 rfl ha3
          simp only [Ls.len] at hj3
          simp only [Ls.size] at hzs
          simp only [Ls.weight] at hw3
          have hlt3 : j < s.len := by omega
          have f4 := (hB.out.cell (show b3 < w.heap.size by omega)).trans g4
          have HR := Lib.hid (IH.out l2 (by omega) q4 c4 N _ (s4.imp (Nat.le_refl _) fun b' o' hb' ha' => Lf.At.later (hB.out.mono hN) (Nat.le_refl _) _ _ _ hb' ha') (Nat.le_trans hN hB.out.size) (by omega))
          have HZ := Lib.hid hzz
          clear g4 s4 hzz ha3
          go_wp2_with (go_at_call 13; refine HR.out.mono ?_; rintro e w1 ⟨rfl, hB1⟩)
          go_roundw
          case rel => exact ⟨j + 1, r2, dn3 + l2.weight, by go_num, by go_num, by omega, by omega, Lib.hid fun b' o' hbo _ => by cases hbo; exact HZ.out, by omega, Lib.hid (hB.out.trans (hB1.mono hB.out.size))⟩
          case measure => simp [intOf]; omega

mutual
def Lf.depth : Lf → Nat
  | .nil => 0
  | .node _ _ _ s r => max (1 + s.depth) r.depth
def Ls.depth : Ls → Nat
  | .nil => 0
  | .sub l r => max l.depth r.depth
end
mutual
theorem Lf.depth_le : ∀ l : Lf, l.depth ≤ l.weight
  | .nil => Nat.le_refl _
  | .node _ is _ s r => by
    have := Ls.depth_le s
    have := Lf.depth_le r
    simp only [Lf.depth, Lf.weight]; omega
theorem Ls.depth_le : ∀ l : Ls, l.depth ≤ l.weight
  | .nil => Nat.le_refl _
  | .sub l r => by
    have := Lf.depth_le l
    have := Ls.depth_le r
    simp only [Ls.depth, Ls.weight]; omega
end
def DepthTo (n : Nat) : Prop := ∀ (l : Lf), l.size < n → ∀ (p : Option Addr) (cap N : Nat) (w : World), l.In w N p → N ≤ w.heap.size → l.weight ≤ 1000000000 →
    Calls Try.prog 12 #[.slice p l.len cap] w fun e w' => e = .returned (.int .i64 l.depth) ∧ Below w.heap.size w w'

set_option maxHeartbeats 3200000 in
theorem depth_step (n : Nat) (ih : DepthTo n) : DepthTo (n + 1) := by
  intro l hsz p cap N w h hN hwt
  have IH := Lib.hid ih
  clear ih
  have S0 := Lib.hid h
  have hm := h.1
  clear h
  go_enter Try.func12, Try.ntmps12
  go_wp2_with fail
  go_loopw [3, 4] (fun g i wr => ∃ (k : Nat) (r : Lf) (dm : Nat), g = .int .i64 dm ∧ i = .int .i64 k ∧ k + r.len = l.len ∧ r.size ≤ n ∧ Hid (∀ b o, p = some ⟨b, o, none⟩ → l.At w N b o → r.At w N b (o + k * 4)) ∧ Hid (l.depth = max dm r.depth) ∧ r.weight ≤ 1000000000 ∧ Hid (Below w.heap.size w wr))
    (fun _ i _ => l.len - (intOf i).toNat)
  case atStart => exact ⟨0, l, 0, rfl, rfl, by omega, by omega, Lib.hid fun b o _ h => by rw [Nat.zero_mul]; exact h, Lib.hid (by simp), hwt, Lib.hid (Below.refl _ _)⟩
  case round =>
    obtain ⟨k, r, dm, rfl, rfl, hk, hrs, hat, ED, EW, hB⟩ := hrel
    cases r with
    | nil =>
      simp only [Lf.len] at hk
      have hge : ¬ k < l.len := by omega
      have HB := Lib.hid (show l.depth = dm by rw [ED.out]; simp [Lf.depth])
      go_wp2_with fail
      go_ret
      exact ⟨by rw [HB.out]; rfl, hB.out⟩
    | node kd is t s r =>
      simp only [Lf.len] at hk
      simp only [Lf.size] at hrs
      simp only [Lf.weight] at EW
      have hlt : k < l.len := by omega
      rcases S0.out.2 with h30 | ⟨b, o, rfl, hb, ha⟩
      · omega
      obtain ⟨g0, ⟨q, cq, g1, s1⟩, g2, ⟨q3, d, g3, s3⟩, hr⟩ := hat.out b o rfl ha
      have f3 := (hB.out.cell (show b < w.heap.size by omega)).trans g3
      have HQ := Lib.hid hr
      have S3 := Lib.hid s3
      have hm3 := s3.1
      clear hr ha s1 s3 g0 g2 g1
      go_wp2_with fail
      go_loopw [5, 6] (fun h i wr' => ∃ (j : Nat) (z : Ls) (hh : Nat), h = .int .i64 hh ∧ i = .int .i64 j ∧ j + z.len = s.len ∧ z.size ≤ s.size ∧ Hid (∀ b o, q3 = some ⟨b, o, none⟩ → s.At w N b o → z.At w N b (o + j)) ∧
          z.weight ≤ s.weight ∧ Hid (1 + s.depth = max hh (1 + z.depth)) ∧ Hid (1 ≤ hh) ∧ hh ≤ 1000000001 ∧ Hid (Below w.heap.size w wr'))
        (fun _ i _ => s.len - (intOf i).toNat)
      case atStart => exact ⟨0, s, 1, rfl, rfl, by omega, Nat.le_refl _, Lib.hid fun b o _ h => h, Nat.le_refl _, Lib.hid (by omega), Lib.hid (Nat.le_refl _), by omega, hB⟩
      case round =>
        clear f3 hB
        obtain ⟨j, z, hh, rfl, rfl, hj3, hzs, hzat, hw3, E3, hh1, hh2, hB⟩ := hrel
        have f3 := (hB.out.cell (show b < w.heap.size by omega)).trans g3
        cases z with
        | nil =>
          simp only [Ls.len] at hj3
          have hge : ¬ j < s.len := by omega
          have E4 := Lib.hid (show l.depth = max dm (max hh r.depth) by
            have h1 := ED.out; have h2 := E3.out; have h3 := hh1.out
            simp only [Lf.depth, Ls.depth] at h1 h2; omega)
          go_wp2_with fail
          · go_roundw
            case rel => exact ⟨k + 1, r, hh, rfl, by go_num, by omega, by omega, Lib.hid fun b' o' hbo _ => by cases hbo; exact At_stepL HQ.out, Lib.hid (by rw [E4.out]; omega), by omega, hB⟩
            case measure => simp [intOf]; omega
          · go_roundw
            case rel => exact ⟨k + 1, r, dm, rfl, by go_num, by omega, by omega, Lib.hid fun b' o' hbo _ => by cases hbo; exact At_stepL HQ.out, Lib.hid (by rw [E4.out]; omega), by omega, hB⟩
            case measure => simp [intOf]; omega
        | sub l2 r2 =>
          rcases S3.out.2 with h30 | ⟨b3, o3, rfl, hb3, ha3⟩
          · simp only [Ls.len] at hj3; omega
          obtain ⟨⟨q4, c4, g4, s4⟩, hzz⟩ := hzat.out b3 o3 rfl ha3
          simp only [Ls.len] at hj3
          simp only [Ls.size] at hzs
          simp only [Ls.weight] at hw3
          have hlt3 : j < s.len := by omega
          have f4 := (hB.out.cell (show b3 < w.heap.size by omega)).trans g4
          have HR := Lib.hid (IH.out l2 (by omega) q4 c4 N _ (s4.imp (Nat.le_refl _) fun b' o' hb' ha' => Lf.At.later (hB.out.mono hN) (Nat.le_refl _) _ _ _ hb' ha') (Nat.le_trans hN hB.out.size) (by omega))
          have HZ := Lib.hid hzz
          have hdl := Lf.depth_le l2
          have hdl2 : l2.depth ≤ 1000000000 := by omega
          clear g4 s4 hzz ha3
          go_wp2_with (go_at_call 12; refine HR.out.mono ?_; rintro e w1 ⟨rfl, hB1⟩)
          · go_roundw
            case rel => exact ⟨j + 1, r2, l2.depth + 1, by go_num, by go_num, by omega, by omega, Lib.hid fun b' o' hbo _ => by cases hbo; exact HZ.out, by omega,
              Lib.hid (by have h2 := E3.out; simp only [Ls.depth] at h2; omega), Lib.hid (by omega), by omega, Lib.hid (hB.out.trans (hB1.mono hB.out.size))⟩
            case measure => simp [intOf]; omega
          · go_roundw
            case rel => exact ⟨j + 1, r2, hh, rfl, by go_num, by omega, by omega, Lib.hid fun b' o' hbo _ => by cases hbo; exact HZ.out, by omega,
              Lib.hid (by have h2 := E3.out; simp only [Ls.depth] at h2; omega), hh1, hh2, Lib.hid (hB.out.trans (hB1.mono hB.out.size))⟩
            case measure => simp [intOf]; omega

theorem depth_to : ∀ n, DepthTo n
  | 0 => fun _ h => absurd h (Nat.not_lt_zero _)
  | n + 1 => depth_step n (depth_to n)
theorem count_to : ∀ n, CountTo n
  | 0 => fun _ h => absurd h (Nat.not_lt_zero _)
  | n + 1 => count_step n (count_to n)
set_option maxHeartbeats 1600000 in
theorem few_any (l : Lf) (p : Option Addr) (cap N : Nat) (w : World) (h : l.In w N p) (hN : N ≤ w.heap.size) (hw : l.weight ≤ 1000000000) :
    Calls Try.prog 5 #[.slice p l.len cap] w fun e w' => e = .returned (.bool (decide (l.depth ≤ 60) && decide (l.weight ≤ 3000))) ∧ Below w.heap.size w w' := by
  have HD := Lib.hid (depth_to _ l (Nat.lt_succ_self _) p cap N w h hN hw)
  have HC := Lib.hid (fun (w1 : World) (hb : Below w.heap.size w w1) => count_to _ l (Nat.lt_succ_self _) p cap N w1 (h.later (hb.mono hN) (Nat.le_refl _)) (Nat.le_trans hN hb.size) hw)
  have hdl := Lf.depth_le l
  clear h
  go_enter Try.func5, Try.ntmps5
  go_wp2_with (go_at_call 12; refine HD.out.mono ?_; rintro e w1 ⟨rfl, hB⟩)
  case isTrue =>
    refine (HC.out w1 hB).mono ?_
    rintro e w2 ⟨rfl, hB2⟩
    have hB3 := hB.trans (hB2.mono hB.size)
    go_wp2_with fail
    all_goals go_ret
    all_goals exact ⟨ret_bool (by apply bool_of; simp; omega), hB3⟩
  · go_ret
    exact ⟨ret_bool (by apply bool_of; simp; omega), hB⟩
end Go.Proofs.Ytcadeeldogknmaa
