/- How deep terms nest, and how many there are. -/
import Derived.Test.YtdigkdfkaikagaaT5
namespace Go.Proofs.Ytdigkdfkaikagaa
open Go.RowKit

def linesW : List (List Pk) → Nat
  | [] => 0
  | l :: ls => 1 + l.length + linesW ls
mutual
def Tf.weight : Tf → Nat
  | .nil => 0
  | .node _ ls _ s r => 1 + linesW ls + s.weight + r.weight
def Ts.weight : Ts → Nat
  | .nil => 0
  | .sub l r => l.weight + r.weight
end

mutual
theorem Tf.deep_le : ∀ l : Tf, l.deep ≤ l.weight
  | .nil => Nat.le_refl _
  | .node _ ls _ s r => by
    have := Ts.deep_le s
    have := Tf.deep_le r
    simp only [Tf.deep, Tf.weight]; omega
theorem Ts.deep_le : ∀ l : Ts, l.deep ≤ l.weight
  | .nil => Nat.le_refl _
  | .sub l r => by
    have := Tf.deep_le l
    have := Ts.deep_le r
    simp only [Ts.deep, Ts.weight]; omega
end
def DeepTo (n : Nat) : Prop := ∀ (l : Tf), l.size < n → ∀ (p : Option Addr) (cap N : Nat) (w : World), l.In w N p → N ≤ w.heap.size → l.weight ≤ 1000000000 →
    Calls Try.prog 25 #[.slice p l.len cap] w fun e w' => e = .returned (.tuple #[.int .i64 l.deep, .int .i64 l.weight]) ∧ Below w.heap.size w w'

set_option maxHeartbeats 3200000 in
theorem deep_step (n : Nat) (ih : DeepTo n) : DeepTo (n + 1) := by
  intro l hsz p cap N w h hN hwt
  have IH := Lib.hid ih
  clear ih
  have S0 := Lib.hid h
  have hm := h.1
  clear h
  go_enter Try.func25, Try.ntmps25
  go_wp2_with fail
  go_loopw [4, 5, 6] (fun g m i wr => ∃ (k : Nat) (r : Tf) (dm dn : Nat), g = .int .i64 dm ∧ m = .int .i64 dn ∧ i = .int .i64 k ∧ k + r.len = l.len ∧ r.size ≤ n ∧ Hid (∀ b o, p = some ⟨b, o, none⟩ → l.At w N b o → r.At w N b (o + k * 4)) ∧ Hid (l.deep = max dm r.deep) ∧ l.weight = dn + r.weight ∧ Hid (Below w.heap.size w wr))
    (fun _ _ i _ => l.len - (intOf i).toNat)
  case atStart => exact ⟨0, l, 0, 0, rfl, rfl, rfl, by omega, by omega, Lib.hid fun b o _ h => by rw [Nat.zero_mul]; exact h, Lib.hid (by simp), by simp, Lib.hid (Below.refl _ _)⟩
  case round =>
    obtain ⟨k, r, dm, dn, rfl, rfl, rfl, hk, hrs, hat, ED, EW, hB⟩ := hrel
    cases r with
    | nil =>
      simp only [Tf.len] at hk
      simp only [Tf.weight] at EW
      have hge : ¬ k < l.len := by omega
      have HB := Lib.hid (show l.deep = dm ∧ l.weight = dn from ⟨by rw [ED.out]; simp [Tf.deep], by omega⟩)
      go_wp2_with fail
      go_ret2
      exact ⟨by rw [HB.out.1, HB.out.2]; rfl, hB.out⟩
    | node kd ls t s r =>
      simp only [Tf.len] at hk
      simp only [Tf.size] at hrs
      simp only [Tf.weight] at EW
      have hlt : k < l.len := by omega
      rcases S0.out.2 with h30 | ⟨b, o, rfl, hb, ha⟩
      · omega
      obtain ⟨g0, ⟨q, cq, g1, s1⟩, g2, ⟨q3, d, g3, s3⟩, hr⟩ := hat.out b o rfl ha
      have f1 := (hB.out.cell (show b < w.heap.size by omega)).trans g1
      have f3 := (hB.out.cell (show b < w.heap.size by omega)).trans g3
      have HQ := Lib.hid hr
      have S3 := Lib.hid s3
      have hm3 := s3.1
      have S1 := Lib.hid s1
      have hm1 := s1.1
      clear hr ha s1 s3 g0 g2
      go_wp2_with fail
      go_loopw [5, 8] (fun g i wr' => ∃ (ds rs : List (List Pk)) (dn2 : Nat), g = .int .i64 dn2 ∧ i = .int .i64 ds.length ∧ ds.length + rs.length = ls.length ∧ Hid (ls = ds ++ rs) ∧ l.weight = dn2 + linesW rs + s.weight + r.weight ∧ wr' = wr)
        (fun _ i _ => ls.length - (intOf i).toNat)
      case atStart => exact ⟨[], ls, dn + 1, by go_num, rfl, by simp, Lib.hid rfl, by omega, rfl⟩
      case round =>
        obtain ⟨ds, rs, dn2, rfl, rfl, hj2, hE2, hw2, rfl⟩ := hrel
        cases rs with
        | nil =>
          simp only [List.length_nil] at hj2
          simp only [linesW] at hw2
          have hge : ¬ ds.length < ls.length := by omega
          go_wp2_with fail
          clear hE2
          go_loopw [5, 7, 9] (fun g h i wr' => ∃ (j : Nat) (z : Ts) (dn3 hh : Nat), g = .int .i64 dn3 ∧ h = .int .i64 hh ∧ i = .int .i64 j ∧ j + z.len = s.len ∧ z.size ≤ s.size ∧ Hid (∀ b o, q3 = some ⟨b, o, none⟩ → s.At w N b o → z.At w N b (o + j)) ∧
              l.weight = dn3 + z.weight + r.weight ∧ Hid (1 + s.deep = max hh (1 + z.deep)) ∧ Hid (1 ≤ hh) ∧ hh ≤ 1000000001 ∧ Hid (Below w.heap.size w wr'))
            (fun _ _ i _ => s.len - (intOf i).toNat)
          case atStart => exact ⟨0, s, dn2, 1, rfl, rfl, rfl, by omega, Nat.le_refl _, Lib.hid fun b o _ h => h, by omega, Lib.hid (by omega), Lib.hid (Nat.le_refl _), by omega, hB⟩
          case round =>
            clear f1 f3 hB hw2 EW
            obtain ⟨j, z, dn3, hh, rfl, rfl, rfl, hj3, hzs, hzat, hw3, E3, hh1, hh2, hB⟩ := hrel
            have f1 := (hB.out.cell (show b < w.heap.size by omega)).trans g1
            have f3 := (hB.out.cell (show b < w.heap.size by omega)).trans g3
            cases z with
            | nil =>
              simp only [Ts.len] at hj3
              simp only [Ts.weight] at hw3
              have hge : ¬ j < s.len := by omega
              have E4 := Lib.hid (show l.deep = max dm (max hh r.deep) by
                have h1 := ED.out; have h2 := E3.out; have h3 := hh1.out
                simp only [Tf.deep, Ts.deep] at h1 h2; omega)
              go_wp2_with fail
              · go_roundw
                case rel => exact ⟨k + 1, r, hh, dn3, rfl, rfl, by go_num, by omega, by omega, Lib.hid fun b' o' hbo _ => by cases hbo; exact At_stepT HQ.out, Lib.hid (by rw [E4.out]; omega), by omega, hB⟩
                case measure => simp [intOf]; omega
              · go_roundw
                case rel => exact ⟨k + 1, r, dm, dn3, rfl, rfl, by go_num, by omega, by omega, Lib.hid fun b' o' hbo _ => by cases hbo; exact At_stepT HQ.out, Lib.hid (by rw [E4.out]; omega), by omega, hB⟩
                case measure => simp [intOf]; omega
            | sub l2 r2 =>
              rcases S3.out.2 with h30 | ⟨b3, o3, rfl, hb3, ha3⟩
              · simp only [Ts.len] at hj3; omega
              obtain ⟨⟨q4, c4, g4, s4⟩, hzz⟩ := hzat.out b3 o3 rfl ha3
              simp only [Ts.len] at hj3
              simp only [Ts.size] at hzs
              simp only [Ts.weight] at hw3
              have hlt3 : j < s.len := by omega
              have f4 := (hB.out.cell (show b3 < w.heap.size by omega)).trans g4
              have HR := Lib.hid (IH.out l2 (by omega) q4 c4 N _ (s4.imp (Nat.le_refl _) fun b' o' hb' ha' => Tf.At.later (hB.out.mono hN) (Nat.le_refl _) _ _ _ hb' ha') (Nat.le_trans hN hB.out.size) (by omega))
              have HZ := Lib.hid hzz
              have hdl := Tf.deep_le l2
              have hdl2 : l2.deep ≤ 1000000000 := by omega
              clear g4 s4 hzz ha3
              go_wp2_with (go_at_call 25; refine HR.out.mono ?_; rintro e w1 ⟨rfl, hB1⟩)
              · go_roundw
                case rel => exact ⟨j + 1, r2, dn3 + l2.weight, l2.deep + 1, by go_num, by go_num, by go_num, by omega, by omega, Lib.hid fun b' o' hbo _ => by cases hbo; exact HZ.out, by omega,
                  Lib.hid (by have h2 := E3.out; simp only [Ts.deep] at h2; omega), Lib.hid (by omega), by omega, Lib.hid (hB.out.trans (hB1.mono hB.out.size))⟩
                case measure => simp [intOf]; omega
              · go_roundw
                case rel => exact ⟨j + 1, r2, dn3 + l2.weight, hh, by go_num, rfl, by go_num, by omega, by omega, Lib.hid fun b' o' hbo _ => by cases hbo; exact HZ.out, by omega,
                  Lib.hid (by have h2 := E3.out; simp only [Ts.deep] at h2; omega), hh1, hh2, Lib.hid (hB.out.trans (hB1.mono hB.out.size))⟩
                case measure => simp [intOf]; omega
        | cons x rs =>
          simp only [List.length_cons] at hj2
          simp only [linesW] at hw2
          have hlt2 : ds.length < ls.length := by omega
          rcases S1.out.2 with h31 | ⟨b1, o1, rfl, hb1, ha1⟩
          · omega
          rw [hE2.out] at ha1
          obtain ⟨⟨q5, c5, g5, s5⟩, _⟩ := Plines.drop _ _ _ _ ha1
          have f5 := (hB.out.cell (show b1 < w.heap.size by omega)).trans g5
          have hxl := s5.1
          clear ha1 g5 s5
          go_wp2_with fail
          go_roundw
          case rel => exact ⟨ds ++ [x], rs, dn2 + 1 + x.length, by go_num, by rw [List.length_append]; go_num, by simp; omega, Lib.hid (by rw [hE2.out]; simp), by omega, trivial⟩
          case measure => simp [intOf]; omega

theorem deep_to : ∀ n, DeepTo n
  | 0 => fun _ h => absurd h (Nat.not_lt_zero _)
  | n + 1 => deep_step n (deep_to n)

set_option maxHeartbeats 1600000 in
theorem small_any (l : Tf) (p : Option Addr) (cap N : Nat) (w : World) (h : l.In w N p) (hN : N ≤ w.heap.size) (hw : l.weight ≤ 1000000000) :
    Calls Try.prog 8 #[.slice p l.len cap] w fun e w' => e = .returned (.bool (decide (l.deep ≤ 60) && decide (l.weight ≤ 3000))) ∧ Below w.heap.size w w' := by
  have HD := Lib.hid (deep_to _ l (Nat.lt_succ_self _) p cap N w h hN hw)
  clear h
  go_enter Try.func8, Try.ntmps8
  go_wp2_with (go_at_call 25; refine HD.out.mono ?_; rintro e w1 ⟨rfl, hB⟩)
  all_goals go_ret
  all_goals exact ⟨ret_bool (by apply bool_of; simp; omega), hB⟩
end Go.Proofs.Ytdigkdfkaikagaa
