/- May terms stand behind a call; has a term as many lists as its kind has? -/
import Derived.Test.YtdigkdfkaikagaaT3
namespace Go.Proofs.Ytdigkdfkaikagaa
open Go.RowKit

def Tf.behind : Tf → Bool
  | .nil => true
  | .node k ls _ _ r => k == 2 && decide (greatestL ls < 0) && r.behind
def Ts.second : Ts → Tf
  | .sub _ (.sub l _) => l
  | _ => .nil
def subsOk (k : Int) (ns : Nat) (bh : Bool) : Bool :=
  if k = 6 then true
  else if k = 1 ∨ k = 2 ∨ k = 8 then ns == 0
  else if k = 4 ∨ k = 5 ∨ k = 9 then ns == 1
  else if k = 7 then ns == 2 && bh
  else if k = 3 then ns == 2
  else false
theorem At_stepT {N b o k : Nat} {r : Tf} {w : World} (h : r.At w N b (o + k * 4 + 4)) : r.At w N b (o + (k + 1) * 4) := by
  rw [show o + (k + 1) * 4 = o + k * 4 + 4 by omega]; exact h

set_option maxHeartbeats 1600000 in
theorem behind_any (l : Tf) (p : Option Addr) (cap N : Nat) (w : World) (h : l.In w N p) (hN : N ≤ w.heap.size) :
    Calls Try.prog 49 #[.slice p l.len cap] w fun e w' => e = .returned (.bool l.behind) ∧ Below w.heap.size w w' := by
  have S0 := Lib.hid h
  have hm := h.1
  clear h
  go_enter Try.func49, Try.ntmps49
  go_wp2_with fail
  go_loopw [6] (fun i wr => ∃ (k : Nat) (r : Tf), i = .int .i64 k ∧ k + r.len = l.len ∧ Hid (∀ b o, p = some ⟨b, o, none⟩ → l.At w N b o → r.At w N b (o + k * 4)) ∧ Hid (l.behind = r.behind) ∧ Hid (Below w.heap.size w wr))
    (fun i _ => l.len - (intOf i).toNat)
  case atStart => exact ⟨0, l, rfl, by omega, Lib.hid fun b o _ h => by rw [Nat.zero_mul]; exact h, Lib.hid rfl, Lib.hid (Below.refl _ _)⟩
  case round =>
    obtain ⟨k, r, rfl, hk, hat, E, hB⟩ := hrel
    cases r with
    | nil =>
      simp only [Tf.len] at hk
      have hge : ¬ k < l.len := by omega
      go_wp2_with fail
      go_ret
      exact ⟨ret_bool (by rw [E.out]; rfl), hB.out⟩
    | node kd ls t s r =>
      simp only [Tf.len] at hk
      have hlt : k < l.len := by omega
      rcases S0.out.2 with h30 | ⟨b, o, rfl, hb, ha⟩
      · omega
      obtain ⟨g0, ⟨q, cq, g1, s1⟩, g2, ⟨q3, d, g3, s3⟩, hr⟩ := hat.out b o rfl ha
      have f0 := (hB.out.cell (show b < w.heap.size by omega)).trans g0
      have f1 := (hB.out.cell (show b < w.heap.size by omega)).trans g1
      have HG := Lib.hid (greatest_any ls q cq N wr (s1.imp (Nat.le_refl _) fun b' o' hb' ha' => Plines.later (hB.out.mono hN) (Nat.le_refl _) _ _ _ hb' ha') (Nat.le_trans hN hB.out.size))
      have E1 := Lib.hid (show l.behind = (kd == 2 && decide (greatestL ls < 0) && r.behind) by rw [E.out]; rfl)
      have HQ := Lib.hid hr
      clear g0 g1 g2 g3 s1 s3 hr ha
      go_wp2_with (go_at_call 68; refine HG.out.mono ?_; rintro e w1 ⟨rfl, hB1⟩)
      · go_ret
        exact ⟨ret_bool (by rw [E1.out, decide_eq_false (by omega)]; simp), hB.out.trans (hB1.mono hB.out.size)⟩
      · go_roundw
        case rel => exact ⟨k + 1, r, by go_num, by omega, Lib.hid fun b' o' hbo _ => by cases hbo; exact At_stepT HQ.out, Lib.hid (by rw [E1.out, decide_eq_true (by omega)]; simp [*]), Lib.hid (hB.out.trans (hB1.mono hB.out.size))⟩
        case measure => simp [intOf]; omega
      · have hk2 : ¬ kd = 2 := by assumption
        go_ret
        exact ⟨ret_bool (by rw [E1.out]; simp [hk2]), hB.out⟩

set_option maxHeartbeats 1600000 in
theorem hasSubs_any (k : Int) (s : Ts) (q : Option Addr) (d b o N : Nat) (w : World) (hN : N ≤ w.heap.size)
    (h0 : w.cell? ⟨b, o, none⟩ = some (.int .i64 k)) (h3 : w.cell? ⟨b, o + 3, none⟩ = some (.slice q s.len d)) (h : s.In w N q) :
    Calls Try.prog 27 #[.pointer (some ⟨b, o, none⟩)] w fun e w' => e = .returned (.bool (subsOk k s.len s.second.behind)) ∧ Below w.heap.size w w' := by
  by_cases h7 : k = 7 ∧ s.len = 2
  · obtain ⟨rfl, hs⟩ := h7
    obtain ⟨l0, l1, rfl⟩ : ∃ l0 l1, s = .sub l0 (.sub l1 .nil) := by
      cases s with
      | nil => simp [Ts.len] at hs
      | sub l0 r0 => cases r0 with
        | nil => simp [Ts.len] at hs
        | sub l1 r1 => cases r1 with | nil => exact ⟨l0, l1, rfl⟩ | sub => simp [Ts.len] at hs
    rcases h.2 with h30 | ⟨b3, o3, rfl, hb3, ha3⟩
    · omega
    obtain ⟨_, ⟨p1, c1, g5, s5⟩, _⟩ := ha3
    have HA := Lib.hid (behind_any l1 p1 c1 N w s5 hN)
    have E5 := Lib.hid (show subsOk 7 (Ts.sub l0 (.sub l1 .nil)).len (Ts.sub l0 (.sub l1 .nil)).second.behind = l1.behind by simp [subsOk, Ts.len, Ts.second])
    have E6 := Lib.hid hs
    rw [hs] at h3
    have hbl : b < w.heap.size := World.block_lt_of_cell? _ _ h0
    clear s5 hs h
    cases h5 : l1.behind with
    | false =>
      rw [h5] at HA E5
      rw [E5.out]
      go_enter Try.func27, Try.ntmps27
      go_wp2_with (go_at_call 49; refine HA.out.mono ?_; rintro e w1 ⟨rfl, hB1⟩)
      go_ret
      exact ⟨rfl, hB1⟩
    | true =>
      rw [h5] at HA E5
      rw [E5.out]
      go_enter Try.func27, Try.ntmps27
      go_wp2_with (go_at_call 49; refine HA.out.mono ?_; rintro e w1 ⟨rfl, hB1⟩; have h3 := (hB1.cell hbl).trans h3)
      go_ret
      exact ⟨rfl, hB1⟩
  · obtain ⟨n, hn⟩ : ∃ n, n = s.len := ⟨_, rfl⟩
    rw [← hn] at h3 h7 ⊢
    have H7 := Lib.hid h7
    generalize s.second.behind = bh
    have hB0 := Lib.hid (Below.refl w.heap.size w)
    have hnk : k = 7 → ¬ n = 2 := fun h e => h7 ⟨h, e⟩
    clear h hn
    by_cases hk7 : k = 7
    · subst hk7
      have hn2 := hnk rfl
      have hn2' : ((n : Int) != 2) = true := by simp; omega
      clear h7 hnk
      go_enter Try.func27, Try.ntmps27
      go_wp2_with fail
      go_ret
      exact ⟨ret_bool (by simp [subsOk, hn2]), hB0.out⟩
    · have hk7' : (k == 7) = false := beq_eq_false_iff_ne.2 hk7
      clear h7 hnk
      go_enter Try.func27, Try.ntmps27
      go_wp2_with fail
      all_goals go_ret
      all_goals refine ⟨ret_bool ?_, hB0.out⟩
      all_goals (apply bool_of; simp_all [subsOk]; try omega)
end Go.Proofs.Ytdigkdfkaikagaa
