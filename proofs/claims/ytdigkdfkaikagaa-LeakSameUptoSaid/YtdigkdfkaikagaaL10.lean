/- Flat. -/
import Derived.Test.YtdigkdfkaikagaaL9
namespace Go.Proofs.Ytdigkdfkaikagaa
open Go.RowKit

theorem own_le {w : World} {base base' size n : Nat} {e : TypeId} {v : Value} {xs : List Value} (h : w.ownsRow base e size v n xs) (hb : base' ≤ base) : w.ownsRow base' e size v n xs := by
  refine ⟨h.1, ?_⟩
  rcases h.2 with hn | ⟨g, cap, cur, hv, hg, hr⟩
  · exact .inl hn
  · exact .inr ⟨g, cap, cur, hv, Nat.le_trans hb hg, hr⟩

mutual
theorem Lf.meas_ok : ∀ (l : Lf) (deep : Nat) (x y : Int), 0 ≤ x → l.meas deep x = .ok y → y = x - l.count ∧ 0 ≤ y
  | .nil, _, _, _, h0, h => by simp only [Lf.meas, Except.ok.injEq] at h; subst h; simp [Lf.count]; exact h0
  | .node _ is _ s r, deep, x, y, h0, h => by
    simp only [Lf.meas] at h
    split at h
    · cases h
    · split at h
      · cases h
      · split at h
        · rename_i z hz
          have h1 := Ls.meas_ok s (deep + 1) _ _ (by omega) hz
          have h2 := Lf.meas_ok r deep _ _ h1.2 h
          simp only [Lf.count]; omega
        · cases h
theorem Ls.meas_ok : ∀ (l : Ls) (deep : Nat) (x y : Int), 0 ≤ x → l.meas deep x = .ok y → y = x - l.count ∧ 0 ≤ y
  | .nil, _, _, _, h0, h => by simp only [Ls.meas, Except.ok.injEq] at h; subst h; simp [Ls.count]; exact h0
  | .sub l r, deep, x, y, h0, h => by
    simp only [Ls.meas] at h
    split at h
    · rename_i z hz
      have h1 := Lf.meas_ok l deep _ _ h0 hz
      have h2 := Ls.meas_ok r deep _ _ h1.2 h
      simp only [Ls.count]; omega
    · cases h
end
theorem check_count {l : Lf} (h : l.check = 0) : l.count ≤ 1000000 := by
  unfold Lf.check at h
  cases hA : l.meas 1 1000000 with
  | ok y => have := Lf.meas_ok l 1 1000000 y (by omega) hA; omega
  | error y => rw [hA] at h; simp only [errOf] at h; rcases Lf.meas_err l _ _ _ hA with rfl | rfl <;> omega

set_option maxHeartbeats 1600000 in
theorem Flat_bad (l : Lf) (p : Option Addr) (cap N : Nat) (w : World) (h : l.In w N p) (hN : N ≤ w.heap.size) (hc : (l.check == 0) = false) :
    Calls Try.prog 22 #[.slice p l.len cap] w fun e w1 => e = .returned (.tuple #[.slice none 0 0, .int .i64 l.check]) ∧ Below w.heap.size w w1 := by
  have HM := Lib.hid (check_any l p cap N w h hN)
  clear h
  obtain ⟨C, hC⟩ : ∃ C, C = l.check := ⟨_, rfl⟩
  rw [← hC] at HM hc ⊢
  clear hC
  have hc' : (C != 0) = true := by simp [bne, hc]
  go_enter Try.func22, Try.ntmps22
  go_wp2_with (go_at_call 33; refine HM.out.mono ?_; rintro e w1 ⟨rfl, hB⟩)
  go_ret2
  exact ⟨rfl, hB⟩
set_option maxHeartbeats 1600000 in
theorem Flat_ok (l : Lf) (p : Option Addr) (cap N : Nat) (w : World) (h : l.In w N p) (hN : N ≤ w.heap.size) (hc : l.check = 0) :
    Calls Try.prog 22 #[.slice p l.len cap] w fun e w1 => ∃ v, e = .returned (.tuple #[v, .int .i64 0]) ∧ Below w.heap.size w w1 ∧ w1.ownsRow w.heap.size 48 3 v l.flat.length (snCells l.flat) := by
  have hmf : ∀ (fn : Fn) (first cap : Array Value) (w : World), (Instr.makeFunc fn first cap).run Try.prog w = .ok (.func fn first cap) w := fun _ _ _ _ => rfl
  have HM := Lib.hid (check_any l p cap N w h hN)
  rw [hc] at HM
  have hct := check_count hc
  have HF := Lib.hid (fun (w1 : World) (hB : Below w.heap.size w w1) => flat_to _ l (Nat.lt_succ_self _) p cap N w1.heap.size 1 (w1.alloc (.cells #[.slice none 0 0] 39)) []
    (In_later h (hB.alloc hB.size _) hN) (Nat.le_trans hN hB.size) ⟨Below.refl _ _, .slice none 0 0, by simp [go_sem], by simp [go_sem], World.ownsRow_nil _ _ _ _, by simp⟩ (by simp; omega))
  clear h hc hct
  go_enter Try.func22, Try.ntmps22
  go_wp2_with (first | (go_at_call 33; refine HM.out.mono ?_; rintro e w1 ⟨rfl, hB⟩) | (go_at_call 47; refine (HF.out _ hB).mono ?_; rintro e w2 ⟨rfl, hB2, v, hv, hz, hown, hsz⟩))
  go_ret2
  refine ⟨v, rfl, (hB.alloc hB.size _).trans (hB2.mono hB.size), ?_⟩
  have hs := hB.size
  exact own_le (by simpa using hown) (by omega)
end Go.Proofs.Ytdigkdfkaikagaa
