/- Layout; two lists of regions that are the same. -/
import Derived.Test.YtigkjmjkpjjjkaaBF
import Derived.Test.YtigkjmjkpjjjkaaBE
import Derived.Test.YtigkjmjkpjjjkaaB9
namespace Go.Proofs.Ytigkjmjkpjjjkaa
open Go.RowKit

theorem clone_all (l : List Rg) (p : Option Addr) (c N : Nat) (w : World) (h : RgIn w N l p) (hN : N ≤ w.heap.size) (hl : l.length ≤ 1000000) (hp : p = none → c = 0) :
    Calls Try.prog 47 #[.slice p l.length c] w fun e w' => (∃ v, e = .returned v ∧ RgOwn w.heap.size w' l v) ∧ Below w.heap.size w w' := by
  cases p with
  | none =>
    rcases h.2 with h0 | ⟨b, o, hq, _⟩
    · have : l = [] := List.eq_nil_of_length_eq_zero h0
      subst this
      rw [hp rfl]
      refine (clone_nil w).mono ?_
      rintro e w' ⟨rfl, rfl⟩
      exact ⟨⟨_, rfl, ⟨none, 0, rfl, ⟨by simp, .inl rfl⟩, by simp, by simp, fun _ => rfl, fun _ _ h => by cases h⟩⟩, Below.refl _ _⟩
    · cases hq
  | some ad => exact clone_any l ad c N w h hN hl
set_option maxHeartbeats 400000 in
theorem layout_any (l : List Rg) (f : Nat → Nat) (B g : Nat) (w : World) (h : MemIs w B g l f) (hl : l.length ≤ 1000000) :
    Calls Try.prog 19 #[.pointer (some ⟨g, 0, none⟩)] w fun e w' => (∃ v, e = .returned v ∧ RgOwn w.heap.size w' l v) ∧ Below w.heap.size w w' := by
  have HI := Lib.hid h.isn
  obtain ⟨p, c, q, h1, h2, h3, h4, h5, h6, h7, h8, h9, h10, h11, h12, h13⟩ := h
  have HC := Lib.hid (clone_all l p c g w h4 (by omega) hl h10)
  clear h4 h10 h11 h12 h13 h2 h3
  go_enter Try.func19, Try.ntmps19
  go_wp2_with (first | (go_at_call 46; (with_reducible refine HI.out.mono ?_); rintro e w' ⟨rfl, rfl⟩) | (go_at_call 47; refine HC.out.mono ?_; rintro e w1 ⟨⟨v, rfl, hv⟩, hB⟩; have HV := Lib.hid (And.intro hv hB); clear hv hB))
  go_ret
  exact ⟨⟨v, rfl, HV.out.1⟩, HV.out.2⟩

set_option maxHeartbeats 1600000 in
theorem sameRg_eq (l : List Rg) (p p' : Option Addr) (c c' N : Nat) (w : World) (h : RgIn w N l p) (h' : RgIn w N l p') :
    Calls Try.prog 18 #[.slice p l.length c, .slice p' l.length c'] w fun e w' => e = .returned (.bool true) ∧ Below w.heap.size w w' := by
  have H1 := Lib.hid h
  have H2 := Lib.hid h'
  have hm := h.1
  clear h h'
  go_enter Try.func18, Try.ntmps18
  go_wp2_with fail
  go_loopw [5] (fun i wr => ∃ (ds rs : List Rg), i = .int .i64 ds.length ∧ Hid (l = ds ++ rs) ∧ ds.length + rs.length = l.length ∧ Hid (Below w.heap.size w wr) ∧ Hid (∀ a, wr.cell? a = w.cell? a)) (fun i _ => l.length - (intOf i).toNat)
  case atStart => exact ⟨[], l, rfl, Lib.hid rfl, by simp, Lib.hid (Below.refl _ _), Lib.hid (fun _ => rfl)⟩
  case round =>
    obtain ⟨ds, rs, rfl, hE, hk, hB, hC⟩ := hrel
    cases rs with
    | nil =>
      simp only [List.length_nil] at hk
      have hge : ¬ ds.length < l.length := by omega
      go_wp2_with fail
      go_ret
      exact ⟨rfl, hB.out⟩
    | cons r rs =>
      simp only [List.length_cons] at hk
      obtain ⟨b, o, rfl, hb, hA⟩ : ∃ b o, p = some ⟨b, o, none⟩ ∧ b < N ∧ RgAt w l b o := by
        rcases H1.out.2 with h0 | h0
        · omega
        · exact h0
      obtain ⟨b', o', rfl, hb', hA'⟩ : ∃ b o, p' = some ⟨b, o, none⟩ ∧ b < N ∧ RgAt w l b o := by
        rcases H2.out.2 with h0 | h0
        · omega
        · exact h0
      rw [hE.out] at hA hA'
      obtain ⟨⟨f0, f1, f2, f3⟩, _⟩ := RgAt.drop ds (r :: rs) b o hA
      obtain ⟨⟨e0, e1, e2, e3⟩, _⟩ := RgAt.drop ds (r :: rs) b' o' hA'
      have g0 := (hC.out _).trans f0
      have g1 := (hC.out _).trans f1
      have g2 := (hC.out _).trans f2
      have g3 := (hC.out _).trans f3
      have k0 := (hC.out _).trans e0
      have k1 := (hC.out _).trans e1
      have k2 := (hC.out _).trans e2
      have k3 := (hC.out _).trans e3
      clear hA hA' f0 f1 f2 f3 e0 e1 e2 e3
      have hlt : ds.length < l.length := by omega
      have j0 : (0 : Int) ≤ (ds.length : Int) := by omega
      have j1 : (ds.length : Int) < (l.length : Int) := by omega
      go_wp2_with fail
      go_quiet (fail)
      all_goals go_wp2_with fail
      all_goals go_roundw
      all_goals first
        | exact ⟨ds ++ [r], rs, by rw [List.length_append]; go_num, Lib.hid (by rw [hE.out]; simp), by simp; omega, Lib.hid (below_drewN hB.out _), Lib.hid (fun a => hC.out a)⟩
        | (simp [intOf]; omega)
end Go.Proofs.Ytigkjmjkpjjjkaa
