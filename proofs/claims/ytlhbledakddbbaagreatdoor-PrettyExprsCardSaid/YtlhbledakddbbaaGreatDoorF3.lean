/- The document's Sign. -/
import Derived.Test.YtlhbledakddbbaaGreatDoorB2
namespace Go.Proofs.YtlhbledakddbbaaGreatDoor
open Go.RowKit

def hasSign (o : Int) : Bool := (fat signT o).isSome
def signL : Array Value := #[.string ⟨#[43]⟩, .string ⟨#[45]⟩, .string ⟨#[42]⟩, .string ⟨#[38]⟩, .string ⟨#[124]⟩, .string ⟨#[94]⟩, .string ⟨#[60, 60]⟩, .string ⟨#[62, 62]⟩, .string ⟨#[62, 62, 62]⟩, .string ⟨#[60, 60, 60]⟩, .string ⟨#[62, 62, 62, 62]⟩, .string ⟨#[61, 61]⟩, .string ⟨#[33, 61]⟩, .string ⟨#[60]⟩, .string ⟨#[60, 61]⟩]
theorem fifteen {o : Int} (h1 : 6 ≤ o) (h2 : o ≤ 20) : o = 6 ∨ o = 7 ∨ o = 8 ∨ o = 9 ∨ o = 10 ∨ o = 11 ∨ o = 12 ∨ o = 13 ∨ o = 14 ∨ o = 15 ∨ o = 16 ∨ o = 17 ∨ o = 18 ∨ o = 19 ∨ o = 20 := by omega
theorem sign_cell {o : Int} (h1 : 6 ≤ o) (h2 : o ≤ 20) : signL[(o - 6).toNat]? = some (.string (str (signOf o))) := by
  rcases fifteen h1 h2 with rfl | rfl | rfl | rfl | rfl | rfl | rfl | rfl | rfl | rfl | rfl | rfl | rfl | rfl | rfl <;> rfl
theorem has_sign {o : Int} (h1 : 6 ≤ o) (h2 : o ≤ 20) : hasSign o = true ∧ signOf o ≠ [] := by
  rcases fifteen h1 h2 with rfl | rfl | rfl | rfl | rfl | rfl | rfl | rfl | rfl | rfl | rfl | rfl | rfl | rfl | rfl <;> decide
theorem fat_none {o : Int} (h : o < 6 ∨ 20 < o) : fat signT o = none := by
  have hn : ∀ (l : List (Int × List UInt8)), (∀ x ∈ l, x.1 ≠ o) → fat l o = none := fun l => by
    induction l with
    | nil => intro _; rfl
    | cons x l ih =>
      intro h
      have h1 := h x (List.mem_cons_self ..)
      have h2 := ih fun y hy => h y (List.mem_cons_of_mem _ hy)
      simp [fat, h2, Ne.symm h1]
  refine hn _ ?_
  intro x hx
  have hx' : x.1 ∈ signT.map (·.1) := List.mem_map.2 ⟨x, hx, rfl⟩
  have : signT.map (·.1) = [6, 7, 8, 9, 10, 11, 12, 13, 14, 15, 16, 17, 18, 19, 20] := rfl
  rw [this] at hx'
  simp at hx'
  omega
theorem no_sign {o : Int} (h : o < 6 ∨ 20 < o) : hasSign o = false ∧ signOf o = [] := by
  unfold hasSign signOf
  rw [fat_none h]
  exact ⟨rfl, rfl⟩

set_option maxHeartbeats 1600000 in
theorem refSign_any (o : Int) (w : World) (h1 : -9223372036854775808 ≤ o) (h2 : o < 9223372036854775808) : Calls Tryz.prog 41 #[.int .i64 o] w fun e w' => e = .returned (.string (str (signOf o))) ∧ Below w.heap.size w w' := by
  have HB := Lib.hid (show Below w.heap.size w (w.alloc (.cells signL 9)) from (Below.refl _ w).alloc (Nat.le_refl _) _)
  by_cases h : o < 6 ∨ 20 < o
  · have hs := (no_sign h).2
    rw [hs]
    have hb : (decide (o < 6) || decide (20 < o)) = true := by simpa using h
    by_cases h6 : o < 6
    · go_enter Tryz.func41, Tryz.ntmps41
      go_wp2_with fail
      go_ret
      exact ⟨rfl, HB.out⟩
    · have h20 : 20 < o := by omega
      go_enter Tryz.func41, Tryz.ntmps41
      go_wp2_with fail
      go_ret
      exact ⟨rfl, HB.out⟩
  · have g6 : ¬ o < 6 := fun h' => h (.inl h')
    have g20 : ¬ 20 < o := fun h' => h (.inr h')
    have hc : (w.alloc (.cells signL 9)).cell? ⟨w.heap.size, (o - 6).toNat, none⟩ = some (.string (str (signOf o))) := by
      rw [World.cell?_alloc_new]; exact sign_cell (by omega) (by omega)
    obtain ⟨w1, hw1⟩ : ∃ w1, w.alloc (.cells signL 9) = w1 := ⟨_, rfl⟩
    rw [hw1] at hc HB
    unfold signL at hw1
    have hw : IntKind.i64.wrap (o - 6) = o - 6 := by simp [IntKind.wrap, IntKind.bits, IntKind.signed]; omega
    have b0 : (0 : Int) ≤ o - 6 := by omega
    have b1 : o - 6 < 15 := by omega
    go_enter Tryz.func41, Tryz.ntmps41
    go_wp2_with fail
    go_ret
    exact ⟨rfl, HB.out⟩
end Go.Proofs.YtlhbledakddbbaaGreatDoor
