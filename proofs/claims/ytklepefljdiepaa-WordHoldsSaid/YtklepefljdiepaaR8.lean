import Derived.Test.YtklepefljdiepaaW8
namespace Go.Proofs.Ytklepefljdiepaa
open Go.RowKit
/-- the document's list of conditions -/
def hlist (f2 f12 f1 f3 f4 f5 n : Bool) (l7 : Bool) : Array Value := #[.bool f4, .bool f1, .bool f2, .bool f12, .bool f3, .bool f5, .bool n, .bool l7]
theorem hlist_at (c : Nat) (f1 f2 f3 f4 f5 : Bool) (hc : c ≤ 15) : (hlist f2 (f2 || f1) f1 f3 f4 f5 (!(f3 == f4)) (f2 || !(f3 == f4)))[c / 2]? = some (.bool (WM.holdsE (c - c % 2) ⟨f1, f2, f3, f4, f5⟩)) := by
  have h : c = 0 ∨ c = 1 ∨ c = 2 ∨ c = 3 ∨ c = 4 ∨ c = 5 ∨ c = 6 ∨ c = 7 ∨ c = 8 ∨ c = 9 ∨ c = 10 ∨ c = 11 ∨ c = 12 ∨ c = 13 ∨ c = 14 ∨ c = 15 := by omega
  clear hc
  rcases h with rfl | rfl | rfl | rfl | rfl | rfl | rfl | rfl | rfl | rfl | rfl | rfl | rfl | rfl | rfl | rfl
  all_goals rfl
set_option maxHeartbeats 1600000 in
theorem refHolds_any (c : Nat) (f1 f2 f3 f4 f5 : Bool) (w : World) (hc : c ≤ 15) :
    Calls Try.prog 33 #[.int .i64 c, .agg #[.bool f1, .bool f2, .bool f3, .bool f4, .bool f5]] w fun e w' => e = .returned (.bool (WM.holds c ⟨f1, f2, f3, f4, f5⟩)) ∧ Below w.heap.size w w' := by
  have hl := hlist_at c f1 f2 f3 f4 f5 hc
  obtain ⟨V, hV⟩ : ∃ V, WM.holdsE (c - c % 2) ⟨f1, f2, f3, f4, f5⟩ = V := ⟨_, rfl⟩
  have hfin : ∀ x : Bool, x = (!(V == ((c : Int) % 2 == 1))) → x = WM.holds c ⟨f1, f2, f3, f4, f5⟩ := fun x hx => by
    rw [hx]; unfold WM.holds; rw [hV]
    have e1 : ((c : Int) % 2 == 1) = (c % 2 == 1) := by rw [Bool.eq_iff_iff]; simp only [beq_iff_eq]; omega
    rw [e1]; rfl
  have HF := Lib.hid hfin
  rw [hV] at hl
  clear hfin hV
  cases f1 <;> cases f2
  all_goals
    unfold hlist at hl
    simp only [Bool.or_false, Bool.or_true, Bool.false_or, Bool.true_or] at hl
    go_enter Try.func33, Try.ntmps33
    go_wp2
    go_ret
    exact ⟨ret_bool (HF.out _ rfl), ((Below.refl w.heap.size w).alloc (Nat.le_refl _) _).alloc (by simp) _⟩
end Go.Proofs.Ytklepefljdiepaa
