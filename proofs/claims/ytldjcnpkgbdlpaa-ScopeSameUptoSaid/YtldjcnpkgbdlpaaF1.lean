/- How many parts a program has. -/
import Derived.Test.YtldjcnpkgbdlpaaE7
namespace Go.Proofs.Ytldjcnpkgbdlpaa
open Go.RowKit

theorem Chk.no' {r e : Nat} {w w' : World} (h : r = e) (he : e ≠ 0) (hB : Below w.heap.size w w') : Chk r w (Pn (e : Int)) w' := by subst h; exact .no he hB
theorem few_yes (n l m : Int) (w : World) (h : (decide (l ≤ n) && decide (n ≤ m)) = true) : Calls Try.prog 46 #[.int .i64 n, .int .i64 l, .int .i64 m] w fun z w' => z = .returned (.tuple #[]) ∧ w' = w := by
  simp only [Bool.and_eq_true] at h
  obtain ⟨h1, h2⟩ := h
  go_enter Try.func46, Try.ntmps46
  go_wp2_with (go_at_call 47; refine (must_yes 13 _).mono ?_; rintro e w' ⟨rfl, rfl⟩)
  go_end0
  exact ⟨rfl, rfl⟩
theorem few_no (n l m : Int) (w : World) (h : (decide (l ≤ n) && decide (n ≤ m)) = false) : Calls Try.prog 46 #[.int .i64 n, .int .i64 l, .int .i64 m] w fun z w' => z = Pn 13 ∧ w' = w := by
  cases h1 : decide (l ≤ n) with
  | false =>
    clear h
    go_enter Try.func46, Try.ntmps46
    go_wp2_with (go_at_call 47; refine (must_no 13 _).mono ?_; rintro e w' ⟨rfl, rfl⟩; unfold Pn)
    exact ⟨rfl, rfl, rfl⟩
  | true =>
    rw [h1, Bool.true_and] at h
    go_enter Try.func46, Try.ntmps46
    go_wp2_with (go_at_call 47; refine (must_no 13 _).mono ?_; rintro e w' ⟨rfl, rfl⟩; unfold Pn)
    exact ⟨rfl, rfl, rfl⟩
/-- asked of a number: one or the other -/
def fewB (n l m : Int) : Bool := decide (l ≤ n) && decide (n ≤ m)
theorem few_any (n l m : Int) (w : World) : Calls Try.prog 46 #[.int .i64 n, .int .i64 l, .int .i64 m] w fun z w' => ((fewB n l m = true ∧ z = .returned (.tuple #[])) ∨ (fewB n l m = false ∧ z = Pn 13)) ∧ w = w' := by
  cases h : fewB n l m with
  | true => exact (few_yes n l m w h).mono fun z w' hz => ⟨.inl ⟨rfl, hz.1⟩, hz.2.symm⟩
  | false => exact (few_no n l m w h).mono fun z w' hz => ⟨.inr ⟨rfl, hz.1⟩, hz.2.symm⟩
def Rgn.few (r : Rgn) : Bool := fewB r.size 1 512
def Vr.few (v : Vr) : Bool := !((v.kind == 2) || (v.kind == 3)) || fewB v.size 1 512
def Fnc.few (f : Fnc) : Bool := fewB ((f.params.length : Int) + (f.vars.length : Int)) 0 64 && fewB f.rets.length 0 64 && f.params.all Vr.few && f.vars.all Vr.few
def Prg.few (x : Prg) : Bool := fewB x.regs.length 0 16 && fewB x.fns.length 1 32 && x.regs.all Rgn.few && x.fns.all Fnc.few && fewB (cap x.total) 0 65536
end Go.Proofs.Ytldjcnpkgbdlpaa
