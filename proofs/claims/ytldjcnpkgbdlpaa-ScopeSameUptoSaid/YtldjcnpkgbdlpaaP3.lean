/- Two expressions are the same. -/
import Derived.Test.YtldjcnpkgbdlpaaP2
namespace Go.Proofs.Ytldjcnpkgbdlpaa
open Go.RowKit

theorem eqB_iff {α β : Type} {a b : α} {c d : β} (h : a = b ↔ c = d) : eqB a b = eqB c d := by
  by_cases k : a = b
  · rw [← eqB_true k, ← eqB_true (h.1 k)]
  · rw [← eqB_false k, ← eqB_false fun e => k (h.2 e)]

def PSE (n : Nat) : Prop := ∀ x y : Ex, x.size < n → ∀ (p q : Option Addr) (c d N : Nat) (w : World), x.Ok w N p → y.Ok w N q → N ≤ w.heap.size →
    Calls Try.prog 57 #[x.val p c, y.val q d] w fun e w' => e = .returned (.bool (eqB x y)) ∧ Below w.heap.size w w'
theorem pse_args (n : Nat) (ih : PSE n) (l m : Exs) (hs : l.size ≤ n) (p q : Option Addr) (c d N : Nat) (w : World) (h1 : l.In w N p) (h2 : m.In w N q) (hN : N ≤ w.heap.size) :
    Calls Try.prog 58 #[.slice p l.len c, .slice q m.len d, .func (Fn.func 57) #[] #[]] w fun e w' => e = .returned (.bool (eqB l m)) ∧ Below w.heap.size w w' := by
  have := eqfEx l.toL m.toL p q c d N w (Exs.rowIn h1) (Exs.rowIn h2) hN (fun y1 g1 y2 _ s1 s2 w1 hb o1 o2 => ih y1 y2 (by have := Exs.toL_size g1; omega) s1.1 s2.1 s1.2 s2.2 w1.heap.size w1 o1 o2 (Nat.le_refl _))
  rw [← Exs.toL_len, ← Exs.toL_len, eqB_exs] at this
  exact this
set_option maxHeartbeats 3200000 in
theorem pse_step (n : Nat) (ih : PSE n) : PSE (n + 1) := by
  intro x y hxs p q c d N w hx hy hN
  obtain ⟨op, wd, nm, ar⟩ := x
  obtain ⟨op', wd', nm', ar'⟩ := y
  simp only [Ex.size] at hxs
  have HC := Lib.hid (fun (w1 : World) (hb : Below w.heap.size w w1) => pse_args n ih ar ar' (by omega) p q c d N w1 (hx.1.later (hb.mono hN) (Nat.le_refl _)) (hy.1.later (hb.mono hN) (Nat.le_refl _)) (Nat.le_trans hN hb.size))
  have HB := Lib.hid (((Below.refl _ w).alloc (Nat.le_refl _) (Obj.cells #[.int .i64 op, .int .u64 (wd : Int), .string (str nm), .slice p ar.len c] 47)).alloc (by simp) (Obj.cells #[.int .i64 op', .int .u64 (wd' : Int), .string (str nm'), .slice q ar'.len d] 47))
  show Calls _ _ #[.agg #[.int .i64 op, .int .u64 (wd : Int), .string (str nm), .slice p ar.len c], .agg #[.int .i64 op', .int .u64 (wd' : Int), .string (str nm'), .slice q ar'.len d]] w _
  clear hx hy ih
  by_cases h1 : op = op'
  · by_cases h2 : wd = wd'
    · by_cases h3 : nm = nm'
      · subst h1; subst h2; subst h3
        have HV := Lib.hid (show eqB ar ar' = eqB (Ex.mk op wd nm ar) (Ex.mk op wd nm ar') from eqB_iff ⟨fun h => by rw [h], fun h => by injection h⟩)
        have e1 := str_beq_eq nm
        generalize eqB ar ar' = v at HC HV
        go_enter Try.func57, Try.ntmps57
        go_wp2_with fail
        refine (HC.out _ HB.out).mono ?_
        rintro e w1 ⟨rfl, hB1⟩
        have HB3 := Lib.hid (HB.out.trans (hB1.mono HB.out.size))
        clear hB1
        go_wp2_with fail
        go_ret
        exact ⟨ret_bool HV.out, HB3.out⟩
      · have HV := Lib.hid (eqB_false (show ¬ Ex.mk op wd nm ar = Ex.mk op' wd' nm' ar' from fun h => h3 (by injection h)))
        have e1 := str_beq_ne h3
        subst h1; subst h2
        go_enter Try.func57, Try.ntmps57
        go_wp2_with fail
        go_ret
        exact ⟨ret_bool HV.out, HB.out⟩
    · have HV := Lib.hid (eqB_false (show ¬ Ex.mk op wd nm ar = Ex.mk op' wd' nm' ar' from fun h => h2 (by injection h)))
      subst h1
      go_enter Try.func57, Try.ntmps57
      go_wp2_with fail
      go_ret
      exact ⟨ret_bool HV.out, HB.out⟩
  · have HV := Lib.hid (eqB_false (show ¬ Ex.mk op wd nm ar = Ex.mk op' wd' nm' ar' from fun h => h1 (by injection h)))
    go_enter Try.func57, Try.ntmps57
    go_wp2_with fail
    go_ret
    exact ⟨ret_bool HV.out, HB.out⟩
theorem pse_to : ∀ n, PSE n
  | 0 => fun _ _ h => absurd h (Nat.not_lt_zero _)
  | n + 1 => pse_step n (pse_to n)
theorem pse_any (x y : Ex) (p q : Option Addr) (c d N : Nat) (w : World) (hx : x.Ok w N p) (hy : y.Ok w N q) (hN : N ≤ w.heap.size) :
    Calls Try.prog 57 #[x.val p c, y.val q d] w fun e w' => e = .returned (.bool (eqB x y)) ∧ Below w.heap.size w w' :=
  pse_to _ x y (Nat.lt_succ_self _) p q c d N w hx hy hN
theorem pse_list (l m : Exs) (p q : Option Addr) (c d N : Nat) (w : World) (h1 : l.In w N p) (h2 : m.In w N q) (hN : N ≤ w.heap.size) :
    Calls Try.prog 58 #[.slice p l.len c, .slice q m.len d, .func (Fn.func 57) #[] #[]] w fun e w' => e = .returned (.bool (eqB l m)) ∧ Below w.heap.size w w' :=
  pse_args l.size (pse_to _) l m (Nat.le_refl _) p q c d N w h1 h2 hN

end Go.Proofs.Ytldjcnpkgbdlpaa
