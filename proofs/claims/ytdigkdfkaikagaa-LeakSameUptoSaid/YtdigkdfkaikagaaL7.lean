/- check and May: the first error of a leakage, and is there none? -/
import Derived.Test.YtdigkdfkaikagaaL6
namespace Go.Proofs.Ytdigkdfkaikagaa
open Go.RowKit

def errOf : Except Int Int → Option Int
  | .ok _ => none
  | .error y => some y
theorem In_later {N M : Nat} {w w' : World} {l : Lf} {p : Option Addr} (h : l.In w N p) (hb : Below M w w') (hM : N ≤ M) : l.In w' N p :=
  h.later (hb.mono hM) (Nat.le_refl _)

set_option maxHeartbeats 1600000 in
theorem measure1_any (l : Lf) (p : Option Addr) (cap N b : Nat) (w : World) (h : l.In w N p) (hN : N ≤ w.heap.size) (hc : w.cell? ⟨b, 0, none⟩ = some (.slice p l.len cap)) :
    Calls Try.prog 69 #[.pointer (some ⟨b, 0, none⟩)] w fun e w1 => Caught (errOf (l.meas 1 1000000)) e ∧ Below w.heap.size w w1 := by
  have hmf : ∀ (fn : Fn) (first cap : Array Value) (w : World), (Instr.makeFunc fn first cap).run Try.prog w = .ok (.func fn first cap) w := fun _ _ _ _ => rfl
  have hcb : b < w.heap.size := World.block_lt_of_cell? _ _ hc
  have hc2 : (w.alloc (.cells #[.int .i64 1000000] 3)).cell? ⟨b, 0, none⟩ = some (.slice p l.len cap) := (World.cell?_alloc_past _ _ _ hcb).trans hc
  have HB0 := Lib.hid ((Below.refl _ w).alloc (Nat.le_refl _) (.cells #[.int .i64 1000000] 3))
  have HM := Lib.hid (meas_to _ l (Nat.lt_succ_self _) p cap N w.heap.size 1 1000000 (w.alloc (.cells #[.int .i64 1000000] 3)) (In_later h HB0.out hN) hN (by omega) (by simp [go_sem]) (by simp [go_sem]) (by omega) (by omega))
  clear h hc
  cases hA : l.meas 1 1000000 with
  | ok x =>
    rw [hA] at HM
    go_enter Try.func69, Try.ntmps69
    go_wp2_with (go_at_call 47; refine HM.out.mono ?_; rintro e w1 ⟨rfl, hB, hR⟩)
    go_end0
    exact ⟨rfl, HB0.out.trans hB⟩
  | error y =>
    rw [hA] at HM
    go_enter Try.func69, Try.ntmps69
    go_wp2_with (go_at_call 47; refine HM.out.mono ?_; rintro e w1 ⟨rfl, hB⟩)
    exact ⟨rfl, rfl, HB0.out.trans hB⟩

set_option maxHeartbeats 1600000 in
theorem measure_any (l : Lf) (p : Option Addr) (cap N : Nat) (w : World) (h : l.In w N p) (hN : N ≤ w.heap.size) :
    Calls Try.prog 51 #[.slice p l.len cap] w fun e w1 => e = .returned (.int .i64 ((errOf (l.meas 1 1000000)).getD 0)) ∧ Below w.heap.size w w1 := by
  have hmf : ∀ (fn : Fn) (first cap : Array Value) (w : World), (Instr.makeFunc fn first cap).run Try.prog w = .ok (.func fn first cap) w := fun _ _ _ _ => rfl
  have HB0 := Lib.hid ((Below.refl _ w).alloc (Nat.le_refl _) (.cells #[.slice p l.len cap] 25))
  have HB1 := Lib.hid (HB0.out.alloc (by simp) (.cells #[.int .i64 0] 28))
  have HM := Lib.hid (caught_measure #[.pointer (some ⟨w.heap.size, 0, none⟩)] (w.alloc (.cells #[.slice p l.len cap] 25)) (errOf (l.meas 1 1000000)) (fun _ => True)
    ((measure1_any l p cap N w.heap.size _ (In_later h HB1.out hN) (by simp; omega) (by simp [go_sem])).mono fun e w1 hh => ⟨hh.1, hh.2.mono (by simp), trivial⟩))
  clear h
  go_enter Try.func51, Try.ntmps51
  go_wp2_with (go_at_call 35; refine HM.out.mono ?_; rintro e w1 ⟨rfl, w2, _, hB, rfl⟩)
  go_ret
  refine ⟨rfl, ?_⟩
  refine Below.setCell (HB0.out.trans (hB.mono (by simp))) ?_ _
  simp
mutual
theorem Lf.meas_err : ∀ (l : Lf) (deep : Nat) (x y : Int), l.meas deep x = .error y → y = 12 ∨ y = 3
  | .nil, _, _, _, h => by simp [Lf.meas] at h
  | .node _ is _ s r, deep, x, y, h => by
    simp only [Lf.meas] at h
    split at h
    · simp at h; omega
    · split at h
      · simp at h; omega
      · split at h
        · exact Lf.meas_err r deep _ y h
        · rename_i e he; cases h; exact Ls.meas_err s (deep + 1) _ _ he
theorem Ls.meas_err : ∀ (l : Ls) (deep : Nat) (x y : Int), l.meas deep x = .error y → y = 12 ∨ y = 3
  | .nil, _, _, _, h => by simp [Ls.meas] at h
  | .sub l r, deep, x, y, h => by
    simp only [Ls.meas] at h
    split at h
    · exact Ls.meas_err r deep _ y h
    · rename_i e he; cases h; exact Lf.meas_err l deep _ _ he
end

def Lf.check (l : Lf) : Int := match errOf (l.meas 1 1000000) with
  | some y => y
  | none => if l.shaped then 0 else 2

set_option maxHeartbeats 1600000 in
theorem check_any (l : Lf) (p : Option Addr) (cap N : Nat) (w : World) (h : l.In w N p) (hN : N ≤ w.heap.size) :
    Calls Try.prog 33 #[.slice p l.len cap] w fun e w1 => e = .returned (.int .i64 l.check) ∧ Below w.heap.size w w1 := by
  have HM := Lib.hid (measure_any l p cap N w h hN)
  have HS := Lib.hid (fun w1 (hB : Below w.heap.size w w1) => shaped_any l p cap N w1 (In_later h hB hN))
  have EC : Hid (l.check = match errOf (l.meas 1 1000000) with | some y => y | none => if l.shaped then 0 else 2) := Lib.hid rfl
  have HE := Lib.hid (Lf.meas_err l 1 1000000)
  clear h
  cases hA : l.meas 1 1000000 with
  | error y =>
    have hy := HE.out _ hA
    simp only [hA, errOf, Option.getD_some] at HM EC
    have h0 : (y == 0) = false := by rcases hy with rfl | rfl <;> rfl
    have h1 : (y != 0) = true := by rcases hy with rfl | rfl <;> rfl
    clear hy
    go_enter Try.func33, Try.ntmps33
    go_wp2_with (go_at_call 51; refine HM.out.mono ?_; rintro e w1 ⟨rfl, hB⟩)
    go_ret
    exact ⟨ret_int EC.out.symm, hB⟩
  | ok x =>
    simp only [hA, errOf, Option.getD_none] at HM EC
    cases hS : l.shaped with
    | true =>
      rw [hS] at HS EC
      go_enter Try.func33, Try.ntmps33
      go_wp2_with (first | (go_at_call 51; refine HM.out.mono ?_; rintro e w1 ⟨rfl, hB⟩) | (go_at_call 52; refine (HS.out _ hB).mono ?_; rintro e w' ⟨rfl, rfl⟩))
      go_ret
      exact ⟨ret_int EC.out.symm, hB⟩
    | false =>
      rw [hS] at HS EC
      go_enter Try.func33, Try.ntmps33
      go_wp2_with (first | (go_at_call 51; refine HM.out.mono ?_; rintro e w1 ⟨rfl, hB⟩) | (go_at_call 52; refine (HS.out _ hB).mono ?_; rintro e w' ⟨rfl, rfl⟩))
      go_ret
      exact ⟨ret_int EC.out.symm, hB⟩

set_option maxHeartbeats 1600000 in
theorem may_any (l : Lf) (p : Option Addr) (cap N : Nat) (w : World) (h : l.In w N p) (hN : N ≤ w.heap.size) :
    Calls Try.prog 24 #[.slice p l.len cap] w fun e w1 => e = .returned (.bool (l.check == 0)) ∧ Below w.heap.size w w1 := by
  have HM := Lib.hid (check_any l p cap N w h hN)
  clear h
  go_enter Try.func24, Try.ntmps24
  go_wp2_with (go_at_call 33; refine HM.out.mono ?_; rintro e w1 ⟨rfl, hB⟩)
  go_ret
  exact ⟨rfl, hB⟩
end Go.Proofs.Ytdigkdfkaikagaa
