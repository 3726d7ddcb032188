/- L7, Z8 as one. -/
import Derived.Test.YtcadeeldogknmaaFM
import Derived.Test.YtcadeeldogknmaaZ7
/- check and May: the first error of a leakage, and is there none? -/
namespace Go.Proofs.Ytcadeeldogknmaa
open Go.RowKit

def errOf : Except Int Int → Option Int
  | .ok _ => none
  | .error y => some y
theorem In_later {N M : Nat} {w w' : World} {l : Lf} {p : Option Addr} (h : l.In w N p) (hb : Below M w w') (hM : N ≤ M) : l.In w' N p :=
  h.later (hb.mono hM) (Nat.le_refl _)

set_option maxHeartbeats 1600000 in
theorem measure1_any (l : Lf) (p : Option Addr) (cap N b : Nat) (w : World) (h : l.In w N p) (hN : N ≤ w.heap.size) (hc : w.cell? ⟨b, 0, none⟩ = some (.slice p l.len cap)) :
    Calls Try.prog 52 #[.pointer (some ⟨b, 0, none⟩)] w fun e w1 => Caught (errOf (l.meas 1 1000000)) e ∧ Below w.heap.size w w1 := by
  have hmf : ∀ (fn : Fn) (first cap : Array Value) (w : World), (Instr.makeFunc fn first cap).run Try.prog w = .ok (.func fn first cap) w := fun _ _ _ _ => rfl
  have hcb : b < w.heap.size := World.block_lt_of_cell? _ _ hc
  have hc2 : (w.alloc (.cells #[.int .i64 1000000] 3)).cell? ⟨b, 0, none⟩ = some (.slice p l.len cap) := (World.cell?_alloc_past _ _ _ hcb).trans hc
  have HB0 := Lib.hid ((Below.refl _ w).alloc (Nat.le_refl _) (.cells #[.int .i64 1000000] 3))
  have HM := Lib.hid (meas_to _ l (Nat.lt_succ_self _) p cap N w.heap.size 1 1000000 (w.alloc (.cells #[.int .i64 1000000] 3)) (In_later h HB0.out hN) hN (by omega) (by simp [go_sem]) (by simp [go_sem]) (by omega) (by omega))
  clear h hc
  cases hA : l.meas 1 1000000 with
  | ok x =>
    rw [hA] at HM
    go_enter Try.func52, Try.ntmps52
    go_wp2_with (go_at_call 28; refine HM.out.mono ?_; rintro e w1 ⟨rfl, hB, hR⟩)
    go_end0
    exact ⟨rfl, HB0.out.trans hB⟩
  | error y =>
    rw [hA] at HM
    go_enter Try.func52, Try.ntmps52
    go_wp2_with (go_at_call 28; refine HM.out.mono ?_; rintro e w1 ⟨rfl, hB⟩)
    exact ⟨rfl, rfl, HB0.out.trans hB⟩

set_option maxHeartbeats 1600000 in
theorem measure_any (l : Lf) (p : Option Addr) (cap N : Nat) (w : World) (h : l.In w N p) (hN : N ≤ w.heap.size) :
    Calls Try.prog 31 #[.slice p l.len cap] w fun e w1 => e = .returned (.int .i64 ((errOf (l.meas 1 1000000)).getD 0)) ∧ Below w.heap.size w w1 := by
  have hmf : ∀ (fn : Fn) (first cap : Array Value) (w : World), (Instr.makeFunc fn first cap).run Try.prog w = .ok (.func fn first cap) w := fun _ _ _ _ => rfl
  have HB0 := Lib.hid ((Below.refl _ w).alloc (Nat.le_refl _) (.cells #[.slice p l.len cap] 23))
  have HB1 := Lib.hid (HB0.out.alloc (by simp) (.cells #[.int .i64 0] 28))
  have HM := Lib.hid (caught_measure #[.pointer (some ⟨w.heap.size, 0, none⟩)] (w.alloc (.cells #[.slice p l.len cap] 23)) (errOf (l.meas 1 1000000)) (fun _ => True)
    ((measure1_any l p cap N w.heap.size _ (In_later h HB1.out hN) (by simp; omega) (by simp [go_sem])).mono fun e w1 hh => ⟨hh.1, hh.2.mono (by simp), trivial⟩))
  clear h
  go_enter Try.func31, Try.ntmps31
  go_wp2_with (go_at_call 22; refine HM.out.mono ?_; rintro e w1 ⟨rfl, w2, _, hB, rfl⟩)
  go_ret
  refine ⟨rfl, ?_⟩
  refine Below.setCell (HB0.out.trans (hB.mono (by simp))) ?_ _
  simp
mutual
theorem Lf.meas_err : ∀ (l : Lf) (deep : Nat) (x y : Int), l.meas deep x = .error y → y = 12 ∨ y = 3
  | .nil, _, _, _, h => by simp [Lf.meas] at h
  | .node _ is _ s r, deep, x, y, h => by
    simp only [Lf.meas] at h
    split at h
    · simp at h; omega
    · split at h
      · simp at h; omega
      · split at h
        · exact Lf.meas_err r deep _ y h
        · rename_i e he; cases h; exact Ls.meas_err s (deep + 1) _ _ he
theorem Ls.meas_err : ∀ (l : Ls) (deep : Nat) (x y : Int), l.meas deep x = .error y → y = 12 ∨ y = 3
  | .nil, _, _, _, h => by simp [Ls.meas] at h
  | .sub l r, deep, x, y, h => by
    simp only [Ls.meas] at h
    split at h
    · exact Ls.meas_err r deep _ y h
    · rename_i e he; cases h; exact Lf.meas_err l deep _ _ he
end

def Lf.check (l : Lf) : Int := match errOf (l.meas 1 1000000) with
  | some y => y
  | none => if l.shaped then 0 else 2

set_option maxHeartbeats 1600000 in
theorem check_any (l : Lf) (p : Option Addr) (cap N : Nat) (w : World) (h : l.In w N p) (hN : N ≤ w.heap.size) :
    Calls Try.prog 19 #[.slice p l.len cap] w fun e w1 => e = .returned (.int .i64 l.check) ∧ Below w.heap.size w w1 := by
  have HM := Lib.hid (measure_any l p cap N w h hN)
  have HS := Lib.hid (fun w1 (hB : Below w.heap.size w w1) => shaped_any l p cap N w1 (In_later h hB hN))
  have EC : Hid (l.check = match errOf (l.meas 1 1000000) with | some y => y | none => if l.shaped then 0 else 2) := Lib.hid rfl
  have HE := Lib.hid (Lf.meas_err l 1 1000000)
  clear h
  cases hA : l.meas 1 1000000 with
  | error y =>
    have hy := HE.out _ hA
    simp only [hA, errOf, Option.getD_some] at HM EC
    have h0 : (y == 0) = false := by rcases hy with rfl | rfl <;> rfl
    have h1 : (y != 0) = true := by rcases hy with rfl | rfl <;> rfl
    clear hy
    go_enter Try.func19, Try.ntmps19
    go_wp2_with (go_at_call 31; refine HM.out.mono ?_; rintro e w1 ⟨rfl, hB⟩)
    go_ret
    exact ⟨ret_int EC.out.symm, hB⟩
  | ok x =>
    simp only [hA, errOf, Option.getD_none] at HM EC
    cases hS : l.shaped with
    | true =>
      rw [hS] at HS EC
      go_enter Try.func19, Try.ntmps19
      go_wp2_with (first | (go_at_call 31; refine HM.out.mono ?_; rintro e w1 ⟨rfl, hB⟩) | (go_at_call 32; refine (HS.out _ hB).mono ?_; rintro e w' ⟨rfl, rfl⟩))
      go_ret
      exact ⟨ret_int EC.out.symm, hB⟩
    | false =>
      rw [hS] at HS EC
      go_enter Try.func19, Try.ntmps19
      go_wp2_with (first | (go_at_call 31; refine HM.out.mono ?_; rintro e w1 ⟨rfl, hB⟩) | (go_at_call 32; refine (HS.out _ hB).mono ?_; rintro e w' ⟨rfl, rfl⟩))
      go_ret
      exact ⟨ret_int EC.out.symm, hB⟩

end Go.Proofs.Ytcadeeldogknmaa
/- What is asked of a node and its term. -/
namespace Go.Proofs.Ytcadeeldogknmaa
open Go.RowKit

/-- what becomes of a node -/
def oneR (st : Int) (xk : Int) (xi : List Int) (xt : Bool) (xs : Ls) (k : Int) (t : Bool) (ls bl : List (List Pk)) (subs : Rs) (b : Bool) (m : Nat) : Option (Lf × Nat) :=
  if k = 1 then some (.node xk xi xt xs .nil, m)
  else if k = 2 then layR st ls xi m
  else if k = 3 then if xk = 2 then askR st ls xi xt m (fun m => Ls.goFirst st xs (if xt then subs.first else subs.second) b m) else none
  else if k = 4 then if xk = 2 ∧ xt = t then then2 (layR st ls xi m) (fun m => Ls.goFirst st xs subs.first b m) else none
  else if k = 5 then if xk = 3 then Ls.goLoop st xs ls subs.first b m else none
  else if k = 6 then if xk = 4 ∧ asMany subs.len xs.len b = true then Ls.goRounds st xs subs b m else none
  else if k = 7 then if xk = 5 then then2 (layR st ls xi m) (fun m => Ls.goCall st xs bl subs.first b m) else none
  else if k = 8 then some (.nil, m)
  else if k = 9 then if xk = 4 then (match Ls.goEach st xs subs.first b m with | none => none | some (c, m2) => some (.node 4 [] false c .nil, m2)) else none
  else none
theorem go_node (st : Int) (xk : Int) (xi : List Int) (xt : Bool) (xs : Ls) (r : Lf) (k : Int) (t : Bool) (ls bl : List (List Pk)) (subs : Rs) (tr : Rc) (br : Bool) (m : Nat) :
    Lf.go st (.node xk xi xt xs r) (.node k t ls bl subs tr) br m = then2 (oneR st xk xi xt xs k t ls bl subs (br && r.len == 0) m) (fun m => Lf.go st r tr br m) := by
  rw [Lf.go]; rfl
def cap6 (m : Nat) : Nat := if m < 1000001 then m else 1000001
/-- the result is not too much -/
def Bnd (W m : Nat) (R : Option (Lf × Nat)) : Prop := ∀ x m', R = some (x, m') → x.wt + cap6 m ≤ W + cap6 m' ∧ m ≤ m' ∧ m' ≤ m + 2097152 * W
theorem linesLf_wt (st : Int) (is : List Int) : ∀ ls : List (List Pk), (linesLf st is ls).wt = linesW ls
  | [] => rfl
  | l :: ls => by rw [linesLf, Lf.wt, Ls.wt, linesLf_wt st is ls, linesW, List.length_map]; omega
theorem Bnd.mono {W W' m : Nat} {R : Option (Lf × Nat)} (h : Bnd W m R) (hW : W ≤ W') : Bnd W' m R := fun x m' e => by
  have := h x m' e
  exact ⟨by omega, this.2.1, by omega⟩
/-- lines alone: at most 2^20 -/
theorem lay_bnd {st : Int} {ls : List (List Pk)} {is : List Int} {m : Nat} (hl : linesW ls ≤ 1048576) : ∀ x m', layR st ls is m = some (x, m') → x.wt + cap6 m ≤ cap6 m' ∧ m ≤ m' ∧ m' ≤ m + 1048576 := by
  intro x m' h
  unfold layR at h
  split at h
  · simp only [Option.some.injEq, Prod.mk.injEq] at h
    obtain ⟨rfl, rfl⟩ := h
    refine ⟨?_, by omega, by omega⟩
    split
    · simp only [Lf.wt]; unfold cap6; split <;> split <;> omega
    · rw [linesLf_wt]; unfold cap6; split <;> split <;> omega
  · cases h
theorem then2_some {R : Option (Lf × Nat)} {f : Nat → Option (Lf × Nat)} {x : Lf} {m' : Nat} (e : then2 R f = some (x, m')) : ∃ y m1 z, R = some (y, m1) ∧ f m1 = some (z, m') ∧ x = y.cat z := by
  unfold then2 at e
  cases R with
  | none => cases e
  | some p =>
    obtain ⟨y, m1⟩ := p
    dsimp only at e
    cases hf : f m1 with
    | none => rw [hf] at e; cases e
    | some p =>
      obtain ⟨z, m2⟩ := p
      rw [hf] at e
      simp only [Option.some.injEq, Prod.mk.injEq] at e
      obtain ⟨rfl, rfl⟩ := e
      exact ⟨y, m1, z, rfl, hf, rfl⟩
theorem then2_bnd {W1 W2 m : Nat} {R : Option (Lf × Nat)} {f : Nat → Option (Lf × Nat)} (h1 : Bnd W1 m R) (h2 : ∀ m1, Bnd W2 m1 (f m1)) : Bnd (W1 + W2) m (then2 R f) := by
  intro x m' e
  obtain ⟨y, m1, z, hR, hf, rfl⟩ := then2_some e
  have a1 := h1 y m1 hR
  have a2 := h2 m1 z m' hf
  rw [Lf.cat_wt]
  omega
/-- of the first list: one less -/
def BndF (W m : Nat) (R : Option (Lf × Nat)) : Prop := ∀ x m', R = some (x, m') → x.wt + 1 + cap6 m ≤ W + cap6 m' ∧ m ≤ m' ∧ m' + 2097152 ≤ m + 2097152 * W
theorem ask_bnd {W m : Nat} {st : Int} {ls : List (List Pk)} {xi : List Int} {xt : Bool} {f : Nat → Option (Lf × Nat)} (hl : linesW ls ≤ 1048576) (hf : ∀ m1, BndF W m1 (f m1)) : Bnd (1 + xi.length + W) m (askR st ls xi xt m f) := by
  intro x m' e
  obtain ⟨y, m1, z, hR, e2, rfl⟩ := then2_some e
  have a1 := lay_bnd hl y m1 hR
  cases hc : f m1 with
  | none => rw [hc] at e2; cases e2
  | some p =>
    obtain ⟨c, m2⟩ := p
    rw [hc] at e2
    simp only [Option.some.injEq, Prod.mk.injEq] at e2
    obtain ⟨rfl, rfl⟩ := e2
    have := hf m1 c m2 hc
    have hx : (if ls.isEmpty = true then xi else []).length ≤ xi.length := by split <;> simp
    rw [Lf.cat_wt]
    simp only [Lf.wt, Ls.wt]
    omega
theorem layThen_bnd {W m : Nat} {st : Int} {ls : List (List Pk)} {is : List Int} {f : Nat → Option (Lf × Nat)} (hl : linesW ls ≤ 1048576) (hf : ∀ m1 x m', f m1 = some (x, m') → x.wt + cap6 m1 ≤ W + cap6 m' ∧ m1 ≤ m' ∧ m' + 1048576 ≤ m1 + 2097152 * W) : Bnd W m (then2 (layR st ls is m) f) := by
  intro x m' e
  obtain ⟨y, m1, z, hR, hz, rfl⟩ := then2_some e
  have a1 := lay_bnd hl y m1 hR
  have a2 := hf m1 z m' hz
  rw [Lf.cat_wt]
  omega
theorem one_bnd (st : Int) (xk : Int) (xi : List Int) (xt : Bool) (xs : Ls) (k : Int) (t : Bool) (ls bl : List (List Pk)) (subs : Rs) (b : Bool) (m : Nat) (h3 : linesW ls ≤ 1048576) (_h4 : linesW bl ≤ 1048576) (hs : subs.fine)
    (hF : ∀ (sub : Rc) (b : Bool) (m : Nat), sub.fine → BndF xs.wt m (Ls.goFirst st xs sub b m)) (hL : ∀ (sub : Rc) (b : Bool) (m : Nat), sub.fine → Bnd (1 + xs.wt) m (Ls.goLoop st xs ls sub b m)) (hR : ∀ (b : Bool) (m : Nat), Bnd xs.wt m (Ls.goRounds st xs subs b m))
    (hC : ∀ (sub : Rc) (b : Bool) (m : Nat), sub.fine → ∀ x m', Ls.goCall st xs bl sub b m = some (x, m') → x.wt + cap6 m ≤ xs.wt + cap6 m' ∧ m ≤ m' ∧ m' + 1048576 ≤ m + 2097152 * xs.wt)
    (hE : ∀ (sub : Rc) (b : Bool) (m : Nat), sub.fine → ∀ c m', Ls.goEach st xs sub b m = some (c, m') → c.wt + cap6 m ≤ xs.wt + cap6 m' ∧ m ≤ m' ∧ m' ≤ m + 2097152 * xs.wt) :
    Bnd (1 + xi.length + xs.wt) m (oneR st xk xi xt xs k t ls bl subs b m) := by
  have hfs : subs.first.fine ∧ subs.second.fine := by
    cases subs with
    | nil => exact ⟨trivial, trivial⟩
    | sub a s =>
      refine ⟨hs.1, ?_⟩
      cases s with
      | nil => trivial
      | sub b s => exact hs.2.1
  have hnone : ∀ {W : Nat}, Bnd W m none := fun x m' e => by cases e
  unfold oneR
  by_cases k1 : k = 1
  · rw [if_pos k1]
    intro x m' e
    simp only [Option.some.injEq, Prod.mk.injEq] at e
    obtain ⟨rfl, rfl⟩ := e
    simp only [Lf.wt]; omega
  rw [if_neg k1]
  by_cases k2 : k = 2
  · rw [if_pos k2]
    intro x m' e
    have := lay_bnd h3 x m' e
    omega
  rw [if_neg k2]
  by_cases k3 : k = 3
  · rw [if_pos k3]
    split
    · exact ask_bnd h3 fun m1 => hF _ _ _ (by split; (· exact hfs.1); (· exact hfs.2))
    · exact hnone
  rw [if_neg k3]
  by_cases k4 : k = 4
  · rw [if_pos k4]
    split
    · exact (layThen_bnd (W := xs.wt) h3 fun m1 x m' e => by have := hF _ _ _ hfs.1 x m' e; omega).mono (by omega)
    · exact hnone
  rw [if_neg k4]
  by_cases k5 : k = 5
  · rw [if_pos k5]
    split
    · exact (hL _ _ _ hfs.1).mono (by omega)
    · exact hnone
  rw [if_neg k5]
  by_cases k6 : k = 6
  · rw [if_pos k6]
    split
    · exact (hR _ _).mono (by omega)
    · exact hnone
  rw [if_neg k6]
  by_cases k7 : k = 7
  · rw [if_pos k7]
    split
    · exact (layThen_bnd (W := xs.wt) h3 fun m1 x m' e => hC _ _ _ hfs.1 x m' e).mono (by omega)
    · exact hnone
  rw [if_neg k7]
  by_cases k8 : k = 8
  · rw [if_pos k8]
    intro x m' e
    simp only [Option.some.injEq, Prod.mk.injEq] at e
    obtain ⟨rfl, rfl⟩ := e
    simp only [Lf.wt]; omega
  rw [if_neg k8]
  by_cases k9 : k = 9
  · rw [if_pos k9]
    split
    · intro x m' e
      cases hc : Ls.goEach st xs subs.first b m with
      | none => rw [hc] at e; cases e
      | some p =>
        obtain ⟨c, m2⟩ := p
        rw [hc] at e
        simp only [Option.some.injEq, Prod.mk.injEq] at e
        obtain ⟨rfl, rfl⟩ := e
        have := hE _ _ _ hfs.1 c m2 hc
        simp only [Lf.wt, List.length_nil]; omega
    · exact hnone
  rw [if_neg k9]
  exact hnone
theorem rw_bnd {st : Int} {l : Lf} {t : Rc} {br : Bool} {m : Nat} (h : Bnd l.wt m (l.go st t br m)) : Bnd l.wt m (if asMany t.len l.len br = true then l.go st t br m else none) := by
  split
  · exact h
  · intro x m' e; cases e
mutual
theorem go_bnd (st : Int) : ∀ (l : Lf) (t : Rc) (br : Bool) (m : Nat), t.fine → Bnd l.wt m (l.go st t br m)
  | .nil, t, br, m, _ => fun x m' e => by
    rw [Lf.go] at e
    simp only [Option.some.injEq, Prod.mk.injEq] at e
    obtain ⟨rfl, rfl⟩ := e
    simp [Lf.wt]
  | .node xk xi xt xs r, .nil, br, m, _ => fun x m' e => by rw [Lf.go] at e; cases e
  | .node xk xi xt xs r, .node k t ls bl subs tr, br, m, hf => by
    rw [go_node, show (Lf.node xk xi xt xs r).wt = (1 + xi.length + xs.wt) + r.wt by rw [Lf.wt]]
    exact then2_bnd (one_bnd st xk xi xt xs k t ls bl subs _ m hf.1.2.2.1 hf.1.2.2.2.1 hf.2.1 (fun sub b m h => first_bnd st xs sub b m h) (fun sub b m h => loop_bnd st xs ls sub b m hf.1.2.2.1 h) (fun b m => rounds_bnd st xs subs b m hf.2.1) (fun sub b m h => call_bnd st xs bl sub b m hf.1.2.2.2.1 h) (fun sub b m h => each_bnd st xs sub b m h)) (fun m1 => go_bnd st r tr br m1 hf.2.2)
theorem ask_all_bnd (st : Int) : ∀ (l : Lf) (ls : List (List Pk)) (sub : Rc) (br : Bool) (m : Nat), linesW ls ≤ 1048576 → sub.fine → Bnd l.wt m (l.goAsk st ls sub br m)
  | .nil, ls, sub, br, m, _, _ => fun x m' e => by
    rw [Lf.goAsk] at e
    simp only [Option.some.injEq, Prod.mk.injEq] at e
    obtain ⟨rfl, rfl⟩ := e
    simp [Lf.wt]
  | .node xk xi xt xs r, ls, sub, br, m, hl, hf => by
    rw [Lf.goAsk, show (Lf.node xk xi xt xs r).wt = (1 + xi.length + xs.wt) + r.wt by rw [Lf.wt]]
    refine then2_bnd ?_ (fun m1 => ask_all_bnd st r ls sub br m1 hl hf)
    split
    · intro x m' e
      simp only [Option.some.injEq, Prod.mk.injEq] at e
      obtain ⟨rfl, rfl⟩ := e
      simp only [Lf.wt]; omega
    · split
      · exact ask_bnd hl fun m1 => first_bnd st xs sub _ m1 hf
      · exact ask_bnd hl fun m1 => first_bnd st xs .nil _ m1 trivial
theorem first_bnd (st : Int) : ∀ (s : Ls) (t : Rc) (br : Bool) (m : Nat), t.fine → BndF s.wt m (s.goFirst st t br m)
  | .nil, t, br, m, _ => fun x m' e => by rw [Ls.goFirst] at e; cases e
  | .sub l r, t, br, m, hf => fun x m' e => by
    rw [Ls.goFirst] at e
    have := rw_bnd (go_bnd st l t br m hf) x m' e
    simp only [Ls.wt]; omega
theorem loop_bnd (st : Int) : ∀ (s : Ls) (ls : List (List Pk)) (t : Rc) (br : Bool) (m : Nat), linesW ls ≤ 1048576 → t.fine → Bnd (1 + s.wt) m (s.goLoop st ls t br m)
  | .nil, ls, t, br, m, _, _ => fun x m' e => by rw [Ls.goLoop] at e; cases e
  | .sub l r, ls, t, br, m, hl, hf => fun x m' e => by
    rw [Ls.goLoop] at e
    cases hc : l.goAsk st ls t br m with
    | none => rw [hc] at e; cases e
    | some p =>
      obtain ⟨c, m2⟩ := p
      rw [hc] at e
      simp only [Option.some.injEq, Prod.mk.injEq] at e
      obtain ⟨rfl, rfl⟩ := e
      have := ask_all_bnd st l ls t br m hl hf c m2 hc
      simp only [Lf.wt, Ls.wt, List.length_nil]; omega
theorem call_bnd (st : Int) : ∀ (s : Ls) (bl : List (List Pk)) (t : Rc) (br : Bool) (m : Nat), linesW bl ≤ 1048576 → t.fine → ∀ x m', s.goCall st bl t br m = some (x, m') → x.wt + cap6 m ≤ s.wt + cap6 m' ∧ m ≤ m' ∧ m' + 1048576 ≤ m + 2097152 * s.wt
  | .nil, bl, t, br, m, _, _ => fun x m' e => by rw [Ls.goCall] at e; cases e
  | .sub l r, bl, t, br, m, hl, hf => fun x m' e => by
    rw [Ls.goCall] at e
    obtain ⟨y, m1, z, hR, e2, rfl⟩ := then2_some e
    have a1 := rw_bnd (go_bnd st l t br m hf) y m1 hR
    have a2 : z.wt + cap6 m1 ≤ cap6 m' ∧ m1 ≤ m' ∧ m' ≤ m1 + 1048576 := by
      split at e2
      · simp only [Option.some.injEq, Prod.mk.injEq] at e2
        obtain ⟨rfl, rfl⟩ := e2
        simp only [Lf.wt]; omega
      · exact lay_bnd hl z m' e2
    rw [Lf.cat_wt]
    simp only [Ls.wt]; omega
theorem rounds_bnd (st : Int) : ∀ (s : Ls) (t : Rs) (br : Bool) (m : Nat), t.fine → Bnd s.wt m (s.goRounds st t br m)
  | .nil, t, br, m, _ => fun x m' e => by
    rw [Ls.goRounds] at e
    simp only [Option.some.injEq, Prod.mk.injEq] at e
    obtain ⟨rfl, rfl⟩ := e
    simp [Lf.wt]
  | .sub l r, .nil, br, m, _ => fun x m' e => by rw [Ls.goRounds] at e; cases e
  | .sub l r, .sub t tr, br, m, hf => by
    rw [Ls.goRounds]
    exact (then2_bnd (rw_bnd (go_bnd st l t _ m hf.1)) (fun m1 => rounds_bnd st r tr br m1 hf.2)).mono (by simp only [Ls.wt]; omega)
theorem each_bnd (st : Int) : ∀ (s : Ls) (t : Rc) (br : Bool) (m : Nat), t.fine → ∀ c m', s.goEach st t br m = some (c, m') → c.wt + cap6 m ≤ s.wt + cap6 m' ∧ m ≤ m' ∧ m' ≤ m + 2097152 * s.wt
  | .nil, t, br, m, _ => fun x m' e => by
    rw [Ls.goEach] at e
    simp only [Option.some.injEq, Prod.mk.injEq] at e
    obtain ⟨rfl, rfl⟩ := e
    simp [Ls.wt]
  | .sub l r, t, br, m, hf => fun x m' e => by
    rw [Ls.goEach] at e
    cases hc : (if asMany t.len l.len (br && r.len == 0) = true then Lf.go st l t (br && r.len == 0) m else none) with
    | none => rw [hc] at e; cases e
    | some p =>
      obtain ⟨c, m1⟩ := p
      rw [hc] at e
      dsimp only at e
      cases hd : r.goEach st t br m1 with
      | none => rw [hd] at e; cases e
      | some p =>
        obtain ⟨cs, m2⟩ := p
        rw [hd] at e
        simp only [Option.some.injEq, Prod.mk.injEq] at e
        obtain ⟨rfl, rfl⟩ := e
        have a1 := rw_bnd (go_bnd st l t (br && r.len == 0) m hf) c m1 hc
        have a2 := each_bnd st r t br m1 hf cs m2 hd
        simp only [Ls.wt]; omega
end
end Go.Proofs.Ytcadeeldogknmaa
