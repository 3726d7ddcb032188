/- What is asked of an expression. -/
import Derived.Test.YtnghehcjklkoeaaF1
import Derived.Test.YtnghehcjklkoeaaJ6
namespace Go.Proofs.Ytnghehcjklkoeaa
open Go.RowKit

def argsN (op : Int) : Int := if op < 1 ∨ 21 < op then -1 else if op ≤ 2 then 0 else if op ≤ 5 then 1 else if op ≤ 20 then 2 else 3
theorem argsOf_any (op : Int) (w : World) : Calls Try.prog 114 #[.int .i64 op] w fun z w' => z = .returned (.int .i64 (argsN op)) ∧ w = w' := by
  unfold argsN
  by_cases h1 : op < 1
  · have e : decide (op < 1) = true := decide_eq_true h1
    rw [if_pos (.inl h1)]
    go_enter Try.func114, Try.ntmps114
    go_wp2_with fail
    go_ret
    exact ⟨rfl, rfl⟩
  by_cases h2 : 21 < op
  · have e : decide (op < 1) = false := decide_eq_false h1
    rw [if_pos (.inr h2)]
    go_enter Try.func114, Try.ntmps114
    go_wp2_with fail
    go_ret
    exact ⟨rfl, rfl⟩
  rw [if_neg (by omega)]
  by_cases h3 : op ≤ 2
  · rw [if_pos h3]
    go_enter Try.func114, Try.ntmps114
    go_wp2_with fail
    go_ret
    exact ⟨rfl, rfl⟩
  rw [if_neg h3]
  by_cases h4 : op ≤ 5
  · rw [if_pos h4]
    go_enter Try.func114, Try.ntmps114
    go_wp2_with fail
    go_ret
    exact ⟨rfl, rfl⟩
  rw [if_neg h4]
  by_cases h5 : op ≤ 20
  · rw [if_pos h5]
    go_enter Try.func114, Try.ntmps114
    go_wp2_with fail
    go_ret
    exact ⟨rfl, rfl⟩
  · rw [if_neg h5]
    go_enter Try.func114, Try.ntmps114
    go_wp2_with fail
    go_ret
    exact ⟨rfl, rfl⟩
def shapeB (e : Ex) : Bool := (((e.args.len : Nat) : Int) == argsN e.op) && ((((e.word : Nat) : Int) == 0) || (e.op == 1))
def headR (x : Prg) (fn : Fnc) (e : Ex) : Nat := if e.op = 2 then wordR x fn e.name else if e.op = 3 then arrayR x fn e.name else ask e.name.isEmpty 9
mutual
def Ex.chk (x : Prg) (fn : Fnc) : Ex → Nat → Nat
  | .mk op wd nm a, deep => seq (ask (decide (deep ≤ 64)) 12) (seq (ask (shapeB (.mk op wd nm a)) 9) (seq (headR x fn (.mk op wd nm a)) (a.chk x fn (deep + 1))))
def Exs.chk (x : Prg) (fn : Fnc) : Exs → Nat → Nat
  | .nil, _ => 0
  | .cons e r, deep => seq (e.chk x fn deep) (r.chk x fn deep)
end
theorem Ex.chk_eq (x : Prg) (fn : Fnc) (e : Ex) (deep : Nat) : e.chk x fn deep = seq (ask (decide (deep ≤ 64)) 12) (seq (ask (shapeB e) 9) (seq (headR x fn e) (e.args.chk x fn (deep + 1)))) := by
  obtain ⟨op, wd, nm, ar⟩ := e; rw [Ex.chk]; rfl
def Plc.down (t : Plc) : Plc := { t with deep := t.deep + 1 }
theorem PlOk.down {w : World} {N : Nat} {x : Prg} {s : PrgP} {fn : Fnc} {f : List UInt8 → Nat} {t : Plc} (h : PlOk w N x s fn f t) : PlOk w N x s fn f t.down := ⟨h.pb, h.ok, h.fi, h.mp, h.ar, h.cap, h.hN⟩
/-- the place's depth is one more -/
theorem down_obj {W : World} {g : Nat} {t : Plc} (k : W.heap[g]? = some t.obj) : (W.setCell ⟨g, 4, none⟩ (.int .i64 ((t.deep : Int) + 1))).heap[g]? = some t.down.obj := by
  unfold Plc.obj at k
  have hc : ((t.deep + 1 : Nat) : Int) = (t.deep : Int) + 1 := by omega
  unfold Plc.obj Plc.down
  simp only [hc]
  rw [setCell_eq_setRow W g 4 _ 80 (0, 0) _ k]
  exact setRow_heap W g _ _ 80 (0, 0) k
theorem must_y (e : Int) (w : World) : Calls Try.prog 57 #[.bool true, .int .i64 e] w fun z w' => z = .returned (.tuple #[]) ∧ w = w' := (must_yes e w).mono fun _ _ h => ⟨h.1, h.2.symm⟩
theorem must_n (e : Int) (w : World) : Calls Try.prog 57 #[.bool false, .int .i64 e] w fun z w' => z = Pn e ∧ w = w' := (must_no e w).mono fun _ _ h => ⟨h.1, h.2.symm⟩
def ExprTo (m : Nat) : Prop := ∀ (e : Ex), e.size < m → ∀ (x : Prg) (s : PrgP) (fn : Fnc) (f : List UInt8 → Nat) (t : Plc) (b o N : Nat) (w : World), PlOk w N x s fn f t → e.At w N b o → b < N → t.deep ≤ 1000 →
    Calls Try.prog 104 #[t.v, .pointer (some ⟨b, o, none⟩)] w (Chk (e.chk x fn t.deep) w)
set_option maxRecDepth 100000 in
set_option maxHeartbeats 12800000 in
theorem expr_step (m : Nat) (ih : ExprTo m) : ExprTo (m + 1) := by
  intro e hem x s fn f t b o N w h he hb htd
  obtain ⟨W0, hW0, k0, hB0, hz0⟩ := one_alloc w t.obj
  have h0 := h.later hB0
  have hNw := h.hN
  have hbN : b < w.heap.size := Nat.lt_of_lt_of_le hb h.hN
  obtain ⟨pa, ca, g0, g1, g2, g3, hok⟩ := he.open'
  have hsz : e.args.size + 1 = e.size := by obtain ⟨op, wd, nm, ar⟩ := e; rw [Ex.size]; rfl
  have HU := Lib.hid (fun (W : World) (hB : Below W0.heap.size W0 W) => show Below w.heap.size w W from hB0.trans (hB.mono (by omega)))
  have HS := Lib.hid (fun (W : World) (hB : Below w.heap.size w W) => show W.cell? ⟨b, o, none⟩ = some (.int .i64 e.op) ∧ W.cell? ⟨b, o + 1, none⟩ = some (.int .u64 (e.word : Int)) ∧ W.cell? ⟨b, o + 2, none⟩ = some (.string (str e.name)) ∧ W.cell? ⟨b, o + 3, none⟩ = some (.slice pa e.args.len ca) from
    ⟨(hB.cell (p := ⟨b, o, none⟩) hbN).trans g0, (hB.cell (p := ⟨b, o + 1, none⟩) hbN).trans g1, (hB.cell (p := ⟨b, o + 2, none⟩) hbN).trans g2, (hB.cell (p := ⟨b, o + 3, none⟩) hbN).trans g3⟩)
  have HK := Lib.hid (fun (W : World) (hB : Below W0.heap.size W0 W) => show W.heap[w.heap.size]? = some t.obj from (hB.block _ (lt_blk k0)).trans k0)
  have HPl := Lib.hid (fun (W : World) (hB : Below w.heap.size w W) => h.later hB)
  have HWd := Lib.hid (fun (W : World) (hB : Below W0.heap.size W0 W) => word_any x s fn f t e.name N W (h0.later hB))
  have HAr := Lib.hid (fun (W : World) (hB : Below W0.heap.size W0 W) => array_any x s fn f t e.name N W (h0.later hB))
  have HW0 := Lib.hid hW0
  have HNo := Lib.hid (fun (w' : World) (r : Nat) (hr : e.chk x fn t.deep = r) (h0 : r ≠ 0) (hB : Below w.heap.size w w') => show Chk (e.chk x fn t.deep) w (Pn (r : Int)) w' from Chk.no' hr h0 hB)
  have HOK := Lib.hid (fun (w' : World) (hr : e.chk x fn t.deep = 0) (hB : Below w.heap.size w w') => show Chk (e.chk x fn t.deep) w (.returned (.tuple #[])) w' from .ok hr hB)
  have HEq := Lib.hid (Ex.chk_eq x fn e t.deep)
  have IH := Lib.hid ih
  have hma := hok.1.1
  obtain ⟨b2, o2, hq2, hb2, ha2⟩ : ∃ b2 o2, (e.args.len = 0 ∨ pa = some ⟨b2, o2, none⟩) ∧ (b2 < N ∨ e.args.len = 0) ∧ e.args.At w N b2 o2 := by
    rcases hok.1.2 with h0 | ⟨b, o, hp, hb, ha⟩
    · exact ⟨0, 0, .inl h0, .inr h0, by cases hxa : e.args with | nil => trivial | cons => rw [hxa] at h0; simp [Exs.len] at h0⟩
    · exact ⟨b, o, .inr hp, .inl hb, ha⟩
  have HA2 := Lib.hid (And.intro ha2 hb2)
  have HZ0 := Lib.hid hz0
  have HB0 := Lib.hid hB0
  obtain ⟨c0, c1, c2, c3, c4⟩ := Plc.cells k0
  unfold Plc.v at HWd HAr ⊢
  unfold Pn at HNo
  unfold Plc.obj at HW0
  clear h0 hW0 k0 hB0 hz0 h he hb ih g0 g1 g2 g3 hok hb2 ha2
  go_enter Try.func104, Try.ntmps104
  go_upto_region 1 with fail
  rw [HW0.out]
  clear HW0
  by_cases hd : t.deep ≤ 64
  rotate_left
  · have HR := Lib.hid (HNo.out W0 12 (by rw [HEq.out, show decide (t.deep ≤ 64) = false from decide_eq_false hd]; rfl) (by decide) HB0.out)
    have hdi : decide ((t.deep : Int) ≤ 64) = false := decide_eq_false (by omega)
    go_wp2_with (go_at_call 57; refine (must_n 12 _).mono ?_; rintro e w' ⟨rfl, rfl⟩; unfold Pn)
    exact ⟨rfl, HR.out⟩
  have R1 := Lib.hid (show e.chk x fn t.deep = seq (ask (shapeB e) 9) (seq (headR x fn e) (e.args.chk x fn (t.deep + 1))) by rw [HEq.out, show decide (t.deep ≤ 64) = true from decide_eq_true hd]; rfl)
  have hdi : decide ((t.deep : Int) ≤ 64) = true := decide_eq_true (by omega)
  obtain ⟨s0, s1, s2, s3⟩ := HS.out _ HB0.out
  go_upto_region 2 with (go_at_call 57; refine (must_y 12 _).mono ?_; rintro e w' ⟨rfl, rfl⟩)
  go_cut [] from 9 to 34 (fun wx => Hid (wx = W0.drew) ∧ Hid (shapeB e = true))
  case first =>
    have HT := Lib.hid (show ((((e.args.len : Nat) : Int) == argsN e.op) && ((((e.word : Nat) : Int) == 0) || (e.op == 1))) = shapeB e from rfl)
    have HAg := Lib.hid (argsOf_any e.op)
    generalize e1 : (((e.args.len : Nat) : Int) == argsN e.op) = t1 at HT
    generalize e2 : (((e.word : Nat) : Int) == 0) = t2 at HT
    generalize e3 : (e.op == 1) = t3 at HT
    generalize argsN e.op = an at e1 HAg
    refine wp_region_held_drew (S := fun W => W.cell? ⟨b, o, none⟩ = some (.int .i64 e.op) ∧ W.cell? ⟨b, o + 1, none⟩ = some (.int .u64 (e.word : Int)) ∧ W.cell? ⟨b, o + 3, none⟩ = some (.slice pa e.args.len ca)) (by kernel_rfl) ?_ (fun hHeld => ?_)
    · exact ⟨s0, s1, s3⟩
    refine tk 0 ?_ rfl (.inl ⟨by rfl, ?_⟩) ?_
    rotate_left
    · (intro w hSw; (try dsimp only at hSw); go_simp; try with_reducible rfl)
    try simp only [Act.put, List.setIfInBounds_toArray, List.set_cons_zero, List.set_cons_succ]
    refine tk 1 ?_ rfl (.inl ⟨by rfl, ?_⟩) ?_
    rotate_left
    · (intro w hSw; (try dsimp only at hSw); go_simp; try with_reducible rfl)
    try simp only [Act.put, List.setIfInBounds_toArray, List.set_cons_zero, List.set_cons_succ]
    refine tk 2 ?_ rfl (.inl ⟨by rfl, ?_⟩) ?_
    rotate_left
    · (intro w hSw; (try dsimp only at hSw); go_simp; try with_reducible rfl)
    try simp only [Act.put, List.setIfInBounds_toArray, List.set_cons_zero, List.set_cons_succ]
    refine tk 3 ?_ rfl (.inl ⟨by rfl, ?_⟩) ?_
    rotate_left
    · (intro w hSw; (try dsimp only at hSw); go_simp; try with_reducible rfl)
    try simp only [Act.put, List.setIfInBounds_toArray, List.set_cons_zero, List.set_cons_succ]
    refine tk 4 ?_ rfl (.inl ⟨by rfl, ?_⟩) ?_
    rotate_left
    · (intro w hSw; (try dsimp only at hSw); go_simp; try with_reducible rfl)
    try simp only [Act.put, List.setIfInBounds_toArray, List.set_cons_zero, List.set_cons_succ]
    refine tk 5 ?_ rfl (.inl ⟨by rfl, ?_⟩) ?_
    rotate_left
    · (intro w hSw; (try dsimp only at hSw); go_simp; try with_reducible rfl)
    try simp only [Act.put, List.setIfInBounds_toArray, List.set_cons_zero, List.set_cons_succ]
    refine tk 6 ?_ rfl (.inl ⟨by rfl, ?_⟩) ?_
    rotate_left
    · (intro w hSw; (try dsimp only at hSw); go_simp; try with_reducible rfl)
    try simp only [Act.put, List.setIfInBounds_toArray, List.set_cons_zero, List.set_cons_succ]
    refine tk 7 ?_ rfl (.inl ⟨by rfl, ?_⟩) ?_
    rotate_left
    · (intro w hSw; (try dsimp only at hSw); go_simp; try with_reducible rfl)
    try simp only [Act.put, List.setIfInBounds_toArray, List.set_cons_zero, List.set_cons_succ]
    refine tk 8 ?_ rfl (.inl ⟨by rfl, ?_⟩) ?_
    rotate_left
    · (intro w hSw; (try dsimp only at hSw); go_simp; try with_reducible rfl)
    try simp only [Act.put, List.setIfInBounds_toArray, List.set_cons_zero, List.set_cons_succ]
    refine wpAnyH_ready (rs := [9]) (by kernel_rfl) (by simp) ?_
    refine rdy rfl (fun K hK => ?_) AllReadyH.nil
    go_simp
    refine (HAg.out _).mono ?_
    rintro z w2 ⟨rfl, hw⟩
    subst hw
    refine hK.out _ _ ?_ (fun hHeld => ?_)
    · exact ⟨s0, s1, s3⟩
    clear hK K
    try simp only [Act.put, List.setIfInBounds_toArray, List.set_cons_zero, List.set_cons_succ]
    refine tk 10 ?_ rfl (.inl ⟨by rfl, ?_⟩) ?_
    rotate_left
    · (intro w hSw; (try dsimp only at hSw); go_simp; try with_reducible rfl)
    try simp only [Act.put, List.setIfInBounds_toArray, List.set_cons_zero, List.set_cons_succ]
    refine tk 11 ?_ rfl (.inl ⟨by rfl, ?_⟩) ?_
    rotate_left
    · (intro w hSw; (try dsimp only at hSw); go_simp; try with_reducible rfl)
    try simp only [Act.put, List.setIfInBounds_toArray, List.set_cons_zero, List.set_cons_succ]
    cases t1
    · refine tk 12 undef rfl (.inr ⟨by rfl, rfl⟩) ?_
      try simp only [Act.put, List.setIfInBounds_toArray, List.set_cons_zero, List.set_cons_succ]
      refine tk 13 undef rfl (.inr ⟨by rfl, rfl⟩) ?_
      try simp only [Act.put, List.setIfInBounds_toArray, List.set_cons_zero, List.set_cons_succ]
      refine tk 14 undef rfl (.inr ⟨by rfl, rfl⟩) ?_
      try simp only [Act.put, List.setIfInBounds_toArray, List.set_cons_zero, List.set_cons_succ]
      refine tk 15 undef rfl (.inr ⟨by rfl, rfl⟩) ?_
      try simp only [Act.put, List.setIfInBounds_toArray, List.set_cons_zero, List.set_cons_succ]
      refine tk 16 undef rfl (.inr ⟨by rfl, rfl⟩) ?_
      try simp only [Act.put, List.setIfInBounds_toArray, List.set_cons_zero, List.set_cons_succ]
      refine tk 17 undef rfl (.inr ⟨by rfl, rfl⟩) ?_
      try simp only [Act.put, List.setIfInBounds_toArray, List.set_cons_zero, List.set_cons_succ]
      refine tk 18 undef rfl (.inr ⟨by rfl, rfl⟩) ?_
      try simp only [Act.put, List.setIfInBounds_toArray, List.set_cons_zero, List.set_cons_succ]
      refine tk 19 undef rfl (.inr ⟨by rfl, rfl⟩) ?_
      try simp only [Act.put, List.setIfInBounds_toArray, List.set_cons_zero, List.set_cons_succ]
      refine tk 20 undef rfl (.inr ⟨by rfl, rfl⟩) ?_
      try simp only [Act.put, List.setIfInBounds_toArray, List.set_cons_zero, List.set_cons_succ]
      refine tk 21 undef rfl (.inr ⟨by rfl, rfl⟩) ?_
      try simp only [Act.put, List.setIfInBounds_toArray, List.set_cons_zero, List.set_cons_succ]
      refine tk 22 undef rfl (.inr ⟨by rfl, rfl⟩) ?_
      try simp only [Act.put, List.setIfInBounds_toArray, List.set_cons_zero, List.set_cons_succ]
      refine tk 23 undef rfl (.inr ⟨by rfl, rfl⟩) ?_
      try simp only [Act.put, List.setIfInBounds_toArray, List.set_cons_zero, List.set_cons_succ]
      refine tk 24 ?_ rfl (.inl ⟨by rfl, ?_⟩) ?_
      rotate_left
      · (intro w hSw; (try dsimp only at hSw); go_simp; try with_reducible rfl)
      try simp only [Act.put, List.setIfInBounds_toArray, List.set_cons_zero, List.set_cons_succ]
      have HR := Lib.hid (HNo.out W0.drew 9 (by rw [R1.out, ← HT.out]; rfl) (by decide) HB0.out.drew)
      refine wpAnyH_ready (rs := [25]) (by kernel_rfl) (by simp) ?_
      refine rdy rfl (fun K hK => ?_) AllReadyH.nil
      go_simp
      refine (must_no 9 _).mono ?_
      rintro e w' ⟨rfl, hw⟩
      subst hw
      unfold Pn
      exact ⟨rfl, HR.out⟩
    refine tk 12 ?_ rfl (.inl ⟨by rfl, ?_⟩) ?_
    rotate_left
    · (intro w hSw; (try dsimp only at hSw); go_simp; try with_reducible rfl)
    try simp only [Act.put, List.setIfInBounds_toArray, List.set_cons_zero, List.set_cons_succ]
    refine tk 13 ?_ rfl (.inl ⟨by rfl, ?_⟩) ?_
    rotate_left
    · (intro w hSw; (try dsimp only at hSw); go_simp; try with_reducible rfl)
    try simp only [Act.put, List.setIfInBounds_toArray, List.set_cons_zero, List.set_cons_succ]
    refine tk 14 ?_ rfl (.inl ⟨by rfl, ?_⟩) ?_
    rotate_left
    · (intro w hSw; (try dsimp only at hSw); go_simp; try with_reducible rfl)
    try simp only [Act.put, List.setIfInBounds_toArray, List.set_cons_zero, List.set_cons_succ]
    refine tk 15 ?_ rfl (.inl ⟨by rfl, ?_⟩) ?_
    rotate_left
    · (intro w hSw; (try dsimp only at hSw); go_simp; try with_reducible rfl)
    try simp only [Act.put, List.setIfInBounds_toArray, List.set_cons_zero, List.set_cons_succ]
    refine tk 16 ?_ rfl (.inl ⟨by rfl, ?_⟩) ?_
    rotate_left
    · (intro w hSw; (try dsimp only at hSw); go_simp; try with_reducible rfl)
    try simp only [Act.put, List.setIfInBounds_toArray, List.set_cons_zero, List.set_cons_succ]
    refine tk 17 ?_ rfl (.inl ⟨by rfl, ?_⟩) ?_
    rotate_left
    · (intro w hSw; (try dsimp only at hSw); go_simp; try with_reducible rfl)
    try simp only [Act.put, List.setIfInBounds_toArray, List.set_cons_zero, List.set_cons_succ]
    cases t2
    rotate_left
    · refine tk 18 undef rfl (.inr ⟨by rfl, rfl⟩) ?_
      try simp only [Act.put, List.setIfInBounds_toArray, List.set_cons_zero, List.set_cons_succ]
      refine tk 19 undef rfl (.inr ⟨by rfl, rfl⟩) ?_
      try simp only [Act.put, List.setIfInBounds_toArray, List.set_cons_zero, List.set_cons_succ]
      refine tk 20 undef rfl (.inr ⟨by rfl, rfl⟩) ?_
      try simp only [Act.put, List.setIfInBounds_toArray, List.set_cons_zero, List.set_cons_succ]
      refine tk 21 undef rfl (.inr ⟨by rfl, rfl⟩) ?_
      try simp only [Act.put, List.setIfInBounds_toArray, List.set_cons_zero, List.set_cons_succ]
      refine tk 22 undef rfl (.inr ⟨by rfl, rfl⟩) ?_
      try simp only [Act.put, List.setIfInBounds_toArray, List.set_cons_zero, List.set_cons_succ]
      refine tk 23 ?_ rfl (.inl ⟨by rfl, ?_⟩) ?_
      rotate_left
      · (intro w hSw; (try dsimp only at hSw); go_simp; try with_reducible rfl)
      try simp only [Act.put, List.setIfInBounds_toArray, List.set_cons_zero, List.set_cons_succ]
      refine tk 24 ?_ rfl (.inl ⟨by rfl, ?_⟩) ?_
      rotate_left
      · (intro w hSw; (try dsimp only at hSw); go_simp; try with_reducible rfl)
      try simp only [Act.put, List.setIfInBounds_toArray, List.set_cons_zero, List.set_cons_succ]
      refine wpAnyH_ready (rs := [25]) (by kernel_rfl) (by simp) ?_
      refine rdy rfl (fun K hK => ?_) AllReadyH.nil
      go_simp
      refine (must_yes 9 _).mono ?_
      rintro e w' ⟨rfl, hw⟩
      subst hw
      refine hK.out _ _ ?_ (fun hHeld => ?_)
      · exact ⟨s0, s1, s3⟩
      clear hK K
      try simp only [Act.put, List.setIfInBounds_toArray, List.set_cons_zero, List.set_cons_succ]
      refine wpAnyH_done (by kernel_rfl) ?_ _
      go_wp2_with fail
      go_meet
      exact ⟨Lib.hid rfl, Lib.hid HT.out.symm⟩
    refine tk 18 ?_ rfl (.inl ⟨by rfl, ?_⟩) ?_
    rotate_left
    · (intro w hSw; (try dsimp only at hSw); go_simp; try with_reducible rfl)
    try simp only [Act.put, List.setIfInBounds_toArray, List.set_cons_zero, List.set_cons_succ]
    refine tk 19 ?_ rfl (.inl ⟨by rfl, ?_⟩) ?_
    rotate_left
    · (intro w hSw; (try dsimp only at hSw); go_simp; try with_reducible rfl)
    try simp only [Act.put, List.setIfInBounds_toArray, List.set_cons_zero, List.set_cons_succ]
    refine tk 20 ?_ rfl (.inl ⟨by rfl, ?_⟩) ?_
    rotate_left
    · (intro w hSw; (try dsimp only at hSw); go_simp; try with_reducible rfl)
    try simp only [Act.put, List.setIfInBounds_toArray, List.set_cons_zero, List.set_cons_succ]
    refine tk 21 ?_ rfl (.inl ⟨by rfl, ?_⟩) ?_
    rotate_left
    · (intro w hSw; (try dsimp only at hSw); go_simp; try with_reducible rfl)
    try simp only [Act.put, List.setIfInBounds_toArray, List.set_cons_zero, List.set_cons_succ]
    refine tk 22 ?_ rfl (.inl ⟨by rfl, ?_⟩) ?_
    rotate_left
    · (intro w hSw; (try dsimp only at hSw); go_simp; try with_reducible rfl)
    try simp only [Act.put, List.setIfInBounds_toArray, List.set_cons_zero, List.set_cons_succ]
    refine tk 23 ?_ rfl (.inl ⟨by rfl, ?_⟩) ?_
    rotate_left
    · (intro w hSw; (try dsimp only at hSw); go_simp; try with_reducible rfl)
    try simp only [Act.put, List.setIfInBounds_toArray, List.set_cons_zero, List.set_cons_succ]
    refine tk 24 ?_ rfl (.inl ⟨by rfl, ?_⟩) ?_
    rotate_left
    · (intro w hSw; (try dsimp only at hSw); go_simp; try with_reducible rfl)
    try simp only [Act.put, List.setIfInBounds_toArray, List.set_cons_zero, List.set_cons_succ]
    cases t3
    · have HR := Lib.hid (HNo.out W0.drew 9 (by rw [R1.out, ← HT.out]; rfl) (by decide) HB0.out.drew)
      refine wpAnyH_ready (rs := [25]) (by kernel_rfl) (by simp) ?_
      refine rdy rfl (fun K hK => ?_) AllReadyH.nil
      go_simp
      refine (must_no 9 _).mono ?_
      rintro e w' ⟨rfl, hw⟩
      subst hw
      unfold Pn
      exact ⟨rfl, HR.out⟩
    refine wpAnyH_ready (rs := [25]) (by kernel_rfl) (by simp) ?_
    refine rdy rfl (fun K hK => ?_) AllReadyH.nil
    go_simp
    refine (must_yes 9 _).mono ?_
    rintro e w' ⟨rfl, hw⟩
    subst hw
    refine hK.out _ _ ?_ (fun hHeld => ?_)
    · exact ⟨s0, s1, s3⟩
    clear hK K
    try simp only [Act.put, List.setIfInBounds_toArray, List.set_cons_zero, List.set_cons_succ]
    refine wpAnyH_done (by kernel_rfl) ?_ _
    go_wp2_with fail
    go_meet
    exact ⟨Lib.hid rfl, Lib.hid HT.out.symm⟩
  case rest =>
    obtain ⟨hwx, hsh⟩ := hcut
    rw [hwx.out]
    have R2 := Lib.hid (show e.chk x fn t.deep = seq (headR x fn e) (e.args.chk x fn (t.deep + 1)) by rw [R1.out, hsh.out]; rfl)
    have hwd : IntKind.i64.wrap ((t.deep : Int) + 1) = (t.deep : Int) + 1 := by simp [IntKind.wrap, IntKind.bits, IntKind.signed]; omega
    have HB1 := Lib.hid (show Below W0.heap.size W0 W0.drew from (Below.refl _ _).drew)
    clear hwx hsh R1 HEq hdi
    have HTail := Lib.hid (fun (W : World) (hB : Below W0.heap.size W0 W) => show Below w.heap.size w (W.setCell ⟨w.heap.size, 4, none⟩ (.int .i64 ((t.deep : Int) + 1))) ∧ (W.setCell ⟨w.heap.size, 4, none⟩ (.int .i64 ((t.deep : Int) + 1))).heap[w.heap.size]? = some t.down.obj from
      ⟨(HU.out W hB).setCell (p := ⟨w.heap.size, 4, none⟩) (Nat.le_refl _) _, down_obj (HK.out W hB)⟩)
    have HP := Lib.hid (fun (W : World) (hB : Below W0.heap.size W0 W) => Plc.cells (HK.out W hB))
    generalize W0.drew = wx at HB1 ⊢
    clear s0 s1 s2 s3 c0 c1 c2 c3 c4
    obtain ⟨c0, c1, c2, c3, c4⟩ := HP.out _ HB1.out
    obtain ⟨s0, s1, s2, s3⟩ := HS.out _ (HU.out _ HB1.out)
    by_cases o2' : e.op = 2
    · have e2' : (e.op == 2) = true := by simp [o2']
      have HH := Lib.hid (show headR x fn e = wordR x fn e.name by unfold headR; rw [if_pos o2'])
      clear o2'
      go_wp2_with fail
      go_still_tail 5, (by kernel_rfl)
      change wpList _ _ _ _ _ (World.drew _)
      go_wp2_with fail
      refine (HWd.out _ HB1.out.drew).mono ?_
      intro z w2 hc
      rcases hc with ⟨r1, hB2⟩ | ⟨r1, hB2⟩
      rotate_left
      · have HR := Lib.hid (HNo.out w2 _ (by rw [R2.out, HH.out, seq_no r1]) r1 (HU.out _ (HB1.out.drew.trans (hB2.mono HB1.out.drew.size))))
        unfold Pn
        clear hB2 r1 c0 c1 c2 c3 c4 s0 s1 s2 s3
        go_wp2_with fail
        exact ⟨rfl, HR.out⟩
      have R3 := Lib.hid (show e.chk x fn t.deep = e.args.chk x fn (t.deep + 1) by rw [R2.out, HH.out, r1]; rfl)
      have HB2 := Lib.hid (HB1.out.drew.trans (hB2.mono HB1.out.drew.size))
      clear hB2 r1 c0 c1 c2 c3 c4 s0 s1 s2 s3
      obtain ⟨c0, c1, c2, c3, c4⟩ := HP.out _ HB2.out
      obtain ⟨s0, s1, s2, s3⟩ := HS.out _ (HU.out _ HB2.out)
      have f4 : w2.frozen? ⟨w.heap.size, 4, none⟩ = false := by simp [World.frozen?, show w2.heap[w.heap.size]? = some t.obj from HK.out _ HB2.out, Plc.obj]
      obtain ⟨hBd, hKd⟩ := HTail.out w2 HB2.out
      obtain ⟨Wd, hWd⟩ : ∃ Wd, w2.setCell ⟨w.heap.size, 4, none⟩ (.int .i64 ((t.deep : Int) + 1)) = Wd := ⟨_, rfl⟩
      rw [hWd] at hBd hKd
      have HBd := Lib.hid hBd
      have HKd := Lib.hid hKd
      have HWd := Lib.hid hWd
      have HLd := Lib.hid (show w.heap.size < Wd.heap.size from lt_blk hKd)
      obtain ⟨s0', s1', s2', s3'⟩ := HS.out _ hBd
      clear hBd hKd hWd
      go_upto_region 10 with fail
      rw [HWd.out]
      clear c0 c1 c2 c3 c4 s0 s1 s2 s3 f4 HWd
      go_wp2_with fail
      clear s0' s1' s2' s3'
      go_loopw [70] (fun i wr => ∃ (k : Nat) (r : Exs), i = .int .i64 k ∧ k + r.len = e.args.len ∧ r.size ≤ e.args.size ∧ Hid (r.At w N b2 (o2 + k * 4)) ∧ Hid (Below Wd.heap.size Wd wr) ∧ Hid (e.chk x fn t.deep = r.chk x fn (t.deep + 1))) (fun i _ => e.args.len - (intOf i).toNat)
      case atStart => exact ⟨0, e.args, rfl, by omega, Nat.le_refl _, Lib.hid (by rw [Nat.zero_mul]; exact HA2.out.1), Lib.hid (Below.refl _ _), R3⟩
      case round =>
        obtain ⟨k, r, rfl, hk, hrs, hr, hB, hE⟩ := hrel
        have hBw := HBd.out.trans (hB.out.mono (Nat.le_of_lt HLd.out))
        cases r with
        | nil =>
          simp only [Exs.len] at hk
          have hge : ¬ k < e.args.len := by omega
          have HR := Lib.hid (HOK.out wr (by rw [hE.out, Exs.chk]) hBw)
          clear hBw
          go_wp2_with fail
          go_end0
          exact HR.out
        | cons y r =>
          obtain ⟨hy, hr'⟩ := hr.out
          simp only [Exs.len] at hk
          simp only [Exs.size] at hrs
          have hlt : k < e.args.len := by omega
          have hb2N : b2 < N := by have := HA2.out.2; omega
          have hpa : pa = some ⟨b2, o2, none⟩ := by
            rcases hq2 with h0 | h0
            · omega
            · exact h0
          have HR := Lib.hid hr'
          have kd := (hB.out.block _ HLd.out).trans HKd.out
          obtain ⟨c0, c1, c2, c3, c4⟩ := Plc.cells kd
          obtain ⟨s0, s1, s2, s3⟩ := HS.out _ hBw
          subst hpa
          have HC := Lib.hid (IH.out y (by omega) x s fn f t.down b2 (o2 + k * 4) N wr.drew ((HPl.out _ hBw.drew).down) (Ex.At.later (hBw.drew.mono hNw) (Nat.le_refl N) y b2 _ hb2N hy) hb2N (show t.deep + 1 ≤ 1000 by omega))
          have HBw := Lib.hid hBw
          unfold Plc.v at HC
          clear hy hr hr' kd hBw hb2N
          go_wp2_with fail
          go_still_tail 7, (by kernel_rfl)
          change wpList _ _ _ _ _ (World.drew _)
          go_wp2_with fail
          refine HC.out.mono ?_
          intro z w5 hc
          rcases hc with ⟨r1, hB5⟩ | ⟨r1, hB5⟩
          rotate_left
          · have HR := Lib.hid (HNo.out w5 _ (by rw [hE.out, Exs.chk]; exact seq_no r1) r1 (HBw.out.drew.trans (hB5.mono HBw.out.size)))
            unfold Pn
            clear hB5 r1 c0 c1 c2 c3 c4 s0 s1 s2 s3
            go_wp2_with fail
            exact ⟨rfl, HR.out⟩
          have HE2 := Lib.hid (show e.chk x fn t.deep = r.chk x fn (t.deep + 1) by rw [hE.out, Exs.chk]; exact seq_ok r1)
          have HB5 := Lib.hid (hB.out.drew.trans (hB5.mono hB.out.size))
          clear hB5 r1 c0 c1 c2 c3 c4 s0 s1 s2 s3
          go_wp2_with fail
          go_roundw
          case rel => exact ⟨k + 1, r, by go_num, by omega, by omega, Lib.hid (by rw [show o2 + (k + 1) * 4 = o2 + k * 4 + 4 by omega]; exact HR.out), HB5, HE2⟩
          case measure => simp [intOf]; omega
    have e2' : (e.op == 2) = false := by simp [o2']
    by_cases o3' : e.op = 3
    · have e3' : (e.op == 3) = true := by simp [o3']
      have HH := Lib.hid (show headR x fn e = arrayR x fn e.name by unfold headR; rw [if_neg o2', if_pos o3'])
      clear o2' o3'
      go_wp2_with fail
      go_still_tail 5, (by kernel_rfl)
      change wpList _ _ _ _ _ (World.drew _)
      go_wp2_with fail
      refine (HAr.out _ HB1.out.drew).mono ?_
      intro z w2 hc
      rcases hc with ⟨r1, hB2⟩ | ⟨r1, hB2⟩
      rotate_left
      · have HR := Lib.hid (HNo.out w2 _ (by rw [R2.out, HH.out, seq_no r1]) r1 (HU.out _ (HB1.out.drew.trans (hB2.mono HB1.out.drew.size))))
        unfold Pn
        clear hB2 r1 c0 c1 c2 c3 c4 s0 s1 s2 s3
        go_wp2_with fail
        exact ⟨rfl, HR.out⟩
      have R3 := Lib.hid (show e.chk x fn t.deep = e.args.chk x fn (t.deep + 1) by rw [R2.out, HH.out, r1]; rfl)
      have HB2 := Lib.hid (HB1.out.drew.trans (hB2.mono HB1.out.drew.size))
      clear hB2 r1 c0 c1 c2 c3 c4 s0 s1 s2 s3
      obtain ⟨c0, c1, c2, c3, c4⟩ := HP.out _ HB2.out
      obtain ⟨s0, s1, s2, s3⟩ := HS.out _ (HU.out _ HB2.out)
      have f4 : w2.frozen? ⟨w.heap.size, 4, none⟩ = false := by simp [World.frozen?, show w2.heap[w.heap.size]? = some t.obj from HK.out _ HB2.out, Plc.obj]
      obtain ⟨hBd, hKd⟩ := HTail.out w2 HB2.out
      obtain ⟨Wd, hWd⟩ : ∃ Wd, w2.setCell ⟨w.heap.size, 4, none⟩ (.int .i64 ((t.deep : Int) + 1)) = Wd := ⟨_, rfl⟩
      rw [hWd] at hBd hKd
      have HBd := Lib.hid hBd
      have HKd := Lib.hid hKd
      have HWd := Lib.hid hWd
      have HLd := Lib.hid (show w.heap.size < Wd.heap.size from lt_blk hKd)
      obtain ⟨s0', s1', s2', s3'⟩ := HS.out _ hBd
      clear hBd hKd hWd
      go_upto_region 10 with fail
      rw [HWd.out]
      clear c0 c1 c2 c3 c4 s0 s1 s2 s3 f4 HWd
      go_wp2_with fail
      clear s0' s1' s2' s3'
      go_loopw [70] (fun i wr => ∃ (k : Nat) (r : Exs), i = .int .i64 k ∧ k + r.len = e.args.len ∧ r.size ≤ e.args.size ∧ Hid (r.At w N b2 (o2 + k * 4)) ∧ Hid (Below Wd.heap.size Wd wr) ∧ Hid (e.chk x fn t.deep = r.chk x fn (t.deep + 1))) (fun i _ => e.args.len - (intOf i).toNat)
      case atStart => exact ⟨0, e.args, rfl, by omega, Nat.le_refl _, Lib.hid (by rw [Nat.zero_mul]; exact HA2.out.1), Lib.hid (Below.refl _ _), R3⟩
      case round =>
        obtain ⟨k, r, rfl, hk, hrs, hr, hB, hE⟩ := hrel
        have hBw := HBd.out.trans (hB.out.mono (Nat.le_of_lt HLd.out))
        cases r with
        | nil =>
          simp only [Exs.len] at hk
          have hge : ¬ k < e.args.len := by omega
          have HR := Lib.hid (HOK.out wr (by rw [hE.out, Exs.chk]) hBw)
          clear hBw
          go_wp2_with fail
          go_end0
          exact HR.out
        | cons y r =>
          obtain ⟨hy, hr'⟩ := hr.out
          simp only [Exs.len] at hk
          simp only [Exs.size] at hrs
          have hlt : k < e.args.len := by omega
          have hb2N : b2 < N := by have := HA2.out.2; omega
          have hpa : pa = some ⟨b2, o2, none⟩ := by
            rcases hq2 with h0 | h0
            · omega
            · exact h0
          have HR := Lib.hid hr'
          have kd := (hB.out.block _ HLd.out).trans HKd.out
          obtain ⟨c0, c1, c2, c3, c4⟩ := Plc.cells kd
          obtain ⟨s0, s1, s2, s3⟩ := HS.out _ hBw
          subst hpa
          have HC := Lib.hid (IH.out y (by omega) x s fn f t.down b2 (o2 + k * 4) N wr.drew ((HPl.out _ hBw.drew).down) (Ex.At.later (hBw.drew.mono hNw) (Nat.le_refl N) y b2 _ hb2N hy) hb2N (show t.deep + 1 ≤ 1000 by omega))
          have HBw := Lib.hid hBw
          unfold Plc.v at HC
          clear hy hr hr' kd hBw hb2N
          go_wp2_with fail
          go_still_tail 7, (by kernel_rfl)
          change wpList _ _ _ _ _ (World.drew _)
          go_wp2_with fail
          refine HC.out.mono ?_
          intro z w5 hc
          rcases hc with ⟨r1, hB5⟩ | ⟨r1, hB5⟩
          rotate_left
          · have HR := Lib.hid (HNo.out w5 _ (by rw [hE.out, Exs.chk]; exact seq_no r1) r1 (HBw.out.drew.trans (hB5.mono HBw.out.size)))
            unfold Pn
            clear hB5 r1 c0 c1 c2 c3 c4 s0 s1 s2 s3
            go_wp2_with fail
            exact ⟨rfl, HR.out⟩
          have HE2 := Lib.hid (show e.chk x fn t.deep = r.chk x fn (t.deep + 1) by rw [hE.out, Exs.chk]; exact seq_ok r1)
          have HB5 := Lib.hid (hB.out.drew.trans (hB5.mono hB.out.size))
          clear hB5 r1 c0 c1 c2 c3 c4 s0 s1 s2 s3
          go_wp2_with fail
          go_roundw
          case rel => exact ⟨k + 1, r, by go_num, by omega, by omega, Lib.hid (by rw [show o2 + (k + 1) * 4 = o2 + k * 4 + 4 by omega]; exact HR.out), HB5, HE2⟩
          case measure => simp [intOf]; omega
    have e3' : (e.op == 3) = false := by simp [o3']
    have HH := Lib.hid (show headR x fn e = ask e.name.isEmpty 9 by unfold headR; rw [if_neg o2', if_neg o3'])
    have e4' : (str e.name).toList.isEmpty = e.name.isEmpty := by rw [Lib.toList_data, str_data]
    clear o2' o3'
    obtain ⟨q, hq⟩ : ∃ q, e.name.isEmpty = q := ⟨_, rfl⟩
    rw [hq] at e4'
    cases q with
    | false =>
      have HR := Lib.hid (HNo.out wx 9 (by rw [R2.out, HH.out, hq]; rfl) (by decide) (HU.out _ HB1.out))
      clear hq
      go_wp2_with (go_at_call 57; refine (must_n 9 _).mono ?_; rintro e w' ⟨rfl, rfl⟩; unfold Pn)
      exact ⟨rfl, HR.out⟩
    | true =>
      have R3 := Lib.hid (show e.chk x fn t.deep = e.args.chk x fn (t.deep + 1) by rw [R2.out, HH.out, hq]; rfl)
      have HB2 := HB1
      clear hq
      go_upto_region 9 with (go_at_call 57; refine (must_y 9 _).mono ?_; rintro e w' ⟨rfl, rfl⟩)
      clear c0 c1 c2 c3 c4 s0 s1 s2 s3
      generalize wx = w2 at HB2 ⊢
      obtain ⟨c0, c1, c2, c3, c4⟩ := HP.out _ HB2.out
      obtain ⟨s0, s1, s2, s3⟩ := HS.out _ (HU.out _ HB2.out)
      have f4 : w2.frozen? ⟨w.heap.size, 4, none⟩ = false := by simp [World.frozen?, show w2.heap[w.heap.size]? = some t.obj from HK.out _ HB2.out, Plc.obj]
      obtain ⟨hBd, hKd⟩ := HTail.out w2 HB2.out
      obtain ⟨Wd, hWd⟩ : ∃ Wd, w2.setCell ⟨w.heap.size, 4, none⟩ (.int .i64 ((t.deep : Int) + 1)) = Wd := ⟨_, rfl⟩
      rw [hWd] at hBd hKd
      have HBd := Lib.hid hBd
      have HKd := Lib.hid hKd
      have HWd := Lib.hid hWd
      have HLd := Lib.hid (show w.heap.size < Wd.heap.size from lt_blk hKd)
      obtain ⟨s0', s1', s2', s3'⟩ := HS.out _ hBd
      clear hBd hKd hWd
      go_upto_region 10 with fail
      rw [HWd.out]
      clear c0 c1 c2 c3 c4 s0 s1 s2 s3 f4 HWd
      go_wp2_with fail
      clear s0' s1' s2' s3'
      go_loopw [70] (fun i wr => ∃ (k : Nat) (r : Exs), i = .int .i64 k ∧ k + r.len = e.args.len ∧ r.size ≤ e.args.size ∧ Hid (r.At w N b2 (o2 + k * 4)) ∧ Hid (Below Wd.heap.size Wd wr) ∧ Hid (e.chk x fn t.deep = r.chk x fn (t.deep + 1))) (fun i _ => e.args.len - (intOf i).toNat)
      case atStart => exact ⟨0, e.args, rfl, by omega, Nat.le_refl _, Lib.hid (by rw [Nat.zero_mul]; exact HA2.out.1), Lib.hid (Below.refl _ _), R3⟩
      case round =>
        obtain ⟨k, r, rfl, hk, hrs, hr, hB, hE⟩ := hrel
        have hBw := HBd.out.trans (hB.out.mono (Nat.le_of_lt HLd.out))
        cases r with
        | nil =>
          simp only [Exs.len] at hk
          have hge : ¬ k < e.args.len := by omega
          have HR := Lib.hid (HOK.out wr (by rw [hE.out, Exs.chk]) hBw)
          clear hBw
          go_wp2_with fail
          go_end0
          exact HR.out
        | cons y r =>
          obtain ⟨hy, hr'⟩ := hr.out
          simp only [Exs.len] at hk
          simp only [Exs.size] at hrs
          have hlt : k < e.args.len := by omega
          have hb2N : b2 < N := by have := HA2.out.2; omega
          have hpa : pa = some ⟨b2, o2, none⟩ := by
            rcases hq2 with h0 | h0
            · omega
            · exact h0
          have HR := Lib.hid hr'
          have kd := (hB.out.block _ HLd.out).trans HKd.out
          obtain ⟨c0, c1, c2, c3, c4⟩ := Plc.cells kd
          obtain ⟨s0, s1, s2, s3⟩ := HS.out _ hBw
          subst hpa
          have HC := Lib.hid (IH.out y (by omega) x s fn f t.down b2 (o2 + k * 4) N wr.drew ((HPl.out _ hBw.drew).down) (Ex.At.later (hBw.drew.mono hNw) (Nat.le_refl N) y b2 _ hb2N hy) hb2N (show t.deep + 1 ≤ 1000 by omega))
          have HBw := Lib.hid hBw
          unfold Plc.v at HC
          clear hy hr hr' kd hBw hb2N
          go_wp2_with fail
          go_still_tail 7, (by kernel_rfl)
          change wpList _ _ _ _ _ (World.drew _)
          go_wp2_with fail
          refine HC.out.mono ?_
          intro z w5 hc
          rcases hc with ⟨r1, hB5⟩ | ⟨r1, hB5⟩
          rotate_left
          · have HR := Lib.hid (HNo.out w5 _ (by rw [hE.out, Exs.chk]; exact seq_no r1) r1 (HBw.out.drew.trans (hB5.mono HBw.out.size)))
            unfold Pn
            clear hB5 r1 c0 c1 c2 c3 c4 s0 s1 s2 s3
            go_wp2_with fail
            exact ⟨rfl, HR.out⟩
          have HE2 := Lib.hid (show e.chk x fn t.deep = r.chk x fn (t.deep + 1) by rw [hE.out, Exs.chk]; exact seq_ok r1)
          have HB5 := Lib.hid (hB.out.drew.trans (hB5.mono hB.out.size))
          clear hB5 r1 c0 c1 c2 c3 c4 s0 s1 s2 s3
          go_wp2_with fail
          go_roundw
          case rel => exact ⟨k + 1, r, by go_num, by omega, by omega, Lib.hid (by rw [show o2 + (k + 1) * 4 = o2 + k * 4 + 4 by omega]; exact HR.out), HB5, HE2⟩
          case measure => simp [intOf]; omega
theorem expr_to : ∀ n, ExprTo n
  | 0 => fun _ h => absurd h (Nat.not_lt_zero _)
  | n + 1 => expr_step n (expr_to n)
end Go.Proofs.Ytnghehcjklkoeaa
