/- How deep statements are. -/
import Derived.Test.YtkjhofnkgcjcoaaDoorP10
import Derived.Laws.Cover1
namespace Go.Proofs.YtkjhofnkgcjcoaaDoor
open Go.RowKit

set_option maxHeartbeats 1600000 in
theorem isZero_any (x : Ex) (b o N : Nat) (w : World) (h : x.At w N b o) :
    Calls Tryd.prog 55 #[.pointer (some ⟨b, o, none⟩)] w fun e w' => e = .returned (.bool x.none) ∧ w = w' := by
  obtain ⟨op, wd, nm, ar⟩ := x
  obtain ⟨⟨h0, h1, h2, h3⟩, ⟨p, c, h4, s4⟩⟩ := h
  unfold Ex.none
  simp only [Ex.op, Ex.word, Ex.name, Ex.args]
  have hm := s4.1
  clear s4
  obtain ⟨n, hn0⟩ : ∃ n, ar.len = n := ⟨_, rfl⟩
  simp only [hn0] at hm h4 ⊢
  clear hn0
  have es : (str nm).toList.isEmpty = nm.isEmpty := by rw [Lib.toList_data, str_data]
  go_enter Tryd.func55, Tryd.ntmps55
  by_cases h1 : op = 0
  · subst h1
    by_cases h2 : wd = 0
    · subst h2
      cases hn : nm.isEmpty with
      | true =>
        rw [hn] at es
        have e0 : (str nm).toList = [] := by simpa using es
        by_cases h4 : n = 0
        · subst h4
          go_wp2_with fail
          go_ret
          exact ⟨rfl, rfl⟩
        · have h5 : ((n : Int) == 0) = false := by simp; omega
          go_wp2_with fail
          go_ret
          exact ⟨by simp, rfl⟩
      | false =>
        rw [hn] at es
        have e0 : ¬ (str nm).toList = [] := by intro h; rw [h] at es; cases es
        go_wp2_with fail
        go_ret
        exact ⟨by simp, rfl⟩
    · have h5 : ((wd : Int) == 0) = false := by simp; omega
      go_wp2_with fail
      go_ret
      exact ⟨by simp, rfl⟩
  · have h5 : (op == 0) = false := by simp; omega
    go_wp2_with fail
    go_ret
    exact ⟨by simp [h1], rfl⟩
theorem deepestE_any (l : Exs) (hl6 : l.size ≤ 1000000) (p : Option Addr) (c N : Nat) (w : World) (h : l.In w N p) :
    Calls Tryd.prog 54 #[.slice p l.len c, .func (.func 33) #[] #[]] w fun e w' => e = .returned (.int .i64 l.deepest) ∧ w = w' :=
  deepest_step _ (depth_to _) l (Nat.le_refl _) hl6 p c N w h
theorem exAt_ofOk {w : World} {N b o : Nat} {x : Ex} {p : Option Addr} {c : Nat} (h : x.Ok w N p) (h0 : w.cell? ⟨b, o, none⟩ = some (.int .i64 x.op)) (h1 : w.cell? ⟨b, o + 1, none⟩ = some (.int .u64 (x.word : Int))) (h2 : w.cell? ⟨b, o + 2, none⟩ = some (.string (str x.name))) (h3 : w.cell? ⟨b, o + 3, none⟩ = some (.slice p x.args.len c)) : x.At w N b o := by
  obtain ⟨op, wd, nm, ar⟩ := x
  exact ⟨⟨h0, h1, h2, h.2⟩, ⟨p, c, h3, h.1⟩⟩
def DeepTo (n : Nat) : Prop := ∀ (x : St), x.size < n → x.wt ≤ 1000000 → ∀ (b o N : Nat) (w : World), b < N → N ≤ w.heap.size → x.At w N b o →
    Calls Tryd.prog 31 #[.pointer (some ⟨b, o, none⟩)] w fun e w' => e = .returned (.int .i64 (x.deep : Nat)) ∧ Below w.heap.size w w'
set_option maxHeartbeats 1600000 in
theorem deepestS_step (n : Nat) (ih : DeepTo n) (l : Sts) (hl : l.size ≤ n) (hl6 : l.wt ≤ 1000000) (p : Option Addr) (c N : Nat) (w : World) (h : l.In w N p) (hN : N ≤ w.heap.size) :
    Calls Tryd.prog 30 #[.slice p l.len c, .func (.func 31) #[] #[]] w fun e w' => e = .returned (.int .i64 (l.deep : Nat)) ∧ Below w.heap.size w w' := by
  have IH := Lib.hid ih
  have S1 := Lib.hid h
  have hm1 := h.1
  have HNN := Lib.hid hN
  clear ih h hN
  go_enter Tryd.func30, Tryd.ntmps30
  go_wp2_with fail
  go_loopw [5, 9] (fun d i wr => ∃ (k m : Nat) (r : Sts), d = .int .i64 m ∧ i = .int .i64 k ∧ k + r.len = l.len ∧ r.size ≤ n ∧ r.wt ≤ 1000000 ∧ Hid (∀ b o, p = some ⟨b, o, none⟩ → l.At w N b o → r.At w N b (o + k * 16)) ∧ Hid (l.deep = max m r.deep) ∧ m ≤ 1000000 ∧ Hid (Below w.heap.size w wr)) (fun _ i _ => l.len - (intOf i).toNat)
  case atStart => exact ⟨0, 0, l, rfl, rfl, by omega, hl, hl6, Lib.hid fun b o _ h => by rw [Nat.zero_mul]; exact h, Lib.hid (by omega), by omega, Lib.hid (Below.refl _ _)⟩
  case round =>
    obtain ⟨k, m, r, rfl, rfl, hk, hrs, hr6, hat, hE, hm6, hB⟩ := hrel
    cases r with
    | nil =>
      simp only [Sts.len] at hk
      have hge : ¬ k < l.len := by omega
      go_wp2_with fail
      go_ret
      exact ⟨ret_int (by rw [hE.out]; simp [Sts.deep]), hB.out⟩
    | cons x r =>
      simp only [Sts.len] at hk
      simp only [Sts.size] at hrs
      simp only [Sts.wt] at hr6
      have hlt : k < l.len := by omega
      rcases S1.out.2 with h30 | ⟨b, o, rfl, hb, ha⟩
      · omega
      obtain ⟨hx, hr⟩ := hat.out b o rfl ha
      have HR := Lib.hid hr
      have hxd := St.deep_le x
      have HC := Lib.hid (IH.out x (by omega) (by omega) b (o + k * 16) wr.heap.size wr (by have := hB.out.size; have := HNN.out; omega) (Nat.le_refl _) (St.At.later (hB.out.mono HNN.out) (Nat.le_trans HNN.out hB.out.size) x b _ hb hx))
      have hmx : max (m : Int) (x.deep : Int) = ((max m x.deep : Nat) : Int) := by omega
      have HE := Lib.hid (show l.deep = max (max m x.deep) r.deep by rw [hE.out, Sts.deep]; omega)
      generalize x.deep = dx at HC HE hxd hmx
      clear hx hr ha hE
      go_wp2_with fail
      refine HC.out.mono ?_
      rintro e w2 ⟨rfl, hB2⟩
      have HB2 := Lib.hid (hB.out.trans (hB2.mono hB.out.size))
      clear hB2 HC
      go_wp2_with fail
      go_roundw
      case rel => exact ⟨k + 1, max m dx, r, by rw [← hmx], by go_num, by omega, by omega, by omega, Lib.hid fun b' o' e _ => by cases e; rw [show o + (k + 1) * 16 = o + k * 16 + 16 by omega]; exact HR.out, HE, by omega, HB2⟩
      case measure => simp [intOf]; omega
set_option maxRecDepth 100000 in
set_option maxHeartbeats 6400000 in
theorem deep_step (n : Nat) (ih : DeepTo n) : DeepTo (n + 1) := by
  intro x hxs hx6 b o N w hb hN hx
  obtain ⟨s, c1, ok1⟩ := St.At.openP hx
  obtain ⟨kd, nm, ns, e, a, g, lo, hi, bd, el⟩ := x
  simp only [St.size] at hxs
  simp only [St.wt] at hx6
  have x11 : w.cell? ⟨b, o + 11, none⟩ = some (.slice s.pg g.len s.cg) := c1 11 _ rfl
  have x14 : w.cell? ⟨b, o + 14, none⟩ = some (.slice s.pb bd.len s.cb) := c1 14 _ rfl
  have x15 : w.cell? ⟨b, o + 15, none⟩ = some (.slice s.pl el.len s.cl) := c1 15 _ rfl
  have hbw : b < w.heap.size := Nat.lt_of_lt_of_le hb hN
  have HEt := Lib.hid (fun (w1 : World) (hB : Below w.heap.size w w1) => Ex.At.later (hB.mono hN) (Nat.le_refl N) e b (o + 3) hb (show e.At w N b (o + 3) from exAt_ofOk ok1.2.1 (c1 3 _ rfl) (c1 4 _ rfl) (c1 5 _ rfl) (c1 6 _ rfl)))
  have HAt := Lib.hid (fun (w1 : World) (hB : Below w.heap.size w w1) => Ex.At.later (hB.mono hN) (Nat.le_refl N) a b (o + 7) hb (show a.At w N b (o + 7) from exAt_ofOk ok1.2.2.1 (c1 7 _ rfl) (c1 8 _ rfl) (c1 9 _ rfl) (c1 10 _ rfl)))
  have HGd := Lib.hid (fun (w1 : World) (hB : Below w.heap.size w w1) => deepestE_any g (by omega) s.pg s.cg N w1 (ok1.2.2.2.1.later (hB.mono hN) (Nat.le_refl N)))
  have HBd := Lib.hid (fun (w1 : World) (hB : Below w.heap.size w w1) => deepestS_step n ih bd (by omega) (by omega) s.pb s.cb N w1 (ok1.2.2.2.2.1.later (hB.mono hN) (Nat.le_refl N)) (Nat.le_trans hN hB.size))
  have HEl := Lib.hid (fun (w1 : World) (hB : Below w.heap.size w w1) => deepestS_step n ih el (by omega) (by omega) s.pl s.cl N w1 (ok1.2.2.2.2.2.1.later (hB.mono hN) (Nat.le_refl N)) (Nat.le_trans hN hB.size))
  have b1 := Sts.deep_le bd
  have b2 := Sts.deep_le el
  have b3 := Ex.dp_le e
  have b4 := Ex.dp_le a
  have b5 := Exs.deepest_le g
  simp only [St.deep]
  generalize bd.deep = db at HBd b1 ⊢
  generalize el.deep = de at HEl b2 ⊢
  generalize g.deepest = dg at HGd b5 ⊢
  obtain ⟨m1, hm1e⟩ : ∃ m, m = max (max dg db) de := ⟨_, rfl⟩
  have hmx : ∀ (w : World) (ts : Array TypeId) (t : TypeId), (Builtin.max_ ts t #[.int .i64 (dg : Int), .int .i64 (db : Int), .int .i64 (de : Int)]).run Tryd.prog w = .ok (.int .i64 (m1 : Int)) w := by
    intro w ts t
    rw [run_max_int3]
    have hq : (if (de : Int) > (if (db : Int) > dg then (db : Int) else dg) then (de : Int) else (if (db : Int) > dg then (db : Int) else dg)) = (m1 : Int) := by (repeat' split) <;> omega
    rw [hq]
  have hm1b : m1 ≤ 1000000 := by omega
  have HM1 := Lib.hid hm1e
  clear hm1e c1 ok1 hx ih
  go_enter Tryd.func31, Tryd.ntmps31
  go_upto_region 1 with fail
  try simp only [Act.put]
  have HS1 : Below w.heap.size w w.drew := (Below.refl _ _).drew
  refine wp_region_held_drew (S := fun W => Below w.heap.size w W ∧ W.cell? ⟨b, o + 11, none⟩ = some (.slice s.pg g.len s.cg) ∧ W.cell? ⟨b, o + 14, none⟩ = some (.slice s.pb bd.len s.cb) ∧ W.cell? ⟨b, o + 15, none⟩ = some (.slice s.pl el.len s.cl)) (by kernel_rfl) ?_ (fun hHeld => ?_)
  · exact ⟨HS1, (HS1.cell hbw).trans x11, (HS1.cell hbw).trans x14, (HS1.cell hbw).trans x15⟩
  refine wpAnyH_take (i := 0) (oi := { dst := Option.some 4, op := Go.Op.move (Go.Operand.tmp 0), type := 110, pos := "deep.go:20", after := #[], guard := Option.none }) (v := ?_) rfl (by kernel_rfl) (by kernel_rfl) (by kernel_rfl) (fun _ _ _ h => h) (Or.inl ⟨by rfl, ?_⟩) (by assumption) ?_
  rotate_left
  · (intro w hSw; (try dsimp only at hSw); go_simp; try with_reducible rfl)
  try simp only [Act.put, List.setIfInBounds_toArray, List.set_cons_zero, List.set_cons_succ]
  refine wpAnyH_take (i := 1) (oi := { dst := Option.some 5, op := Go.Op.nilCheck (Go.Operand.tmp 4), type := 0, pos := "deep.go:20", after := #[{ on := 0, ground := Go.Ground.data }], guard := Option.none }) (v := ?_) rfl (by kernel_rfl) (by kernel_rfl) (by kernel_rfl) (fun _ _ _ h => h) (Or.inl ⟨by rfl, ?_⟩) (by assumption) ?_
  rotate_left
  · (intro w hSw; (try dsimp only at hSw); go_simp; try with_reducible rfl)
  try simp only [Act.put, List.setIfInBounds_toArray, List.set_cons_zero, List.set_cons_succ]
  refine wpAnyH_take (i := 2) (oi := { dst := Option.some 6, op := Go.Op.fieldAddr 35 (Go.Operand.tmp 5) 5, type := 0, pos := "deep.go:20", after := #[{ on := 1, ground := Go.Ground.data }], guard := Option.none }) (v := ?_) rfl (by kernel_rfl) (by kernel_rfl) (by kernel_rfl) (fun _ _ _ h => h) (Or.inl ⟨by rfl, ?_⟩) (by assumption) ?_
  rotate_left
  · (intro w hSw; (try dsimp only at hSw); go_simp; try with_reducible rfl)
  try simp only [Act.put, List.setIfInBounds_toArray, List.set_cons_zero, List.set_cons_succ]
  refine wpAnyH_take (i := 3) (oi := { dst := Option.some 7, op := Go.Op.load 27 (Go.Operand.tmp 6), type := 27, pos := "deep.go:20", after := #[{ on := 2, ground := Go.Ground.data }], guard := Option.none }) (v := ?_) rfl (by kernel_rfl) (by kernel_rfl) (by kernel_rfl) (fun _ _ _ h => h) (Or.inl ⟨by rfl, ?_⟩) (by assumption) ?_
  rotate_left
  · (intro w hSw; (try dsimp only at hSw); go_simp; try with_reducible rfl)
  try simp only [Act.put, List.setIfInBounds_toArray, List.set_cons_zero, List.set_cons_succ]
  refine wpAnyH_take (i := 5) (oi := { dst := Option.some 9, op := Go.Op.move (Go.Operand.tmp 0), type := 110, pos := "deep.go:20", after := #[], guard := Option.none }) (v := ?_) rfl (by kernel_rfl) (by kernel_rfl) (by kernel_rfl) (fun _ _ _ h => h) (Or.inl ⟨by rfl, ?_⟩) (by assumption) ?_
  rotate_left
  · (intro w hSw; (try dsimp only at hSw); go_simp; try with_reducible rfl)
  try simp only [Act.put, List.setIfInBounds_toArray, List.set_cons_zero, List.set_cons_succ]
  refine wpAnyH_take (i := 6) (oi := { dst := Option.some 10, op := Go.Op.nilCheck (Go.Operand.tmp 9), type := 0, pos := "deep.go:20", after := #[{ on := 5, ground := Go.Ground.data }], guard := Option.none }) (v := ?_) rfl (by kernel_rfl) (by kernel_rfl) (by kernel_rfl) (fun _ _ _ h => h) (Or.inl ⟨by rfl, ?_⟩) (by assumption) ?_
  rotate_left
  · (intro w hSw; (try dsimp only at hSw); go_simp; try with_reducible rfl)
  try simp only [Act.put, List.setIfInBounds_toArray, List.set_cons_zero, List.set_cons_succ]
  refine wpAnyH_take (i := 7) (oi := { dst := Option.some 11, op := Go.Op.fieldAddr 35 (Go.Operand.tmp 10) 8, type := 0, pos := "deep.go:20", after := #[{ on := 6, ground := Go.Ground.data }], guard := Option.none }) (v := ?_) rfl (by kernel_rfl) (by kernel_rfl) (by kernel_rfl) (fun _ _ _ h => h) (Or.inl ⟨by rfl, ?_⟩) (by assumption) ?_
  rotate_left
  · (intro w hSw; (try dsimp only at hSw); go_simp; try with_reducible rfl)
  try simp only [Act.put, List.setIfInBounds_toArray, List.set_cons_zero, List.set_cons_succ]
  refine wpAnyH_take (i := 8) (oi := { dst := Option.some 12, op := Go.Op.load 33 (Go.Operand.tmp 11), type := 33, pos := "deep.go:20", after := #[{ on := 7, ground := Go.Ground.data }], guard := Option.none }) (v := ?_) rfl (by kernel_rfl) (by kernel_rfl) (by kernel_rfl) (fun _ _ _ h => h) (Or.inl ⟨by rfl, ?_⟩) (by assumption) ?_
  rotate_left
  · (intro w hSw; (try dsimp only at hSw); go_simp; try with_reducible rfl)
  try simp only [Act.put, List.setIfInBounds_toArray, List.set_cons_zero, List.set_cons_succ]
  refine wpAnyH_take (i := 10) (oi := { dst := Option.some 14, op := Go.Op.move (Go.Operand.tmp 0), type := 110, pos := "deep.go:20", after := #[], guard := Option.none }) (v := ?_) rfl (by kernel_rfl) (by kernel_rfl) (by kernel_rfl) (fun _ _ _ h => h) (Or.inl ⟨by rfl, ?_⟩) (by assumption) ?_
  rotate_left
  · (intro w hSw; (try dsimp only at hSw); go_simp; try with_reducible rfl)
  try simp only [Act.put, List.setIfInBounds_toArray, List.set_cons_zero, List.set_cons_succ]
  refine wpAnyH_take (i := 11) (oi := { dst := Option.some 15, op := Go.Op.nilCheck (Go.Operand.tmp 14), type := 0, pos := "deep.go:20", after := #[{ on := 10, ground := Go.Ground.data }], guard := Option.none }) (v := ?_) rfl (by kernel_rfl) (by kernel_rfl) (by kernel_rfl) (fun _ _ _ h => h) (Or.inl ⟨by rfl, ?_⟩) (by assumption) ?_
  rotate_left
  · (intro w hSw; (try dsimp only at hSw); go_simp; try with_reducible rfl)
  try simp only [Act.put, List.setIfInBounds_toArray, List.set_cons_zero, List.set_cons_succ]
  refine wpAnyH_take (i := 12) (oi := { dst := Option.some 16, op := Go.Op.fieldAddr 35 (Go.Operand.tmp 15) 9, type := 0, pos := "deep.go:20", after := #[{ on := 11, ground := Go.Ground.data }], guard := Option.none }) (v := ?_) rfl (by kernel_rfl) (by kernel_rfl) (by kernel_rfl) (fun _ _ _ h => h) (Or.inl ⟨by rfl, ?_⟩) (by assumption) ?_
  rotate_left
  · (intro w hSw; (try dsimp only at hSw); go_simp; try with_reducible rfl)
  try simp only [Act.put, List.setIfInBounds_toArray, List.set_cons_zero, List.set_cons_succ]
  refine wpAnyH_take (i := 13) (oi := { dst := Option.some 17, op := Go.Op.load 33 (Go.Operand.tmp 16), type := 33, pos := "deep.go:20", after := #[{ on := 12, ground := Go.Ground.data }], guard := Option.none }) (v := ?_) rfl (by kernel_rfl) (by kernel_rfl) (by kernel_rfl) (fun _ _ _ h => h) (Or.inl ⟨by rfl, ?_⟩) (by assumption) ?_
  rotate_left
  · (intro w hSw; (try dsimp only at hSw); go_simp; try with_reducible rfl)
  try simp only [Act.put, List.setIfInBounds_toArray, List.set_cons_zero, List.set_cons_succ]
  refine wpAnyH_ready (rs := [4]) (by kernel_rfl) (by simp) ?_
  refine AllReadyH.cons (o := { dst := Option.some 8, op := Go.Op.call { callee := Go.Callee.value (Go.Operand.func 54), args := #[Go.Operand.tmp 7, Go.Operand.func 33], argTypes := #[27, 88] }, type := 3, pos := "deep.go:20", after := #[{ on := 3, ground := Go.Ground.data }], guard := Option.none }) rfl (fun K hK => ?_) AllReadyH.nil
  go_simp
  refine (HGd.out _ HS1).mono ?_
  rintro z w2 ⟨rfl, rfl⟩
  refine hK.out _ _ ?_ (fun hHeld => ?_)
  · exact ⟨HS1, (HS1.cell hbw).trans x11, (HS1.cell hbw).trans x14, (HS1.cell hbw).trans x15⟩
  clear hK K
  try simp only [Act.put, List.setIfInBounds_toArray, List.set_cons_zero, List.set_cons_succ]
  refine wpAnyH_ready (rs := [9]) (by kernel_rfl) (by simp) ?_
  refine AllReadyH.cons (o := { dst := Option.some 13, op := Go.Op.call { callee := Go.Callee.value (Go.Operand.func 30), args := #[Go.Operand.tmp 12, Go.Operand.func 31], argTypes := #[33, 86] }, type := 3, pos := "deep.go:20", after := #[{ on := 8, ground := Go.Ground.data }, { on := 4, ground := Go.Ground.chain }], guard := Option.none }) rfl (fun K hK => ?_) AllReadyH.nil
  go_simp
  refine (HBd.out _ HS1).mono ?_
  rintro z w3 ⟨rfl, hB2⟩
  replace HS1 := HS1.trans (hB2.mono HS1.size)
  clear hB2
  refine hK.out _ _ ?_ (fun hHeld => ?_)
  · exact ⟨HS1, (HS1.cell hbw).trans x11, (HS1.cell hbw).trans x14, (HS1.cell hbw).trans x15⟩
  clear hK K
  try simp only [Act.put, List.setIfInBounds_toArray, List.set_cons_zero, List.set_cons_succ]
  refine wpAnyH_ready (rs := [14]) (by kernel_rfl) (by simp) ?_
  refine AllReadyH.cons (o := { dst := Option.some 18, op := Go.Op.call { callee := Go.Callee.value (Go.Operand.func 30), args := #[Go.Operand.tmp 17, Go.Operand.func 31], argTypes := #[33, 86] }, type := 3, pos := "deep.go:20", after := #[{ on := 13, ground := Go.Ground.data }, { on := 9, ground := Go.Ground.chain }], guard := Option.none }) rfl (fun K hK => ?_) AllReadyH.nil
  go_simp
  refine (HEl.out _ HS1).mono ?_
  rintro z w4 ⟨rfl, hB2⟩
  replace HS1 := HS1.trans (hB2.mono HS1.size)
  clear hB2
  refine hK.out _ _ ?_ (fun hHeld => ?_)
  · exact ⟨HS1, (HS1.cell hbw).trans x11, (HS1.cell hbw).trans x14, (HS1.cell hbw).trans x15⟩
  clear hK K
  try simp only [Act.put, List.setIfInBounds_toArray, List.set_cons_zero, List.set_cons_succ]
  refine wpAnyH_take (i := 15) (oi := { dst := Option.some 19, op := Go.Op.call { callee := Go.Callee.builtin Go.Builtin.max, args := #[Go.Operand.tmp 8, Go.Operand.tmp 13, Go.Operand.tmp 18], argTypes := #[3, 3, 3] }, type := 3, pos := "deep.go:20", after := #[{ on := 4, ground := Go.Ground.data }, { on := 9, ground := Go.Ground.data }, { on := 14, ground := Go.Ground.data }], guard := Option.none }) (v := .int .i64 (m1 : Nat)) rfl (by kernel_rfl) (by kernel_rfl) (by kernel_rfl) (fun _ _ _ h => h) (Or.inl ⟨by rfl, ?_⟩) (by assumption) ?_
  · (intro w hSw; (try dsimp only at hSw); go_simp; (try rw [hmx]); (try rfl))
  try simp only [Act.put, List.setIfInBounds_toArray, List.set_cons_zero, List.set_cons_succ]
  refine wpAnyH_take (i := 16) (oi := { dst := Option.some 3, op := Go.Op.assign (Go.Operand.tmp 19), type := 3, pos := "deep.go:20", after := #[{ on := 15, ground := Go.Ground.data }, { on := 14, ground := Go.Ground.chain }, { on := 0, ground := Go.Ground.phase }, { on := 1, ground := Go.Ground.phase }, { on := 2, ground := Go.Ground.phase }, { on := 3, ground := Go.Ground.phase }, { on := 4, ground := Go.Ground.phase }, { on := 5, ground := Go.Ground.phase }, { on := 6, ground := Go.Ground.phase }, { on := 7, ground := Go.Ground.phase }, { on := 8, ground := Go.Ground.phase }, { on := 9, ground := Go.Ground.phase }, { on := 10, ground := Go.Ground.phase }, { on := 11, ground := Go.Ground.phase }, { on := 12, ground := Go.Ground.phase }, { on := 13, ground := Go.Ground.phase }, { on := 14, ground := Go.Ground.phase }, { on := 15, ground := Go.Ground.phase }], guard := Option.none }) (v := ?_) rfl (by kernel_rfl) (by kernel_rfl) (by kernel_rfl) (fun _ _ _ h => h) (Or.inl ⟨by rfl, ?_⟩) (by assumption) ?_
  rotate_left
  · (intro w hSw; (try dsimp only at hSw); go_simp; try with_reducible rfl)
  try simp only [Act.put, List.setIfInBounds_toArray, List.set_cons_zero, List.set_cons_succ]
  refine wpAnyH_done (by kernel_rfl) ?_ _
  have HA20 := Lib.hid (HEt.out _ HS1)
  go_wp2_with fail
  refine (isZero_any e b (o + 3) N _ HA20.out).mono ?_
  rintro z w' ⟨rfl, rfl⟩
  cases hne : e.none with
  | true =>
    have dqe : e.dp = 0 := by unfold Ex.dp; rw [hne]; rfl
    have HA21 := Lib.hid (HAt.out _ HS1)
    go_wp2_with fail
    refine (isZero_any a b (o + 7) N _ HA21.out).mono ?_
    rintro z w' ⟨rfl, rfl⟩
    cases hna : a.none with
    | true =>
      have dqa : a.dp = 0 := by unfold Ex.dp; rw [hna]; rfl
      have HFin := Lib.hid (show max (max (max (max db de) dg) e.dp) a.dp + 1 = 1 + m1 by have := HM1.out; (try have t20 := HM20.out); (try have t21 := HM21.out); (try have t22 := HM22.out); (try have t23 := HM23.out); (try have t24 := HM24.out); (try have t25 := HM25.out); (try have t26 := HM26.out); (try have t27 := HM27.out); (try have t28 := HM28.out); (try have t29 := HM29.out); omega)
      have hz1 : IntKind.i64.wrap (1 + (m1 : Int)) = 1 + (m1 : Int) := IntWalk.i64_in _ (by omega)
      go_wp2_with fail
      go_ret
      exact ⟨ret_int (by rw [HFin.out]; omega), HS1⟩
    | false =>
      have dqa : a.dp = a.depth := by unfold Ex.dp; rw [hna]; rfl
      have HD := Lib.hid (depthOf_any a (by omega) b (o + 7) N _ hb HA21.out)
      rw [← dqa] at HD
      obtain ⟨dav, hdav⟩ : ∃ d, a.dp = d := ⟨_, rfl⟩
      rw [hdav] at HD
      obtain ⟨m21, hm21⟩ : ∃ m, m = max m1 dav := ⟨_, rfl⟩
      have hx21 : max (m1 : Int) (dav : Int) = (m21 : Int) := by omega
      have hy21 : m21 ≤ 1000000 := by omega
      have HM21 := Lib.hid hm21
      clear hm21
      go_wp2_with fail
      refine HD.out.mono ?_
      rintro z w' ⟨rfl, rfl⟩
      have HFin := Lib.hid (show max (max (max (max db de) dg) e.dp) a.dp + 1 = 1 + m21 by have := HM1.out; (try have t20 := HM20.out); (try have t21 := HM21.out); (try have t22 := HM22.out); (try have t23 := HM23.out); (try have t24 := HM24.out); (try have t25 := HM25.out); (try have t26 := HM26.out); (try have t27 := HM27.out); (try have t28 := HM28.out); (try have t29 := HM29.out); omega)
      have hz1 : IntKind.i64.wrap (1 + (m21 : Int)) = 1 + (m21 : Int) := IntWalk.i64_in _ (by omega)
      go_wp2_with fail
      go_ret
      exact ⟨ret_int (by rw [HFin.out]; omega), HS1⟩
  | false =>
    have dqe : e.dp = e.depth := by unfold Ex.dp; rw [hne]; rfl
    have HD := Lib.hid (depthOf_any e (by omega) b (o + 3) N _ hb HA20.out)
    rw [← dqe] at HD
    obtain ⟨dev, hdev⟩ : ∃ d, e.dp = d := ⟨_, rfl⟩
    rw [hdev] at HD
    obtain ⟨m20, hm20⟩ : ∃ m, m = max m1 dev := ⟨_, rfl⟩
    have hx20 : max (m1 : Int) (dev : Int) = (m20 : Int) := by omega
    have hy20 : m20 ≤ 1000000 := by omega
    have HM20 := Lib.hid hm20
    clear hm20
    go_wp2_with fail
    refine HD.out.mono ?_
    rintro z w' ⟨rfl, rfl⟩
    have HA22 := Lib.hid (HAt.out _ HS1)
    go_wp2_with fail
    refine (isZero_any a b (o + 7) N _ HA22.out).mono ?_
    rintro z w' ⟨rfl, rfl⟩
    cases hna : a.none with
    | true =>
      have dqa : a.dp = 0 := by unfold Ex.dp; rw [hna]; rfl
      have HFin := Lib.hid (show max (max (max (max db de) dg) e.dp) a.dp + 1 = 1 + m20 by have := HM1.out; (try have t20 := HM20.out); (try have t21 := HM21.out); (try have t22 := HM22.out); (try have t23 := HM23.out); (try have t24 := HM24.out); (try have t25 := HM25.out); (try have t26 := HM26.out); (try have t27 := HM27.out); (try have t28 := HM28.out); (try have t29 := HM29.out); omega)
      have hz1 : IntKind.i64.wrap (1 + (m20 : Int)) = 1 + (m20 : Int) := IntWalk.i64_in _ (by omega)
      go_wp2_with fail
      go_ret
      exact ⟨ret_int (by rw [HFin.out]; omega), HS1⟩
    | false =>
      have dqa : a.dp = a.depth := by unfold Ex.dp; rw [hna]; rfl
      have HD := Lib.hid (depthOf_any a (by omega) b (o + 7) N _ hb HA22.out)
      rw [← dqa] at HD
      obtain ⟨dav, hdav⟩ : ∃ d, a.dp = d := ⟨_, rfl⟩
      rw [hdav] at HD
      obtain ⟨m22, hm22⟩ : ∃ m, m = max m20 dav := ⟨_, rfl⟩
      have hx22 : max (m20 : Int) (dav : Int) = (m22 : Int) := by omega
      have hy22 : m22 ≤ 1000000 := by omega
      have HM22 := Lib.hid hm22
      clear hm22
      go_wp2_with fail
      refine HD.out.mono ?_
      rintro z w' ⟨rfl, rfl⟩
      have HFin := Lib.hid (show max (max (max (max db de) dg) e.dp) a.dp + 1 = 1 + m22 by have := HM1.out; (try have t20 := HM20.out); (try have t21 := HM21.out); (try have t22 := HM22.out); (try have t23 := HM23.out); (try have t24 := HM24.out); (try have t25 := HM25.out); (try have t26 := HM26.out); (try have t27 := HM27.out); (try have t28 := HM28.out); (try have t29 := HM29.out); omega)
      have hz1 : IntKind.i64.wrap (1 + (m22 : Int)) = 1 + (m22 : Int) := IntWalk.i64_in _ (by omega)
      go_wp2_with fail
      go_ret
      exact ⟨ret_int (by rw [HFin.out]; omega), HS1⟩
theorem deep_to : ∀ n, DeepTo n
  | 0 => fun _ h => absurd h (Nat.not_lt_zero _)
  | n + 1 => deep_step n (deep_to n)
set_option maxHeartbeats 1600000 in
theorem deepS_any (l : Sts) (h6 : l.wt ≤ 1000000) (p : Option Addr) (c N : Nat) (w : World) (h : l.In w N p) (hN : N ≤ w.heap.size) :
    Calls Tryd.prog 12 #[.slice p l.len c] w fun e w' => e = .returned (.int .i64 (l.deep : Nat)) ∧ Below w.heap.size w w' := by
  have HD := Lib.hid (deepestS_step _ (deep_to _) l (Nat.le_refl _) h6 p c N w h hN)
  clear h
  go_enter Tryd.func12, Tryd.ntmps12
  go_wp2_with fail
  refine HD.out.mono ?_
  rintro e w' ⟨rfl, hB⟩
  have HB := Lib.hid hB
  clear hB
  go_wp2_with fail
  go_ret
  exact ⟨rfl, HB.out⟩
end Go.Proofs.YtkjhofnkgcjcoaaDoor
