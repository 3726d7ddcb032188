/- ZM, R5 as one. -/
import Derived.Test.YtcadeeldogknmaaZ8
import Derived.Test.YtcadeeldogknmaaR3
import Derived.Deep.CutRange
import Derived.Deep.RegionLaw
/- Broken off: what is rewritten of a beginning is a beginning. -/
namespace Go.Proofs.Ytcadeeldogknmaa
open Go.RowKit

/-- where the one has a result, the other has the same -/
def Mo {α : Type} (R R' : Option α) : Prop := ∀ r, R = some r → R' = some r
theorem Mo.refl {α : Type} (R : Option α) : Mo R R := fun _ h => h
theorem asMany_mo {n m : Nat} {b : Bool} (h : asMany n m false = true) : asMany n m b = true := by
  unfold asMany at h ⊢
  simp at h
  simp [h]
theorem then2_mo {R R' : Option (Lf × Nat)} {f f' : Nat → Option (Lf × Nat)} (h : Mo R R') (hf : ∀ m, Mo (f m) (f' m)) : Mo (then2 R f) (then2 R' f') := by
  intro r hr
  obtain ⟨x, m'⟩ := r
  obtain ⟨y, m1, z, h1, h2, rfl⟩ := then2_some hr
  unfold then2
  rw [h _ h1]
  simp only [hf m1 _ h2]
theorem ask_mo {st : Int} {ls : List (List Pk)} {xi : List Int} {xt : Bool} {m : Nat} {f f' : Nat → Option (Lf × Nat)} (hf : ∀ m, Mo (f m) (f' m)) : Mo (askR st ls xi xt m f) (askR st ls xi xt m f') := by
  refine then2_mo (Mo.refl _) fun m1 r hr => ?_
  cases h : f m1 with
  | none => simp [h] at hr
  | some x =>
    obtain ⟨c, m2⟩ := x
    simp only [h] at hr
    simp only [hf m1 _ h]
    exact hr
theorem if_mo {α : Type} {c : Prop} [Decidable c] {A A' B B' : Option α} (h : c → Mo A A') (k : ¬ c → Mo B B') : Mo (if c then A else B) (if c then A' else B') := by
  split
  · exact h ‹_›
  · exact k ‹_›
theorem many_mo {n m : Nat} {b : Bool} {A A' : Option (Lf × Nat)} (h : Mo A A') : Mo (if asMany n m false = true then A else none) (if asMany n m b = true then A' else none) := by
  intro r hr
  by_cases hm : asMany n m false = true
  · rw [if_pos hm] at hr
    rw [if_pos (asMany_mo hm)]
    exact h r hr
  · rw [if_neg hm] at hr; cases hr
theorem one_mo (st : Int) (xk : Int) (xi : List Int) (xt : Bool) (xs : Ls) (k : Int) (t : Bool) (ls bl : List (List Pk)) (subs : Rs) (b : Bool) (m : Nat)
    (hF : ∀ (sub : Rc) (m : Nat), Mo (Ls.goFirst st xs sub false m) (Ls.goFirst st xs sub b m)) (hL : ∀ m, Mo (Ls.goLoop st xs ls subs.first false m) (Ls.goLoop st xs ls subs.first b m)) (hR : ∀ m, Mo (Ls.goRounds st xs subs false m) (Ls.goRounds st xs subs b m))
    (hC : ∀ (sub : Rc) (m : Nat), Mo (Ls.goCall st xs bl sub false m) (Ls.goCall st xs bl sub b m)) (hE : ∀ (sub : Rc) (m : Nat), Mo (Ls.goEach st xs sub false m) (Ls.goEach st xs sub b m)) :
    Mo (oneR st xk xi xt xs k t ls bl subs false m) (oneR st xk xi xt xs k t ls bl subs b m) := by
  unfold oneR
  refine if_mo (fun _ => Mo.refl _) fun _ => if_mo (fun _ => Mo.refl _) fun _ => if_mo (fun _ => if_mo (fun _ => ask_mo fun m => hF _ m) fun _ => Mo.refl _) fun _ => if_mo (fun _ => if_mo (fun _ => then2_mo (Mo.refl _) fun m => hF _ m) fun _ => Mo.refl _) fun _ => if_mo (fun _ => if_mo (fun _ => hL m) fun _ => Mo.refl _) fun _ => if_mo (fun _ => ?_) fun _ => if_mo (fun _ => if_mo (fun _ => then2_mo (Mo.refl _) fun m => hC _ m) fun _ => Mo.refl _) fun _ => if_mo (fun _ => Mo.refl _) fun _ => if_mo (fun _ => if_mo (fun _ => ?_) fun _ => Mo.refl _) fun _ => Mo.refl _
  · intro r hr
    by_cases hm : xk = 4 ∧ asMany subs.len xs.len false = true
    · rw [if_pos hm] at hr
      rw [if_pos ⟨hm.1, asMany_mo hm.2⟩]
      exact hR m r hr
    · rw [if_neg hm] at hr; cases hr
  · intro r hr
    cases h : Ls.goEach st xs subs.first false m with
    | none => simp [h] at hr
    | some x =>
      obtain ⟨c, m2⟩ := x
      simp only [h] at hr
      simp only [hE _ m _ h]
      exact hr
mutual
theorem go_mo (st : Int) : ∀ (l : Lf) (t : Rc) (b : Bool) (m : Nat), Mo (l.go st t false m) (l.go st t b m)
  | .nil, t, b, m => by rw [Lf.go, Lf.go]; exact Mo.refl _
  | .node xk xi xt xs r, .nil, b, m => by rw [Lf.go, Lf.go]; exact Mo.refl _
  | .node xk xi xt xs r, .node k t ls bl subs tr, b, m => by
    rw [go_node, go_node, Bool.false_and]
    exact then2_mo (one_mo st xk xi xt xs k t ls bl subs _ m (fun sub m => first_mo st xs sub _ m) (fun m => loop_mo st xs ls subs.first _ m) (fun m => rounds_mo st xs subs _ m) (fun sub m => call_mo st xs bl sub _ m) (fun sub m => each_mo st xs sub _ m)) (fun m => go_mo st r tr b m)
theorem goAsk_mo (st : Int) : ∀ (l : Lf) (ls : List (List Pk)) (sub : Rc) (b : Bool) (m : Nat), Mo (l.goAsk st ls sub false m) (l.goAsk st ls sub b m)
  | .nil, ls, sub, b, m => by rw [Lf.goAsk, Lf.goAsk]; exact Mo.refl _
  | .node xk xi xt xs r, ls, sub, b, m => by
    rw [Lf.goAsk, Lf.goAsk, Bool.false_and]
    exact then2_mo (if_mo (fun _ => Mo.refl _) fun _ => if_mo (fun _ => ask_mo fun m => first_mo st xs sub _ m) fun _ => Mo.refl _) (fun m => goAsk_mo st r ls sub b m)
theorem first_mo (st : Int) : ∀ (s : Ls) (t : Rc) (b : Bool) (m : Nat), Mo (s.goFirst st t false m) (s.goFirst st t b m)
  | .nil, t, b, m => by rw [Ls.goFirst, Ls.goFirst]; exact Mo.refl _
  | .sub l r, t, b, m => by rw [Ls.goFirst, Ls.goFirst]; exact many_mo (go_mo st l t b m)
theorem loop_mo (st : Int) : ∀ (s : Ls) (ls : List (List Pk)) (t : Rc) (b : Bool) (m : Nat), Mo (s.goLoop st ls t false m) (s.goLoop st ls t b m)
  | .nil, ls, t, b, m => by rw [Ls.goLoop, Ls.goLoop]; exact Mo.refl _
  | .sub l r, ls, t, b, m => by
    rw [Ls.goLoop, Ls.goLoop]
    intro x hx
    cases h : Lf.goAsk st l ls t false m with
    | none => simp [h] at hx
    | some y =>
      simp only [h] at hx
      rw [goAsk_mo st l ls t b m _ h]
      exact hx
theorem call_mo (st : Int) : ∀ (s : Ls) (bl : List (List Pk)) (t : Rc) (b : Bool) (m : Nat), Mo (s.goCall st bl t false m) (s.goCall st bl t b m)
  | .nil, bl, t, b, m => by rw [Ls.goCall, Ls.goCall]; exact Mo.refl _
  | .sub l r, bl, t, b, m => by
    rw [Ls.goCall, Ls.goCall]
    exact then2_mo (many_mo (go_mo st l t b m)) fun m => Mo.refl _
theorem rounds_mo (st : Int) : ∀ (s : Ls) (t : Rs) (b : Bool) (m : Nat), Mo (s.goRounds st t false m) (s.goRounds st t b m)
  | .nil, t, b, m => by rw [Ls.goRounds, Ls.goRounds]; exact Mo.refl _
  | .sub l r, .nil, b, m => by rw [Ls.goRounds, Ls.goRounds]; exact Mo.refl _
  | .sub l r, .sub t tr, b, m => by
    rw [Ls.goRounds, Ls.goRounds, Bool.false_and]
    exact then2_mo (many_mo (go_mo st l t _ m)) fun m => rounds_mo st r tr b m
theorem each_mo (st : Int) : ∀ (s : Ls) (t : Rc) (b : Bool) (m : Nat), Mo (s.goEach st t false m) (s.goEach st t b m)
  | .nil, t, b, m => by rw [Ls.goEach, Ls.goEach]; exact Mo.refl _
  | .sub l r, t, b, m => by
    rw [Ls.goEach, Ls.goEach, Bool.false_and]
    intro x hx
    cases h : (if asMany t.len l.len false = true then Lf.go st l t false m else none) with
    | none => simp only [h] at hx; cases hx
    | some y =>
      obtain ⟨c, m1⟩ := y
      simp only [h] at hx
      rw [many_mo (go_mo st l t (b && r.len == 0) m) _ h]
      cases h2 : Ls.goEach st r t false m1 with
      | none => simp only [h2] at hx; cases hx
      | some z =>
        obtain ⟨cs, m2⟩ := z
        simp only [h2] at hx
        simp only [each_mo st r t b m1 _ h2]
        exact hx
end
/-- a beginning -/
theorem go_pre (st : Int) : ∀ (l l2 : Lf) (t : Rc) (b : Bool) (m : Nat) (x : Lf) (m' : Nat), t.fine → (l.cat l2).go st t false m = some (x, m') → ∃ y z m1, l.go st t b m = some (y, m1) ∧ x = y.cat z ∧ m1 ≤ m'
  | .nil, l2, t, b, m, x, m', hf, h => ⟨.nil, x, m, by rw [Lf.go], rfl, (go_bnd st l2 t false m hf x m' h).2.1⟩
  | .node xk xi xt xs r, l2, .nil, b, m, x, m', hf, h => by rw [Lf.cat, Lf.go] at h; cases h
  | .node xk xi xt xs r, l2, .node k t ls bl subs tr, b, m, x, m', hf, h => by
    rw [Lf.cat, go_node, Bool.false_and] at h
    obtain ⟨y1, m1, z1, h1, h2, rfl⟩ := then2_some h
    obtain ⟨y, z, m2, k1, rfl, k3⟩ := go_pre st r l2 tr b m1 z1 m' hf.2.2 h2
    refine ⟨y1.cat y, z, m2, ?_, (Lf.cat_assoc y1 y z).symm, k3⟩
    rw [go_node]
    have e := one_mo st xk xi xt xs k t ls bl subs (b && r.len == 0) m (fun sub m => first_mo st xs sub _ m) (fun m => loop_mo st xs ls subs.first _ m) (fun m => rounds_mo st xs subs _ m) (fun sub m => call_mo st xs bl sub _ m) (fun sub m => each_mo st xs sub _ m) _ h1
    simp only [then2, e, k1]
theorem rw_pre (st : Int) (l l2 : Lf) (t : Rc) (m : Nat) (x : Lf) (m' : Nat) (hf : t.fine) (h : (l.cat l2).rw st t false m = some (x, m')) : ∃ y z m1, l.rw st t true m = some (y, m1) ∧ x = y.cat z ∧ m1 ≤ m' := by
  unfold Lf.rw at h ⊢
  by_cases hm : asMany t.len (l.cat l2).len false = true
  · rw [if_pos hm] at h
    have : asMany t.len l.len true = true := by
      unfold asMany at hm ⊢
      rw [Lf.cat_len] at hm
      simp at hm
      simp
      omega
    rw [if_pos this]
    exact go_pre st l l2 t true m x m' hf h
  · rw [if_neg hm] at h; cases h
/-- as many terms that leave a node as it is -/
def sames : Lf → Rc
  | .nil => .nil
  | .node _ _ _ _ r => .node 1 false [] [] .nil (sames r)
theorem sames_len : ∀ l : Lf, (sames l).len = l.len
  | .nil => rfl
  | .node k is t s r => by rw [sames, Rc.len, Lf.len, sames_len r]
theorem go_sames (st : Int) : ∀ (l : Lf) (b : Bool) (m : Nat), l.go st (sames l) b m = some (l, m)
  | .nil, b, m => by rw [Lf.go]
  | .node k is t s r, b, m => by
    rw [sames, go_node]
    simp only [oneR, if_pos, then2, go_sames st r b m]
    rfl
theorem rw_sames (st : Int) (l : Lf) (m : Nat) : l.rw st (sames l) false m = some (l, m) := by
  unfold Lf.rw
  rw [sames_len, if_pos (by simp [asMany]), go_sames]
end Go.Proofs.Ytcadeeldogknmaa
/- Rewriting the chapter's rows: the recipes of the third row. -/
namespace Go.Proofs.Ytcadeeldogknmaa
open Go.RowKit

theorem step_call_fn {P : Program} {ops : Array Oper} {o : Oper} {a : Act} {w : World} {K : Act → World → Prop} {Q : Exit → Act → World → Prop} {E : Prop} {R : Ending → World → Prop}
    (hgd : o.guard = none) (f : FuncId) (args : Array Value) (he : (execOp a.eval o).run P w = .ok (.enter f args) w) (hc : Calls P f args w R) (h : ∀ e w', R e w' → ∃ v, e = .returned v ∧ K (a.put o.dst v) w') :
    if Region.wanted o (yielded ops a.tmps) = true then Oper.wp P o a w K Q else E := by
  have hw : Region.wanted o (yielded ops a.tmps) = true := by simp [Region.wanted, hgd]
  rw [if_pos hw]
  unfold Oper.wp
  rw [he, Oper.upon_enter]
  exact hc.mono fun e w' hr => by obtain ⟨v, rfl, hk⟩ := h e w' hr; exact hk
theorem grown_keep {wr w1 : World} {o : Obj} {b j : Nat} {v : Value} {row : Option Nat} (hc : wr.cell? ⟨b, j, none⟩ = some v) (hz : wr.frozen? ⟨b, j, none⟩ = false) (hg : (wr.alloc o).grownBy w1 row) (hne : row ≠ some b) :
    w1.cell? ⟨b, j, none⟩ = some v ∧ w1.frozen? ⟨b, j, none⟩ = false := by
  have hlt : b < wr.heap.size := World.block_lt_of_cell? _ _ hc
  refine ⟨hg.cell (by rw [World.cell?_alloc_past _ _ _ hlt]; exact hc) (Ne.symm hne), ?_⟩
  have hb := hg.block b (by simp; omega) (Ne.symm hne)
  rw [Below.heap_alloc _ _ _ hlt] at hb
  unfold World.frozen? at hz ⊢
  simp only at hb hz ⊢
  rw [hb]; exact hz
theorem Rec.set8 {w : World} {g : Nat} {k : Int} {t : Bool} {pv : Value} {gi sz : Int} {sv : Value} (h : Rec w g k t pv gi sz sv) (u : Value) : Rec (w.setCell ⟨g, 8, none⟩ u) g k t pv gi sz u :=
  ⟨(World.cell?_setCell_other _ _ _ _ (by simp)).trans h.c0, (World.cell?_setCell_other _ _ _ _ (by simp)).trans h.c1, (World.cell?_setCell_other _ _ _ _ (by simp)).trans h.c2, (World.cell?_setCell_other _ _ _ _ (by simp)).trans h.c3, (World.cell?_setCell_other _ _ _ _ (by simp)).trans h.c4, World.cell?_setCell_same _ _ _ h.c8⟩
theorem one_news (w : World) (v : Value) (t : TypeId) : ∀ (j : Nat) (u : Value), [v][j]? = some u → (w.alloc (.cells #[v] t)).cell? ((⟨w.heap.size, 0, none⟩ : Addr).add j) = some u := by
  intro j u hj
  match j, hj with
  | 0, hj => simp at hj; subst hj; simp [go_sem, Addr.add]
theorem one_cell {a : Option Addr} {n c : Nat} : ∀ u ∈ [Value.slice a n c], u.oneCell' = true := by intro u hu; simp at hu; subst hu; rfl
theorem info_recipes : (Try.prog.info? 67).map (fun i => (i.zero, i.size, i.bytes)) = some (some (.slice none 0 0), 1, 24) := by kernel_rfl

set_option maxHeartbeats 1600000 in
theorem recipes_B (p : Option Addr) (cap N : Nat) (w : World) (h : tfB.In w N p) (hN : N ≤ w.heap.size) :
    Calls Try.prog 25 #[.slice p 1 cap] w fun e w' => ∃ c2, e = .returned (.slice (some ⟨w.heap.size, 0, none⟩) 1 c2) ∧ Below w.heap.size w w' ∧ ∃ q c sv, Rec w' w.heap.size 4 true (.slice q 0 c) (-1) 0 sv := by
  obtain ⟨i0, hi, hz0, hz1, hz2⟩ := info_parts info_recipe
  have IZ := Lib.hid (And.intro hi (And.intro hz0 (And.intro hz1 hz2)))
  have hb2 : i0.bytes * 1 ≤ 281474976710656 := by omega
  have IB := Lib.hid hb2
  clear hi hz0 hz1 hz2 hb2
  obtain ⟨hm, h | ⟨b, o, rfl, hb, ha⟩⟩ := h
  · simp [tfB, Tf.len] at h
  obtain ⟨g0, ⟨q, c, g1, s1⟩, g2, ⟨q3, d, g3, s3⟩, _⟩ := ha
  go_enter Try.func25, Try.ntmps25
  go_wp2_with (at_make; refine wpList_make_full _ rfl _ _ 67 rfl w.heap.size 86 i0 zRecipe 9 Try.underlying67 IZ.out.1 IZ.out.2.1 IZ.out.2.2.1 .i64 .i64 1 1 1 rfl rfl rfl rfl IB.out (by decide) (Nat.le_refl _) ?_; intro w1 hown hgr)
  have hB := (Below.refl w.heap.size w).grown hgr (Nat.le_refl _) (by intro k hk; cases hk)
  have HB := Lib.hid hB
  have f0 := (hB.cell (show b < w.heap.size by omega)).trans g0
  have f1 := (hB.cell (show b < w.heap.size by omega)).trans g1
  have f2 := (hB.cell (show b < w.heap.size by omega)).trans g2
  have f3 := (hB.cell (show b < w.heap.size by omega)).trans g3
  have HO := Lib.hid hown
  clear hB g0 g1 g2 g3 hown hgr
  have HLn := Lib.hid (fun (w2 : World) (hb2 : Below w.heap.size w w2) => linesOf_any [] q c N w2 (s1.imp (Nat.le_refl _) fun b' o' hb' ha' => Plines.later (hb2.mono hN) (Nat.le_refl _) _ _ _ hb' ha') (Nat.le_trans hN hb2.size) (by decide))
  have S3 := Lib.hid s3
  clear s1 s3
  go_loopw [14] (fun i wr => (i = .int .i64 0 ∧ Hid (wr = w1)) ∨ (i = .int .i64 1 ∧ Hid (Below w.heap.size w wr ∧ ∃ sv, Rec wr w.heap.size 4 true (.slice q 0 c) (-1) 0 sv))) (fun i _ => 1 - (intOf i).toNat)
  case atStart => exact .inl ⟨rfl, Lib.hid rfl⟩
  case round =>
    rcases hrel with ⟨rfl, hw⟩ | ⟨rfl, hR⟩
    · obtain rfl := hw.out
      have hsw : w.heap.size < wr.heap.size := by have := World.block_lt_of_cell? _ _ (made9 HO.out).1.1; exact this
      have HD := Lib.hid (fun (o : Obj) => (HB.out.alloc HB.out.size o).drew)
      have HM := Lib.hid (show ∀ (n3 : Nat) (w2 : World), Below (wr.alloc (Obj.cells #[.int .i64 4, .slice q 0 c, .bool true, .slice q3 n3 d] 37)).heap.size (wr.alloc (Obj.cells #[.int .i64 4, .slice q 0 c, .bool true, .slice q3 n3 d] 37)).drew w2 →
          Made9 w2 w.heap.size ∧ (w2.cell? ⟨wr.heap.size, 0, none⟩ = some (.int .i64 4) ∧ w2.cell? ⟨wr.heap.size, 2, none⟩ = some (.bool true) ∧ w2.cell? ⟨wr.heap.size, 3, none⟩ = some (.slice q3 n3 d)) from fun n3 w2 hb2 =>
        ⟨(((made9 HO.out).later ((Below.refl wr.heap.size wr).alloc (Nat.le_refl _) _) hsw).later ((Below.refl _ _).drew.trans hb2) (by simp; omega)),
         (hb2.cell (by simp)).trans (by simp [go_sem]), (hb2.cell (by simp)).trans (by simp [go_sem]), (hb2.cell (by simp)).trans (by simp [go_sem])⟩)
      clear hw
      go_wp2_with fail
      go_cut [] from 19 to 29 (fun wx => Hid (Below w.heap.size w wx ∧ Rec wx w.heap.size 4 true (.slice q 0 c) (-1) 0 (.slice none 0 0) ∧ (∀ j, wx.frozen? ⟨w.heap.size, j, none⟩ = false) ∧ wx.cell? ⟨wr.heap.size, 0, none⟩ = some (.int .i64 4) ∧ wx.cell? ⟨wr.heap.size, 3, none⟩ = some (.slice q3 (Ts.sub Tf.nil Ts.nil).len d)))
      case first =>
        go_region_with (go_at_call 47; refine (HLn.out _ (HD.out _)).mono ?_; rintro e w2 ⟨rfl, hB2⟩; obtain ⟨⟨⟨m0, m1, m2, m3, m4, m5, m6, m7, m8⟩, mz⟩, x0, x2, x3⟩ := HM.out _ _ hB2; have z0 := mz 0; have z1 := mz 1; have z2 := mz 2; have z3 := mz 3; have z4 := mz 4; have z5 := mz 5; have z6 := mz 6; have z7 := mz 7; have z8 := mz 8; clear mz)
        all_goals
          show Exit.then _ _ _ _ (nine w2 w.heap.size 4 true (.slice q 0 c) (greatestL []) (linesW [] : Int))
          obtain ⟨hr, hz, hb, ho⟩ := nine_rec (HM.out _ _ hB2).1 4 true (.slice q 0 c) (greatestL []) (linesW [] : Int)
          have x0' := (ho wr.heap.size 0 (by omega)).trans x0
          have x3' := (ho wr.heap.size 3 (by omega)).trans x3
          have HBN := Lib.hid ((HD.out _).trans ((hB2.mono (by simp; omega)).trans hb))
          have HRN := Lib.hid hr
          have HZN := Lib.hid hz
          clear hr hz hb ho x0 x2 x3 m0 m1 m2 m3 m4 m5 m6 m7 m8 z0 z1 z2 z3 z4 z5 z6 z7 z8 hB2
          have hl0 : (Ts.sub Tf.nil Ts.nil).len = 1 := rfl
          generalize nine w2 w.heap.size 4 true (.slice q 0 c) (greatestL []) (linesW [] : Int) = wN at x0' x3' HBN HRN HZN ⊢
          go_wp2_with fail
          go_meet
          exact Lib.hid ⟨HBN.out, by have h := HRN.out; rw [show greatestL [] = (-1) by decide, show linesW [] = 0 by decide] at h; exact h, HZN.out, x0', x3'⟩
      case rest =>
        have HBN := Lib.hid hcut.out.1
        have HRN := Lib.hid hcut.out.2.1
        have HZN := Lib.hid hcut.out.2.2.1
        have x0' := hcut.out.2.2.2.1
        have x3' := hcut.out.2.2.2.2
        have hl0 : (Ts.sub Tf.nil Ts.nil).len = 1 := rfl
        go_wp2_with fail
        go_loopw [48] (fun i wr => (i = .int .i64 0 ∧ Hid (wr = wc)) ∨ (i = .int .i64 1 ∧ Hid (Below w.heap.size w wr ∧ ∃ sv, Rec wr w.heap.size 4 true (.slice q 0 c) (-1) 0 sv))) (fun i _ => 1 - (intOf i).toNat)
        case atStart => exact .inl ⟨rfl, Lib.hid rfl⟩
        case round =>
          rcases hrel with ⟨rfl, hw⟩ | ⟨rfl, hR⟩
          · obtain rfl := hw.out
            clear hw
            rcases S3.out.2 with h30 | ⟨b3, o3, rfl, hb3, ha3⟩
            · simp [Ts.len] at h30
            obtain ⟨⟨q4, c4, g4, _⟩, _⟩ := ha3
            have f4 := (HBN.out.cell (show b3 < w.heap.size by omega)).trans g4
            have c8 := HRN.out.c8
            have z8 := HZN.out 8
            clear g4
            have HN0 := Lib.hid (fun (wx : World) => recipes_nil q4 c4 wx)
            obtain ⟨j0, ji, jz0, jz1, jz2⟩ := info_parts info_recipes
            have JZ := Lib.hid (And.intro ji (And.intro jz0 (And.intro jz1 jz2)))
            have HC8 := Lib.hid (fun (w2 : World) (hb : Below wr.heap.size wr.drew w2) => (show w2.cell? ⟨w.heap.size, 8, none⟩ = some (.slice none 0 0) ∧ w2.frozen? ⟨w.heap.size, 8, none⟩ = false from ⟨(hb.cell (World.block_lt_of_cell? _ _ c8)).trans c8, (hb.frozen (World.block_lt_of_cell? _ _ c8)).trans z8⟩))
            have hs8 : w.heap.size < wr.heap.size := World.block_lt_of_cell? _ _ c8
            have GA := Lib.hid (fun (w2 w3 : World) (o : Obj) (hb : Below wr.heap.size wr.drew w2) (hg : (w2.alloc o).grownBy w3 none) => (show Below w.heap.size w w3 ∧ Rec w3 w.heap.size 4 true (.slice q 0 c) (-1) 0 (.slice none 0 0) from
              have h1 : Below wr.heap.size wr w3 := ((((Below.refl _ wr).drew.trans hb).alloc hb.size o).grown hg (by have := hb.size; simp at this ⊢; omega) (by intro k hk; cases hk))
              ⟨HBN.out.trans (h1.mono (Nat.le_of_lt hs8)), HRN.out.later h1 hs8⟩))
            clear ji jz0 jz1 jz2
            go_wp2_with fail
            go_region_law (first | (refine step_append_own rfl (.tmp 58) (.tmp 61) 84 rfl w.heap.size 67 j0 (.slice none 0 0) 1 24 Try.underlying84 JZ.out.1 JZ.out.2.1 JZ.out.2.2.1 JZ.out.2.2.2 rfl (by decide) (.slice none 0 0) 0 [] (by simp [Act.eval]) (World.ownsRow_nil _ _ _ _) ⟨w2.heap.size, 0, none⟩ 1 1 [.slice q5 0 c5] (by simp [Act.eval]) rfl (one_news _ _ _) one_cell (by decide) (by decide) (by have := hB5.size; simp at this ⊢; omega) ?_; intro v' w3 hown' hgrow; obtain ⟨gg, cc, rfl⟩ := own_form hown' (by omega); obtain ⟨c8'', z8''⟩ := grown_keep c8' z8' hgrow (by simp [Value.ownBlock]); have HG := Lib.hid (GA.out _ _ _ hB5 hgrow); clear hown' hgrow) | (refine step_call_fn rfl 25 #[.slice q4 0 c4] (by simp [Act.eval, Act.put, go_sem, Tf.len]) (HN0.out _) ?_; rintro e w2 ⟨⟨q5, c5, rfl⟩, hB5⟩; refine ⟨_, rfl, ?_⟩; obtain ⟨c8', z8'⟩ := HC8.out _ hB5; have c8a := fun (o : Obj) => (World.cell?_alloc_past o _ _ (World.block_lt_of_cell? _ _ c8')).trans c8'))
            all_goals go_wp2_with fail
            all_goals go_roundw
            all_goals first
              | exact Lib.hid ⟨HG.out.1.setCell (p := ⟨w.heap.size, 8, none⟩) (Nat.le_refl _) _, _, HG.out.2.set8 _⟩
              | (simp [intOf])
          · go_wp2_with fail
            go_roundw
            case rel => exact .inr ⟨by go_num, hR⟩
            case measure => simp [intOf]
    · go_wp2_with fail
      go_ret
      exact ⟨_, rfl, hR.out.1, q, c, hR.out.2⟩
end Go.Proofs.Ytcadeeldogknmaa
