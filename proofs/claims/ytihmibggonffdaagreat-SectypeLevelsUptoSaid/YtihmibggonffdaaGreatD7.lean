/- The document's: why an expression may not be. -/
import Derived.Test.YtihmibggonffdaaGreatD6
import Derived.Test.YtihmibggonffdaaGreatF1
namespace Go.Proofs.YtihmibggonffdaaGreat
open Go.RowKit

def RE (n : Nat) : Prop := ∀ (e : Ex), e.size < n → ∀ (x : Prg) (s : PrgP) (i : Nat) (fn : Fnc) (deep : Nat) (p : Option Addr) (c N : Nat) (w : World), x.Ok w N s.p s.q → N ≤ w.heap.size → x.fns[i]? = some fn → fn.params.length + fn.vars.length ≤ 4000000 → e.Ok w N p → deep ≤ 65 →
   Calls Tryz.prog 13 #[x.v s, .int .i64 (i : Int), e.val p c, .int .i64 (deep : Int)] w fun z w' => z = .returned (.int .i64 (e.chk x fn deep : Nat)) ∧ Below w.heap.size w w'
theorem shape_bad (e : Ex) : (!shapeB e) = (decide (argsN e.op < 0) || (((e.args.len : Nat) : Int) != argsN e.op) || ((e.op != 1) && (((e.word : Nat) : Int) != 0))) := by
 unfold shapeB
 cases h1 : (((e.args.len : Nat) : Int) == argsN e.op) <;> cases h2 : (((e.word : Nat) : Int) == 0) <;> cases h3 : (e.op == 1) <;> simp [bne, h1, h2, h3]
 all_goals (have := beq_iff_eq.1 h1; omega)
set_option maxRecDepth 100000 in
set_option maxHeartbeats 12800000 in
theorem rexpr_step (n : Nat) (ih : RE n) : RE (n + 1) := by
 intro e hem x s i fn deep p ce N w h hN hi hbig he hdeep
 obtain ⟨pp, pq, c, d⟩ := s
 obtain ⟨W0, hW0, k0, k1, hB0, hz0⟩ := two_alloc w (.cells #[.slice pp x.regs.length c, .slice pq x.fns.length d] 25) (.cells #[.int .i64 e.op, .int .u64 (e.word : Int), .string (str e.name), .slice p e.args.len ce] 40)
 have hsz : e.args.size + 1 = e.size := by obtain ⟨op, wd, nm, ar⟩ := e; rw [Ex.size]; rfl
 have HU := Lib.hid (fun (W : World) (hB : Below W0.heap.size W0 W) => show Below w.heap.size w W from hB0.trans (hB.mono (by omega)))
 have HS := Lib.hid (fun (W : World) (hB : Below W0.heap.size W0 W) => show W.cell? ⟨w.heap.size, 0, none⟩ = some (.slice pp x.regs.length c) ∧ W.cell? ⟨w.heap.size, 1, none⟩ = some (.slice pq x.fns.length d) ∧ W.cell? ⟨w.heap.size + 1, 0, none⟩ = some (.int .i64 e.op) ∧ W.cell? ⟨w.heap.size + 1, 1, none⟩ = some (.int .u64 (e.word : Int)) ∧ W.cell? ⟨w.heap.size + 1, 2, none⟩ = some (.string (str e.name)) ∧ W.cell? ⟨w.heap.size + 1, 3, none⟩ = some (.slice p e.args.len ce) from
   ⟨cell_blk ((hB.block _ (lt_blk k0)).trans k0) rfl, cell_blk ((hB.block _ (lt_blk k0)).trans k0) rfl, cell_blk ((hB.block _ (lt_blk k1)).trans k1) rfl, cell_blk ((hB.block _ (lt_blk k1)).trans k1) rfl, cell_blk ((hB.block _ (lt_blk k1)).trans k1) rfl, cell_blk ((hB.block _ (lt_blk k1)).trans k1) rfl⟩)
 have HX := Lib.hid (fun (W : World) (hB : Below w.heap.size w W) => h.later (hB.mono hN) (Nat.le_refl N))
 have HWd := Lib.hid (fun (W : World) (hB : Below w.heap.size w W) => rword_any x ⟨pp, pq, c, d⟩ i fn e.name N W (HX.out W hB) (Nat.le_trans hN hB.size) hi hbig)
 have HAr := Lib.hid (fun (W : World) (hB : Below w.heap.size w W) => rarray_any x ⟨pp, pq, c, d⟩ i fn e.name N W (HX.out W hB) (Nat.le_trans hN hB.size) hi hbig)
 have IH := Lib.hid (fun (y : Ex) (hy : y.size < n) (W : World) (q : Option Addr) (cq : Nat) (hB : Below w.heap.size w W) (hok : y.Ok W N q) => ih y hy x ⟨pp, pq, c, d⟩ i fn (deep + 1) q cq N W (HX.out W hB) (Nat.le_trans hN hB.size) hi hbig hok)
 have HEq := Lib.hid (Ex.chk_eq x fn e deep)
 have hma := he.1.1
 obtain ⟨b2, o2, hq2, hb2, ha2⟩ : ∃ b2 o2, (e.args.len = 0 ∨ p = some ⟨b2, o2, none⟩) ∧ (b2 < N ∨ e.args.len = 0) ∧ e.args.At w N b2 o2 := by
   rcases he.1.2 with h0 | ⟨b, o, hp, hb, ha⟩
   · exact ⟨0, 0, .inl h0, .inr h0, by cases hxa : e.args with | nil => trivial | cons => rw [hxa] at h0; simp [Exs.len] at h0⟩
   · exact ⟨b, o, .inr hp, .inl hb, ha⟩
 have HA2 := Lib.hid (And.intro ha2 hb2)
 have HN := Lib.hid hN
 obtain ⟨d1, hd1⟩ : ∃ d1, d1 = deep + 1 := ⟨_, rfl⟩
 have hwd : IntKind.i64.wrap ((deep : Int) + 1) = ((d1 : Nat) : Int) := by rw [hd1]; simp [IntKind.wrap, IntKind.bits, IntKind.signed]; omega
 rw [← hd1] at HEq IH
 have HD := Lib.hid (show (deep ≤ 64 → d1 ≤ 65) ∧ e.args.size < n from ⟨by omega, by omega⟩)
 have HB0 := Lib.hid hB0
 have HW0 := Lib.hid hW0
 obtain ⟨c0, c1, c2, c3, c4, c5⟩ := HS.out _ (Below.refl _ _)
 unfold Prg.v Ex.val
 unfold Prg.v at HWd HAr IH
 unfold Ex.val at IH
 clear hW0 k0 k1 hB0 hz0 h he hb2 ha2 hd1 hN hbig hsz ih hem
 go_enter Tryz.func13, Tryz.ntmps13
 go_upto_region 1 with fail
 rw [HW0.out]
 by_cases hd : deep ≤ 64
 rotate_left
 · have HV := Lib.hid (show e.chk x fn deep = 12 by rw [HEq.out, show decide (deep ≤ 64) = false from decide_eq_false hd]; rfl)
   have hdi : decide ((64 : Int) < (deep : Int)) = true := decide_eq_true (by omega)
   go_wp2_with fail
   go_ret
   exact ⟨by rw [HV.out]; rfl, HB0.out⟩
 have R1 := Lib.hid (show e.chk x fn deep = seq (ask (shapeB e) 9) (seq (headR x fn e) (e.args.chk x fn d1)) by rw [HEq.out, show decide (deep ≤ 64) = true from decide_eq_true hd]; rfl)
 have hdi : decide ((64 : Int) < (deep : Int)) = false := decide_eq_false (by omega)
 go_upto_region 3 with fail
 go_cut [35] from 13 to 34 (fun s35 wx => s35 = .bool (!shapeB e) ∧ Hid (wx = W0.drew))
 case first =>
   have HT := Lib.hid (shape_bad e)
   have HAg := Lib.hid (fun w => rargs_any e.op w)
   generalize e1 : decide (argsN e.op < 0) = t1 at HT
   generalize e2 : (((e.args.len : Nat) : Int) != argsN e.op) = t2 at HT
   generalize e3 : (e.op != 1) = t3 at HT
   generalize e4 : (((e.word : Nat) : Int) != 0) = t4 at HT
   generalize argsN e.op = an at e1 e2 HAg
   have HC := Lib.hid (And.intro c2 (And.intro c3 c5))
   cases t1
   · cases t2
     · cases t3
       · refine wp_region_held_drew (S := fun W => W.cell? ⟨w.heap.size + 1, 0, none⟩ = some (.int .i64 e.op) ∧ W.cell? ⟨w.heap.size + 1, 1, none⟩ = some (.int .u64 (e.word : Int)) ∧ W.cell? ⟨w.heap.size + 1, 3, none⟩ = some (.slice p e.args.len ce)) (by kernel_rfl) ?_ (fun hHeld => ?_)
         · exact HC.out
         refine tq 0 ?_
         refine tq 1 ?_
         refine wpAnyH_ready (rs := [2]) (by kernel_rfl) (by simp) ?_
         refine rdy rfl (fun K hK => ?_) AllReadyH.nil
         go_simp
         refine (HAg.out _).mono ?_
         rintro z w2 ⟨rfl, hw⟩
         subst hw
         refine hK.out _ _ ?_ (fun hHeld => ?_)
         · exact HC.out
         clear hK K
         try simp only [Act.put, List.setIfInBounds_toArray, List.set_cons_zero, List.set_cons_succ]
         refine tk 3 (.bool false) rfl (.inl ⟨by rfl, ?_⟩) ?_
         · (intro w hSw; (try dsimp only at hSw); go_simp)
         try simp only [Act.put, List.setIfInBounds_toArray, List.set_cons_zero, List.set_cons_succ]
         refine tq 4 ?_
         refine tq 5 ?_
         refine tq 6 ?_
         refine tq 7 ?_
         refine tq 8 ?_
         refine tq 9 ?_
         refine wpAnyH_ready (rs := [10]) (by kernel_rfl) (by simp) ?_
         refine rdy rfl (fun K hK => ?_) AllReadyH.nil
         go_simp
         refine (HAg.out _).mono ?_
         rintro z w2 ⟨rfl, hw⟩
         subst hw
         refine hK.out _ _ ?_ (fun hHeld => ?_)
         · exact HC.out
         clear hK K
         try simp only [Act.put, List.setIfInBounds_toArray, List.set_cons_zero, List.set_cons_succ]
         refine tk 11 (.bool false) rfl (.inl ⟨by rfl, ?_⟩) ?_
         · (intro w hSw; (try dsimp only at hSw); go_simp)
         try simp only [Act.put, List.setIfInBounds_toArray, List.set_cons_zero, List.set_cons_succ]
         refine tq 12 ?_
         refine tq 13 ?_
         refine tq 14 ?_
         refine tq 15 ?_
         refine tk 16 (.bool false) rfl (.inl ⟨by rfl, ?_⟩) ?_
         · (intro w hSw; (try dsimp only at hSw); go_simp)
         try simp only [Act.put, List.setIfInBounds_toArray, List.set_cons_zero, List.set_cons_succ]
         refine tq 17 ?_
         refine sq 18 ?_
         refine sq 19 ?_
         refine sq 20 ?_
         refine tq 21 ?_
         refine tq 22 ?_
         refine wpAnyH_done (by kernel_rfl) ?_ _
         go_wp2_with fail
         go_meet
         exact ⟨by rw [HT.out]; rfl, Lib.hid rfl⟩
       · cases t4
         · refine wp_region_held_drew (S := fun W => W.cell? ⟨w.heap.size + 1, 0, none⟩ = some (.int .i64 e.op) ∧ W.cell? ⟨w.heap.size + 1, 1, none⟩ = some (.int .u64 (e.word : Int)) ∧ W.cell? ⟨w.heap.size + 1, 3, none⟩ = some (.slice p e.args.len ce)) (by kernel_rfl) ?_ (fun hHeld => ?_)
           · exact HC.out
           refine tq 0 ?_
           refine tq 1 ?_
           refine wpAnyH_ready (rs := [2]) (by kernel_rfl) (by simp) ?_
           refine rdy rfl (fun K hK => ?_) AllReadyH.nil
           go_simp
           refine (HAg.out _).mono ?_
           rintro z w2 ⟨rfl, hw⟩
           subst hw
           refine hK.out _ _ ?_ (fun hHeld => ?_)
           · exact HC.out
           clear hK K
           try simp only [Act.put, List.setIfInBounds_toArray, List.set_cons_zero, List.set_cons_succ]
           refine tk 3 (.bool false) rfl (.inl ⟨by rfl, ?_⟩) ?_
           · (intro w hSw; (try dsimp only at hSw); go_simp)
           try simp only [Act.put, List.setIfInBounds_toArray, List.set_cons_zero, List.set_cons_succ]
           refine tq 4 ?_
           refine tq 5 ?_
           refine tq 6 ?_
           refine tq 7 ?_
           refine tq 8 ?_
           refine tq 9 ?_
           refine wpAnyH_ready (rs := [10]) (by kernel_rfl) (by simp) ?_
           refine rdy rfl (fun K hK => ?_) AllReadyH.nil
           go_simp
           refine (HAg.out _).mono ?_
           rintro z w2 ⟨rfl, hw⟩
           subst hw
           refine hK.out _ _ ?_ (fun hHeld => ?_)
           · exact HC.out
           clear hK K
           try simp only [Act.put, List.setIfInBounds_toArray, List.set_cons_zero, List.set_cons_succ]
           refine tk 11 (.bool false) rfl (.inl ⟨by rfl, ?_⟩) ?_
           · (intro w hSw; (try dsimp only at hSw); go_simp)
           try simp only [Act.put, List.setIfInBounds_toArray, List.set_cons_zero, List.set_cons_succ]
           refine tq 12 ?_
           refine tq 13 ?_
           refine tq 14 ?_
           refine tq 15 ?_
           refine tk 16 (.bool true) rfl (.inl ⟨by rfl, ?_⟩) ?_
           · (intro w hSw; (try dsimp only at hSw); go_simp)
           try simp only [Act.put, List.setIfInBounds_toArray, List.set_cons_zero, List.set_cons_succ]
           refine tq 17 ?_
           refine tq 18 ?_
           refine tq 19 ?_
           refine tk 20 (.bool false) rfl (.inl ⟨by rfl, ?_⟩) ?_
           · (intro w hSw; (try dsimp only at hSw); go_simp)
           try simp only [Act.put, List.setIfInBounds_toArray, List.set_cons_zero, List.set_cons_succ]
           refine tq 21 ?_
           refine tq 22 ?_
           refine wpAnyH_done (by kernel_rfl) ?_ _
           go_wp2_with fail
           go_meet
           exact ⟨by rw [HT.out]; rfl, Lib.hid rfl⟩
         · refine wp_region_held_drew (S := fun W => W.cell? ⟨w.heap.size + 1, 0, none⟩ = some (.int .i64 e.op) ∧ W.cell? ⟨w.heap.size + 1, 1, none⟩ = some (.int .u64 (e.word : Int)) ∧ W.cell? ⟨w.heap.size + 1, 3, none⟩ = some (.slice p e.args.len ce)) (by kernel_rfl) ?_ (fun hHeld => ?_)
           · exact HC.out
           refine tq 0 ?_
           refine tq 1 ?_
           refine wpAnyH_ready (rs := [2]) (by kernel_rfl) (by simp) ?_
           refine rdy rfl (fun K hK => ?_) AllReadyH.nil
           go_simp
           refine (HAg.out _).mono ?_
           rintro z w2 ⟨rfl, hw⟩
           subst hw
           refine hK.out _ _ ?_ (fun hHeld => ?_)
           · exact HC.out
           clear hK K
           try simp only [Act.put, List.setIfInBounds_toArray, List.set_cons_zero, List.set_cons_succ]
           refine tk 3 (.bool false) rfl (.inl ⟨by rfl, ?_⟩) ?_
           · (intro w hSw; (try dsimp only at hSw); go_simp)
           try simp only [Act.put, List.setIfInBounds_toArray, List.set_cons_zero, List.set_cons_succ]
           refine tq 4 ?_
           refine tq 5 ?_
           refine tq 6 ?_
           refine tq 7 ?_
           refine tq 8 ?_
           refine tq 9 ?_
           refine wpAnyH_ready (rs := [10]) (by kernel_rfl) (by simp) ?_
           refine rdy rfl (fun K hK => ?_) AllReadyH.nil
           go_simp
           refine (HAg.out _).mono ?_
           rintro z w2 ⟨rfl, hw⟩
           subst hw
           refine hK.out _ _ ?_ (fun hHeld => ?_)
           · exact HC.out
           clear hK K
           try simp only [Act.put, List.setIfInBounds_toArray, List.set_cons_zero, List.set_cons_succ]
           refine tk 11 (.bool false) rfl (.inl ⟨by rfl, ?_⟩) ?_
           · (intro w hSw; (try dsimp only at hSw); go_simp)
           try simp only [Act.put, List.setIfInBounds_toArray, List.set_cons_zero, List.set_cons_succ]
           refine tq 12 ?_
           refine tq 13 ?_
           refine tq 14 ?_
           refine tq 15 ?_
           refine tk 16 (.bool true) rfl (.inl ⟨by rfl, ?_⟩) ?_
           · (intro w hSw; (try dsimp only at hSw); go_simp)
           try simp only [Act.put, List.setIfInBounds_toArray, List.set_cons_zero, List.set_cons_succ]
           refine tq 17 ?_
           refine tq 18 ?_
           refine tq 19 ?_
           refine tk 20 (.bool true) rfl (.inl ⟨by rfl, ?_⟩) ?_
           · (intro w hSw; (try dsimp only at hSw); go_simp)
           try simp only [Act.put, List.setIfInBounds_toArray, List.set_cons_zero, List.set_cons_succ]
           refine tq 21 ?_
           refine tq 22 ?_
           refine wpAnyH_done (by kernel_rfl) ?_ _
           go_wp2_with fail
           go_meet
           exact ⟨by rw [HT.out]; rfl, Lib.hid rfl⟩
     · refine wp_region_held_drew (S := fun W => W.cell? ⟨w.heap.size + 1, 0, none⟩ = some (.int .i64 e.op) ∧ W.cell? ⟨w.heap.size + 1, 1, none⟩ = some (.int .u64 (e.word : Int)) ∧ W.cell? ⟨w.heap.size + 1, 3, none⟩ = some (.slice p e.args.len ce)) (by kernel_rfl) ?_ (fun hHeld => ?_)
       · exact HC.out
       refine tq 0 ?_
       refine tq 1 ?_
       refine wpAnyH_ready (rs := [2]) (by kernel_rfl) (by simp) ?_
       refine rdy rfl (fun K hK => ?_) AllReadyH.nil
       go_simp
       refine (HAg.out _).mono ?_
       rintro z w2 ⟨rfl, hw⟩
       subst hw
       refine hK.out _ _ ?_ (fun hHeld => ?_)
       · exact HC.out
       clear hK K
       try simp only [Act.put, List.setIfInBounds_toArray, List.set_cons_zero, List.set_cons_succ]
       refine tk 3 (.bool false) rfl (.inl ⟨by rfl, ?_⟩) ?_
       · (intro w hSw; (try dsimp only at hSw); go_simp)
       try simp only [Act.put, List.setIfInBounds_toArray, List.set_cons_zero, List.set_cons_succ]
       refine tq 4 ?_
       refine tq 5 ?_
       refine tq 6 ?_
       refine tq 7 ?_
       refine tq 8 ?_
       refine tq 9 ?_
       refine wpAnyH_ready (rs := [10]) (by kernel_rfl) (by simp) ?_
       refine rdy rfl (fun K hK => ?_) AllReadyH.nil
       go_simp
       refine (HAg.out _).mono ?_
       rintro z w2 ⟨rfl, hw⟩
       subst hw
       refine hK.out _ _ ?_ (fun hHeld => ?_)
       · exact HC.out
       clear hK K
       try simp only [Act.put, List.setIfInBounds_toArray, List.set_cons_zero, List.set_cons_succ]
       refine tk 11 (.bool true) rfl (.inl ⟨by rfl, ?_⟩) ?_
       · (intro w hSw; (try dsimp only at hSw); go_simp)
       try simp only [Act.put, List.setIfInBounds_toArray, List.set_cons_zero, List.set_cons_succ]
       refine tq 12 ?_
       refine tq 13 ?_
       refine sq 14 ?_
       refine sq 15 ?_
       refine sq 16 ?_
       refine sq 17 ?_
       refine sq 18 ?_
       refine sq 19 ?_
       refine sq 20 ?_
       refine sq 21 ?_
       refine tq 22 ?_
       refine wpAnyH_done (by kernel_rfl) ?_ _
       go_wp2_with fail
       go_meet
       exact ⟨by rw [HT.out]; rfl, Lib.hid rfl⟩
   · refine wp_region_held_drew (S := fun W => W.cell? ⟨w.heap.size + 1, 0, none⟩ = some (.int .i64 e.op) ∧ W.cell? ⟨w.heap.size + 1, 1, none⟩ = some (.int .u64 (e.word : Int)) ∧ W.cell? ⟨w.heap.size + 1, 3, none⟩ = some (.slice p e.args.len ce)) (by kernel_rfl) ?_ (fun hHeld => ?_)
     · exact HC.out
     refine tq 0 ?_
     refine tq 1 ?_
     refine wpAnyH_ready (rs := [2]) (by kernel_rfl) (by simp) ?_
     refine rdy rfl (fun K hK => ?_) AllReadyH.nil
     go_simp
     refine (HAg.out _).mono ?_
     rintro z w2 ⟨rfl, hw⟩
     subst hw
     refine hK.out _ _ ?_ (fun hHeld => ?_)
     · exact HC.out
     clear hK K
     try simp only [Act.put, List.setIfInBounds_toArray, List.set_cons_zero, List.set_cons_succ]
     refine tk 3 (.bool true) rfl (.inl ⟨by rfl, ?_⟩) ?_
     · (intro w hSw; (try dsimp only at hSw); go_simp)
     try simp only [Act.put, List.setIfInBounds_toArray, List.set_cons_zero, List.set_cons_succ]
     refine tq 4 ?_
     refine sq 5 ?_
     refine sq 6 ?_
     refine sq 7 ?_
     refine sq 8 ?_
     refine sq 9 ?_
     refine sq 10 ?_
     refine sq 11 ?_
     refine tq 12 ?_
     refine tq 13 ?_
     refine sq 14 ?_
     refine sq 15 ?_
     refine sq 16 ?_
     refine sq 17 ?_
     refine sq 18 ?_
     refine sq 19 ?_
     refine sq 20 ?_
     refine sq 21 ?_
     refine tq 22 ?_
     refine wpAnyH_done (by kernel_rfl) ?_ _
     go_wp2_with fail
     go_meet
     exact ⟨by rw [HT.out]; rfl, Lib.hid rfl⟩
 case rest =>
 obtain ⟨rfl, hwx⟩ := hcut
 have hB1 : Below W0.heap.size W0 wc := by rw [hwx.out]; exact (Below.refl _ _).drew
 have HB1 := Lib.hid hB1
 obtain ⟨g0, g1, g2, g3, g4, g5⟩ := HS.out _ hB1
 clear c0 c1 c2 c3 c4 c5 hwx hB1
 cases hsh : shapeB e
 · have HV := Lib.hid (show e.chk x fn deep = 9 by rw [R1.out, hsh]; rfl)
   go_wp2_with fail
   go_ret
   exact ⟨by rw [HV.out]; rfl, HU.out _ HB1.out⟩
 have R2 := Lib.hid (show e.chk x fn deep = seq (headR x fn e) (e.args.chk x fn d1) by rw [R1.out, hsh]; rfl)
 have HEnd := Lib.hid (fun (v : Nat) (W : World) (hv : v = e.chk x fn deep) (hB : Below W0.heap.size W0 W) => show Ending.returned (.int .i64 (v : Int)) = .returned (.int .i64 (e.chk x fn deep : Nat)) ∧ Below w.heap.size w W from ⟨by rw [hv], HU.out W hB⟩)
 have HWd1 := Lib.hid (HWd.out _ (HU.out _ HB1.out))
 have HAr1 := Lib.hid (HAr.out _ (HU.out _ HB1.out))
 clear hsh R1 HWd HAr
 rcases (show e.op = 2 ∨ e.op = 3 ∨ (e.op ≠ 2 ∧ e.op ≠ 3) by omega) with h2 | h3 | ⟨h2, h3⟩
 · have HH := Lib.hid (show headR x fn e = wordR x fn e.name by unfold headR; rw [if_pos h2])
   have hop2 : (e.op == 2) = true := by rw [beq_iff_eq]; exact h2
   clear h2
   go_wp2_with fail
   refine HWd1.out.mono ?_
   rintro z w3 ⟨rfl, hB3⟩
   have HB3 := Lib.hid (HB1.out.trans (hB3.mono HB1.out.size))
   have HHv := Lib.hid (show wordR x fn e.name = headR x fn e from HH.out.symm)
   generalize wordR x fn e.name = v0 at HHv ⊢
   clear hB3 HWd1 HAr1 HH g0 g1 g2 g3 g4 g5
   go_wp2_with fail
   go_loopw [9, 10] (fun x9 i wr => ∃ (k v : Nat) (r : Exs), x9 = .int .i64 v ∧ i = .int .i64 k ∧ k + r.len = e.args.len ∧ Hid (r.size ≤ e.args.size) ∧ Hid (r.At w N b2 (o2 + k * 4)) ∧ Hid (e.chk x fn deep = seq v (r.chk x fn d1)) ∧ Hid (Below W0.heap.size W0 wr)) (fun _ i _ => e.args.len - (intOf i).toNat)
   case atStart => exact ⟨0, v0, e.args, rfl, rfl, by omega, Lib.hid (Nat.le_refl _), Lib.hid (by rw [Nat.zero_mul]; exact HA2.out.1), Lib.hid (by rw [R2.out, ← HHv.out]), HB3⟩
   case round =>
     obtain ⟨k, v, r, rfl, rfl, hk, hrs, hr, hE, hBr⟩ := hrel
     obtain ⟨g0, g1, g2, g3, g4, g5⟩ := HS.out _ hBr.out
     cases r with
     | nil =>
       simp only [Exs.len] at hk
       have hge : ¬ k < e.args.len := by omega
       have HV := Lib.hid (HEnd.out v wr (by rw [hE.out, Exs.chk]; unfold seq; split <;> omega) hBr.out)
       clear hE hr
       go_wp2_with fail
       go_ret
       exact HV.out
     | cons y r =>
       simp only [Exs.len] at hk
       have hlt : k < e.args.len := by omega
       by_cases hv : v = 0
       · subst hv
         obtain ⟨hy, hr'⟩ := hr.out
         rcases hq2 with h0 | rfl
         · omega
         have hbN : b2 < N := by have := HA2.out.2; omega
         have hBw := HU.out _ hBr.out
         obtain ⟨q, cq, d0, d1', d2, d3, hok⟩ := (Ex.At.later (hBw.mono HN.out) (Nat.le_refl N) y b2 (o2 + k * 4) hbN hy).open'
         have hX : Below wr.heap.size wr wr.drew := (Below.refl _ _).drew
         have hX0 := hBr.out.trans (hX.mono hBr.out.size)
         have HC := Lib.hid (IH.out y (by have h1 := hrs.out; have h2 := HD.out; simp only [Exs.size] at h1; omega) wr.drew q cq (HU.out _ hX0) (Ex.Ok.later hok (hX.mono (Nat.le_trans HN.out hBw.size)) (Nat.le_refl N)) (HD.out.1 hd))
         have HE2 := Lib.hid (show e.chk x fn deep = seq (y.chk x fn d1) (r.chk x fn d1) by rw [hE.out, Exs.chk]; rfl)
         have HR := Lib.hid hr'
         have HRs := Lib.hid (show r.size ≤ e.args.size by have h1 := hrs.out; simp only [Exs.size] at h1; omega)
         have HX1 := Lib.hid hX0
         have HCs := Lib.hid (show wr.cell? ⟨b2, o2 + k * 4, none⟩ = some (.int .i64 y.op) ∧ wr.cell? ⟨b2, o2 + k * 4 + 1, none⟩ = some (.int .u64 (y.word : Int)) ∧ wr.cell? ⟨b2, o2 + k * 4 + 2, none⟩ = some (.string (str y.name)) ∧ wr.cell? ⟨b2, o2 + k * 4 + 3, none⟩ = some (.slice q y.args.len cq) from ⟨d0, d1', d2, d3⟩)
         have HCt := Lib.hid (fun (W : World) (hB : Below wr.heap.size wr W) => show W.cell? ⟨b2, o2 + k * 4, none⟩ = some (.int .i64 y.op) ∧ W.cell? ⟨b2, o2 + k * 4 + 1, none⟩ = some (.int .u64 (y.word : Int)) ∧ W.cell? ⟨b2, o2 + k * 4 + 2, none⟩ = some (.string (str y.name)) ∧ W.cell? ⟨b2, o2 + k * 4 + 3, none⟩ = some (.slice q y.args.len cq) from
           have hbw : b2 < wr.heap.size := Nat.lt_of_lt_of_le hbN (Nat.le_trans HN.out hBw.size)
           ⟨(hB.cell (p := ⟨b2, _, none⟩) hbw).trans HCs.out.1, (hB.cell (p := ⟨b2, _, none⟩) hbw).trans HCs.out.2.1, (hB.cell (p := ⟨b2, _, none⟩) hbw).trans HCs.out.2.2.1, (hB.cell (p := ⟨b2, _, none⟩) hbw).trans HCs.out.2.2.2⟩)
         clear hy hr hr' hok hE hBw d0 d1' d2 d3 hrs
         go_upto_region 16 with fail
         refine wp_region_held_drew (S := fun W => W.cell? ⟨w.heap.size, 0, none⟩ = some (.slice pp x.regs.length c) ∧ W.cell? ⟨w.heap.size, 1, none⟩ = some (.slice pq x.fns.length d) ∧ W.cell? ⟨w.heap.size + 1, 3, none⟩ = some (.slice (some ⟨b2, o2, none⟩) e.args.len ce) ∧ W.cell? ⟨b2, o2 + k * 4, none⟩ = some (.int .i64 y.op) ∧ W.cell? ⟨b2, o2 + k * 4 + 1, none⟩ = some (.int .u64 (y.word : Int)) ∧ W.cell? ⟨b2, o2 + k * 4 + 2, none⟩ = some (.string (str y.name)) ∧ W.cell? ⟨b2, o2 + k * 4 + 3, none⟩ = some (.slice q y.args.len cq)) (by kernel_rfl) ?_ (fun hHeld => ?_)
         · exact ⟨(HS.out _ hX0).1, (HS.out _ hX0).2.1, (HS.out _ hX0).2.2.2.2.2, HCt.out _ hX⟩
         refine tq 0 ?_
         refine tq 1 ?_
         refine tq 2 ?_
         refine tq 3 ?_
         refine tq 4 ?_
         refine tq 5 ?_
         refine tq 6 ?_
         refine tq 7 ?_
         refine tq 8 ?_
         refine wpAnyH_ready (rs := [9]) (by kernel_rfl) (by simp) ?_
         refine rdy rfl (fun K hK => ?_) AllReadyH.nil
         go_simp
         refine HC.out.mono ?_
         rintro z w5 ⟨rfl, hB5⟩
         replace hX := hX.trans (hB5.mono hX.size)
         replace hX0 := hBr.out.trans (hX.mono hBr.out.size)
         clear hB5
         refine hK.out _ _ ?_ (fun hHeld => ?_)
         · exact ⟨(HS.out _ hX0).1, (HS.out _ hX0).2.1, (HS.out _ hX0).2.2.2.2.2, HCt.out _ hX⟩
         clear hK K
         try simp only [Act.put, List.setIfInBounds_toArray, List.set_cons_zero, List.set_cons_succ]
         refine tq 10 ?_
         refine wpAnyH_done (by kernel_rfl) ?_ _
         have HX2 := Lib.hid hX0
         clear hX hX0 g0 g1 g2 g3 g4 g5
         go_wp2_with fail
         go_roundw
         case rel => exact ⟨k + 1, y.chk x fn d1, r, rfl, by go_num, by omega, HRs, Lib.hid (by rw [show o2 + (k + 1) * 4 = o2 + k * 4 + 4 by omega]; exact HR.out), HE2, HX2⟩
         case measure => simp [intOf]; omega
       · have hv0 : ((v : Int) == 0) = false := by rw [beq_eq_false_iff_ne]; omega
         have HV := Lib.hid (HEnd.out v wr (by rw [hE.out, seq_no hv]) hBr.out)
         clear hE hr
         go_wp2_with fail
         go_ret
         exact HV.out
 · have HH := Lib.hid (show headR x fn e = arrayR x fn e.name by unfold headR; rw [if_neg (by omega), if_pos h3])
   have hop2 : (e.op == 2) = false := by rw [beq_eq_false_iff_ne]; omega
   have hop3 : (e.op == 3) = true := by rw [beq_iff_eq]; exact h3
   clear h3
   go_wp2_with fail
   refine HAr1.out.mono ?_
   rintro z w3 ⟨rfl, hB3⟩
   have HB3 := Lib.hid (HB1.out.trans (hB3.mono HB1.out.size))
   have HHv := Lib.hid (show arrayR x fn e.name = headR x fn e from HH.out.symm)
   generalize arrayR x fn e.name = v0 at HHv ⊢
   clear hB3 HWd1 HAr1 HH g0 g1 g2 g3 g4 g5
   go_wp2_with fail
   go_loopw [9, 10] (fun x9 i wr => ∃ (k v : Nat) (r : Exs), x9 = .int .i64 v ∧ i = .int .i64 k ∧ k + r.len = e.args.len ∧ Hid (r.size ≤ e.args.size) ∧ Hid (r.At w N b2 (o2 + k * 4)) ∧ Hid (e.chk x fn deep = seq v (r.chk x fn d1)) ∧ Hid (Below W0.heap.size W0 wr)) (fun _ i _ => e.args.len - (intOf i).toNat)
   case atStart => exact ⟨0, v0, e.args, rfl, rfl, by omega, Lib.hid (Nat.le_refl _), Lib.hid (by rw [Nat.zero_mul]; exact HA2.out.1), Lib.hid (by rw [R2.out, ← HHv.out]), HB3⟩
   case round =>
     obtain ⟨k, v, r, rfl, rfl, hk, hrs, hr, hE, hBr⟩ := hrel
     obtain ⟨g0, g1, g2, g3, g4, g5⟩ := HS.out _ hBr.out
     cases r with
     | nil =>
       simp only [Exs.len] at hk
       have hge : ¬ k < e.args.len := by omega
       have HV := Lib.hid (HEnd.out v wr (by rw [hE.out, Exs.chk]; unfold seq; split <;> omega) hBr.out)
       clear hE hr
       go_wp2_with fail
       go_ret
       exact HV.out
     | cons y r =>
       simp only [Exs.len] at hk
       have hlt : k < e.args.len := by omega
       by_cases hv : v = 0
       · subst hv
         obtain ⟨hy, hr'⟩ := hr.out
         rcases hq2 with h0 | rfl
         · omega
         have hbN : b2 < N := by have := HA2.out.2; omega
         have hBw := HU.out _ hBr.out
         obtain ⟨q, cq, d0, d1', d2, d3, hok⟩ := (Ex.At.later (hBw.mono HN.out) (Nat.le_refl N) y b2 (o2 + k * 4) hbN hy).open'
         have hX : Below wr.heap.size wr wr.drew := (Below.refl _ _).drew
         have hX0 := hBr.out.trans (hX.mono hBr.out.size)
         have HC := Lib.hid (IH.out y (by have h1 := hrs.out; have h2 := HD.out; simp only [Exs.size] at h1; omega) wr.drew q cq (HU.out _ hX0) (Ex.Ok.later hok (hX.mono (Nat.le_trans HN.out hBw.size)) (Nat.le_refl N)) (HD.out.1 hd))
         have HE2 := Lib.hid (show e.chk x fn deep = seq (y.chk x fn d1) (r.chk x fn d1) by rw [hE.out, Exs.chk]; rfl)
         have HR := Lib.hid hr'
         have HRs := Lib.hid (show r.size ≤ e.args.size by have h1 := hrs.out; simp only [Exs.size] at h1; omega)
         have HX1 := Lib.hid hX0
         have HCs := Lib.hid (show wr.cell? ⟨b2, o2 + k * 4, none⟩ = some (.int .i64 y.op) ∧ wr.cell? ⟨b2, o2 + k * 4 + 1, none⟩ = some (.int .u64 (y.word : Int)) ∧ wr.cell? ⟨b2, o2 + k * 4 + 2, none⟩ = some (.string (str y.name)) ∧ wr.cell? ⟨b2, o2 + k * 4 + 3, none⟩ = some (.slice q y.args.len cq) from ⟨d0, d1', d2, d3⟩)
         have HCt := Lib.hid (fun (W : World) (hB : Below wr.heap.size wr W) => show W.cell? ⟨b2, o2 + k * 4, none⟩ = some (.int .i64 y.op) ∧ W.cell? ⟨b2, o2 + k * 4 + 1, none⟩ = some (.int .u64 (y.word : Int)) ∧ W.cell? ⟨b2, o2 + k * 4 + 2, none⟩ = some (.string (str y.name)) ∧ W.cell? ⟨b2, o2 + k * 4 + 3, none⟩ = some (.slice q y.args.len cq) from
           have hbw : b2 < wr.heap.size := Nat.lt_of_lt_of_le hbN (Nat.le_trans HN.out hBw.size)
           ⟨(hB.cell (p := ⟨b2, _, none⟩) hbw).trans HCs.out.1, (hB.cell (p := ⟨b2, _, none⟩) hbw).trans HCs.out.2.1, (hB.cell (p := ⟨b2, _, none⟩) hbw).trans HCs.out.2.2.1, (hB.cell (p := ⟨b2, _, none⟩) hbw).trans HCs.out.2.2.2⟩)
         clear hy hr hr' hok hE hBw d0 d1' d2 d3 hrs
         go_upto_region 16 with fail
         refine wp_region_held_drew (S := fun W => W.cell? ⟨w.heap.size, 0, none⟩ = some (.slice pp x.regs.length c) ∧ W.cell? ⟨w.heap.size, 1, none⟩ = some (.slice pq x.fns.length d) ∧ W.cell? ⟨w.heap.size + 1, 3, none⟩ = some (.slice (some ⟨b2, o2, none⟩) e.args.len ce) ∧ W.cell? ⟨b2, o2 + k * 4, none⟩ = some (.int .i64 y.op) ∧ W.cell? ⟨b2, o2 + k * 4 + 1, none⟩ = some (.int .u64 (y.word : Int)) ∧ W.cell? ⟨b2, o2 + k * 4 + 2, none⟩ = some (.string (str y.name)) ∧ W.cell? ⟨b2, o2 + k * 4 + 3, none⟩ = some (.slice q y.args.len cq)) (by kernel_rfl) ?_ (fun hHeld => ?_)
         · exact ⟨(HS.out _ hX0).1, (HS.out _ hX0).2.1, (HS.out _ hX0).2.2.2.2.2, HCt.out _ hX⟩
         refine tq 0 ?_
         refine tq 1 ?_
         refine tq 2 ?_
         refine tq 3 ?_
         refine tq 4 ?_
         refine tq 5 ?_
         refine tq 6 ?_
         refine tq 7 ?_
         refine tq 8 ?_
         refine wpAnyH_ready (rs := [9]) (by kernel_rfl) (by simp) ?_
         refine rdy rfl (fun K hK => ?_) AllReadyH.nil
         go_simp
         refine HC.out.mono ?_
         rintro z w5 ⟨rfl, hB5⟩
         replace hX := hX.trans (hB5.mono hX.size)
         replace hX0 := hBr.out.trans (hX.mono hBr.out.size)
         clear hB5
         refine hK.out _ _ ?_ (fun hHeld => ?_)
         · exact ⟨(HS.out _ hX0).1, (HS.out _ hX0).2.1, (HS.out _ hX0).2.2.2.2.2, HCt.out _ hX⟩
         clear hK K
         try simp only [Act.put, List.setIfInBounds_toArray, List.set_cons_zero, List.set_cons_succ]
         refine tq 10 ?_
         refine wpAnyH_done (by kernel_rfl) ?_ _
         have HX2 := Lib.hid hX0
         clear hX hX0 g0 g1 g2 g3 g4 g5
         go_wp2_with fail
         go_roundw
         case rel => exact ⟨k + 1, y.chk x fn d1, r, rfl, by go_num, by omega, HRs, Lib.hid (by rw [show o2 + (k + 1) * 4 = o2 + k * 4 + 4 by omega]; exact HR.out), HE2, HX2⟩
         case measure => simp [intOf]; omega
       · have hv0 : ((v : Int) == 0) = false := by rw [beq_eq_false_iff_ne]; omega
         have HV := Lib.hid (HEnd.out v wr (by rw [hE.out, seq_no hv]) hBr.out)
         clear hE hr
         go_wp2_with fail
         go_ret
         exact HV.out
 · have HH := Lib.hid (show headR x fn e = ask e.name.isEmpty 9 by unfold headR; rw [if_neg h2, if_neg h3])
   have hop2 : (e.op == 2) = false := by rw [beq_eq_false_iff_ne]; exact h2
   have hop3 : (e.op == 3) = false := by rw [beq_eq_false_iff_ne]; exact h3
   have e3 : (str e.name).toList.isEmpty = e.name.isEmpty := by rw [Lib.toList_data, str_data]
   obtain ⟨w3, rfl⟩ : ∃ w3 : World, w3 = wc := ⟨_, rfl⟩
   have HB3 := Lib.hid HB1.out
   clear HWd1 HAr1 h2 h3 g0 g1 g3 g5
   generalize e.name.isEmpty = t at e3 HH
   cases t
   · have HHv := Lib.hid (show 9 = headR x fn e by rw [HH.out]; rfl)
     clear HH
     go_wp2_with fail
     clear g2 g4
     go_loopw [9, 10] (fun x9 i wr => ∃ (k v : Nat) (r : Exs), x9 = .int .i64 v ∧ i = .int .i64 k ∧ k + r.len = e.args.len ∧ Hid (r.size ≤ e.args.size) ∧ Hid (r.At w N b2 (o2 + k * 4)) ∧ Hid (e.chk x fn deep = seq v (r.chk x fn d1)) ∧ Hid (Below W0.heap.size W0 wr)) (fun _ i _ => e.args.len - (intOf i).toNat)
     case atStart => exact ⟨0, 9, e.args, rfl, rfl, by omega, Lib.hid (Nat.le_refl _), Lib.hid (by rw [Nat.zero_mul]; exact HA2.out.1), Lib.hid (by rw [R2.out, ← HHv.out]), HB3⟩
     case round =>
       obtain ⟨k, v, r, rfl, rfl, hk, hrs, hr, hE, hBr⟩ := hrel
       obtain ⟨g0, g1, g2, g3, g4, g5⟩ := HS.out _ hBr.out
       cases r with
       | nil =>
         simp only [Exs.len] at hk
         have hge : ¬ k < e.args.len := by omega
         have HV := Lib.hid (HEnd.out v wr (by rw [hE.out, Exs.chk]; unfold seq; split <;> omega) hBr.out)
         clear hE hr
         go_wp2_with fail
         go_ret
         exact HV.out
       | cons y r =>
         simp only [Exs.len] at hk
         have hlt : k < e.args.len := by omega
         by_cases hv : v = 0
         · subst hv
           obtain ⟨hy, hr'⟩ := hr.out
           rcases hq2 with h0 | rfl
           · omega
           have hbN : b2 < N := by have := HA2.out.2; omega
           have hBw := HU.out _ hBr.out
           obtain ⟨q, cq, d0, d1', d2, d3, hok⟩ := (Ex.At.later (hBw.mono HN.out) (Nat.le_refl N) y b2 (o2 + k * 4) hbN hy).open'
           have hX : Below wr.heap.size wr wr.drew := (Below.refl _ _).drew
           have hX0 := hBr.out.trans (hX.mono hBr.out.size)
           have HC := Lib.hid (IH.out y (by have h1 := hrs.out; have h2 := HD.out; simp only [Exs.size] at h1; omega) wr.drew q cq (HU.out _ hX0) (Ex.Ok.later hok (hX.mono (Nat.le_trans HN.out hBw.size)) (Nat.le_refl N)) (HD.out.1 hd))
           have HE2 := Lib.hid (show e.chk x fn deep = seq (y.chk x fn d1) (r.chk x fn d1) by rw [hE.out, Exs.chk]; rfl)
           have HR := Lib.hid hr'
           have HRs := Lib.hid (show r.size ≤ e.args.size by have h1 := hrs.out; simp only [Exs.size] at h1; omega)
           have HX1 := Lib.hid hX0
           have HCs := Lib.hid (show wr.cell? ⟨b2, o2 + k * 4, none⟩ = some (.int .i64 y.op) ∧ wr.cell? ⟨b2, o2 + k * 4 + 1, none⟩ = some (.int .u64 (y.word : Int)) ∧ wr.cell? ⟨b2, o2 + k * 4 + 2, none⟩ = some (.string (str y.name)) ∧ wr.cell? ⟨b2, o2 + k * 4 + 3, none⟩ = some (.slice q y.args.len cq) from ⟨d0, d1', d2, d3⟩)
           have HCt := Lib.hid (fun (W : World) (hB : Below wr.heap.size wr W) => show W.cell? ⟨b2, o2 + k * 4, none⟩ = some (.int .i64 y.op) ∧ W.cell? ⟨b2, o2 + k * 4 + 1, none⟩ = some (.int .u64 (y.word : Int)) ∧ W.cell? ⟨b2, o2 + k * 4 + 2, none⟩ = some (.string (str y.name)) ∧ W.cell? ⟨b2, o2 + k * 4 + 3, none⟩ = some (.slice q y.args.len cq) from
             have hbw : b2 < wr.heap.size := Nat.lt_of_lt_of_le hbN (Nat.le_trans HN.out hBw.size)
             ⟨(hB.cell (p := ⟨b2, _, none⟩) hbw).trans HCs.out.1, (hB.cell (p := ⟨b2, _, none⟩) hbw).trans HCs.out.2.1, (hB.cell (p := ⟨b2, _, none⟩) hbw).trans HCs.out.2.2.1, (hB.cell (p := ⟨b2, _, none⟩) hbw).trans HCs.out.2.2.2⟩)
           clear hy hr hr' hok hE hBw d0 d1' d2 d3 hrs
           go_upto_region 16 with fail
           refine wp_region_held_drew (S := fun W => W.cell? ⟨w.heap.size, 0, none⟩ = some (.slice pp x.regs.length c) ∧ W.cell? ⟨w.heap.size, 1, none⟩ = some (.slice pq x.fns.length d) ∧ W.cell? ⟨w.heap.size + 1, 3, none⟩ = some (.slice (some ⟨b2, o2, none⟩) e.args.len ce) ∧ W.cell? ⟨b2, o2 + k * 4, none⟩ = some (.int .i64 y.op) ∧ W.cell? ⟨b2, o2 + k * 4 + 1, none⟩ = some (.int .u64 (y.word : Int)) ∧ W.cell? ⟨b2, o2 + k * 4 + 2, none⟩ = some (.string (str y.name)) ∧ W.cell? ⟨b2, o2 + k * 4 + 3, none⟩ = some (.slice q y.args.len cq)) (by kernel_rfl) ?_ (fun hHeld => ?_)
           · exact ⟨(HS.out _ hX0).1, (HS.out _ hX0).2.1, (HS.out _ hX0).2.2.2.2.2, HCt.out _ hX⟩
           refine tq 0 ?_
           refine tq 1 ?_
           refine tq 2 ?_
           refine tq 3 ?_
           refine tq 4 ?_
           refine tq 5 ?_
           refine tq 6 ?_
           refine tq 7 ?_
           refine tq 8 ?_
           refine wpAnyH_ready (rs := [9]) (by kernel_rfl) (by simp) ?_
           refine rdy rfl (fun K hK => ?_) AllReadyH.nil
           go_simp
           refine HC.out.mono ?_
           rintro z w5 ⟨rfl, hB5⟩
           replace hX := hX.trans (hB5.mono hX.size)
           replace hX0 := hBr.out.trans (hX.mono hBr.out.size)
           clear hB5
           refine hK.out _ _ ?_ (fun hHeld => ?_)
           · exact ⟨(HS.out _ hX0).1, (HS.out _ hX0).2.1, (HS.out _ hX0).2.2.2.2.2, HCt.out _ hX⟩
           clear hK K
           try simp only [Act.put, List.setIfInBounds_toArray, List.set_cons_zero, List.set_cons_succ]
           refine tq 10 ?_
           refine wpAnyH_done (by kernel_rfl) ?_ _
           have HX2 := Lib.hid hX0
           clear hX hX0 g0 g1 g2 g3 g4 g5
           go_wp2_with fail
           go_roundw
           case rel => exact ⟨k + 1, y.chk x fn d1, r, rfl, by go_num, by omega, HRs, Lib.hid (by rw [show o2 + (k + 1) * 4 = o2 + k * 4 + 4 by omega]; exact HR.out), HE2, HX2⟩
           case measure => simp [intOf]; omega
         · have hv0 : ((v : Int) == 0) = false := by rw [beq_eq_false_iff_ne]; omega
           have HV := Lib.hid (HEnd.out v wr (by rw [hE.out, seq_no hv]) hBr.out)
           clear hE hr
           go_wp2_with fail
           go_ret
           exact HV.out
   · have HHv := Lib.hid (show 0 = headR x fn e by rw [HH.out]; rfl)
     clear HH
     go_wp2_with fail
     clear g2 g4
     go_loopw [9, 10] (fun x9 i wr => ∃ (k v : Nat) (r : Exs), x9 = .int .i64 v ∧ i = .int .i64 k ∧ k + r.len = e.args.len ∧ Hid (r.size ≤ e.args.size) ∧ Hid (r.At w N b2 (o2 + k * 4)) ∧ Hid (e.chk x fn deep = seq v (r.chk x fn d1)) ∧ Hid (Below W0.heap.size W0 wr)) (fun _ i _ => e.args.len - (intOf i).toNat)
     case atStart => exact ⟨0, 0, e.args, rfl, rfl, by omega, Lib.hid (Nat.le_refl _), Lib.hid (by rw [Nat.zero_mul]; exact HA2.out.1), Lib.hid (by rw [R2.out, ← HHv.out]), HB3⟩
     case round =>
       obtain ⟨k, v, r, rfl, rfl, hk, hrs, hr, hE, hBr⟩ := hrel
       obtain ⟨g0, g1, g2, g3, g4, g5⟩ := HS.out _ hBr.out
       cases r with
       | nil =>
         simp only [Exs.len] at hk
         have hge : ¬ k < e.args.len := by omega
         have HV := Lib.hid (HEnd.out v wr (by rw [hE.out, Exs.chk]; unfold seq; split <;> omega) hBr.out)
         clear hE hr
         go_wp2_with fail
         go_ret
         exact HV.out
       | cons y r =>
         simp only [Exs.len] at hk
         have hlt : k < e.args.len := by omega
         by_cases hv : v = 0
         · subst hv
           obtain ⟨hy, hr'⟩ := hr.out
           rcases hq2 with h0 | rfl
           · omega
           have hbN : b2 < N := by have := HA2.out.2; omega
           have hBw := HU.out _ hBr.out
           obtain ⟨q, cq, d0, d1', d2, d3, hok⟩ := (Ex.At.later (hBw.mono HN.out) (Nat.le_refl N) y b2 (o2 + k * 4) hbN hy).open'
           have hX : Below wr.heap.size wr wr.drew := (Below.refl _ _).drew
           have hX0 := hBr.out.trans (hX.mono hBr.out.size)
           have HC := Lib.hid (IH.out y (by have h1 := hrs.out; have h2 := HD.out; simp only [Exs.size] at h1; omega) wr.drew q cq (HU.out _ hX0) (Ex.Ok.later hok (hX.mono (Nat.le_trans HN.out hBw.size)) (Nat.le_refl N)) (HD.out.1 hd))
           have HE2 := Lib.hid (show e.chk x fn deep = seq (y.chk x fn d1) (r.chk x fn d1) by rw [hE.out, Exs.chk]; rfl)
           have HR := Lib.hid hr'
           have HRs := Lib.hid (show r.size ≤ e.args.size by have h1 := hrs.out; simp only [Exs.size] at h1; omega)
           have HX1 := Lib.hid hX0
           have HCs := Lib.hid (show wr.cell? ⟨b2, o2 + k * 4, none⟩ = some (.int .i64 y.op) ∧ wr.cell? ⟨b2, o2 + k * 4 + 1, none⟩ = some (.int .u64 (y.word : Int)) ∧ wr.cell? ⟨b2, o2 + k * 4 + 2, none⟩ = some (.string (str y.name)) ∧ wr.cell? ⟨b2, o2 + k * 4 + 3, none⟩ = some (.slice q y.args.len cq) from ⟨d0, d1', d2, d3⟩)
           have HCt := Lib.hid (fun (W : World) (hB : Below wr.heap.size wr W) => show W.cell? ⟨b2, o2 + k * 4, none⟩ = some (.int .i64 y.op) ∧ W.cell? ⟨b2, o2 + k * 4 + 1, none⟩ = some (.int .u64 (y.word : Int)) ∧ W.cell? ⟨b2, o2 + k * 4 + 2, none⟩ = some (.string (str y.name)) ∧ W.cell? ⟨b2, o2 + k * 4 + 3, none⟩ = some (.slice q y.args.len cq) from
             have hbw : b2 < wr.heap.size := Nat.lt_of_lt_of_le hbN (Nat.le_trans HN.out hBw.size)
             ⟨(hB.cell (p := ⟨b2, _, none⟩) hbw).trans HCs.out.1, (hB.cell (p := ⟨b2, _, none⟩) hbw).trans HCs.out.2.1, (hB.cell (p := ⟨b2, _, none⟩) hbw).trans HCs.out.2.2.1, (hB.cell (p := ⟨b2, _, none⟩) hbw).trans HCs.out.2.2.2⟩)
           clear hy hr hr' hok hE hBw d0 d1' d2 d3 hrs
           go_upto_region 16 with fail
           refine wp_region_held_drew (S := fun W => W.cell? ⟨w.heap.size, 0, none⟩ = some (.slice pp x.regs.length c) ∧ W.cell? ⟨w.heap.size, 1, none⟩ = some (.slice pq x.fns.length d) ∧ W.cell? ⟨w.heap.size + 1, 3, none⟩ = some (.slice (some ⟨b2, o2, none⟩) e.args.len ce) ∧ W.cell? ⟨b2, o2 + k * 4, none⟩ = some (.int .i64 y.op) ∧ W.cell? ⟨b2, o2 + k * 4 + 1, none⟩ = some (.int .u64 (y.word : Int)) ∧ W.cell? ⟨b2, o2 + k * 4 + 2, none⟩ = some (.string (str y.name)) ∧ W.cell? ⟨b2, o2 + k * 4 + 3, none⟩ = some (.slice q y.args.len cq)) (by kernel_rfl) ?_ (fun hHeld => ?_)
           · exact ⟨(HS.out _ hX0).1, (HS.out _ hX0).2.1, (HS.out _ hX0).2.2.2.2.2, HCt.out _ hX⟩
           refine tq 0 ?_
           refine tq 1 ?_
           refine tq 2 ?_
           refine tq 3 ?_
           refine tq 4 ?_
           refine tq 5 ?_
           refine tq 6 ?_
           refine tq 7 ?_
           refine tq 8 ?_
           refine wpAnyH_ready (rs := [9]) (by kernel_rfl) (by simp) ?_
           refine rdy rfl (fun K hK => ?_) AllReadyH.nil
           go_simp
           refine HC.out.mono ?_
           rintro z w5 ⟨rfl, hB5⟩
           replace hX := hX.trans (hB5.mono hX.size)
           replace hX0 := hBr.out.trans (hX.mono hBr.out.size)
           clear hB5
           refine hK.out _ _ ?_ (fun hHeld => ?_)
           · exact ⟨(HS.out _ hX0).1, (HS.out _ hX0).2.1, (HS.out _ hX0).2.2.2.2.2, HCt.out _ hX⟩
           clear hK K
           try simp only [Act.put, List.setIfInBounds_toArray, List.set_cons_zero, List.set_cons_succ]
           refine tq 10 ?_
           refine wpAnyH_done (by kernel_rfl) ?_ _
           have HX2 := Lib.hid hX0
           clear hX hX0 g0 g1 g2 g3 g4 g5
           go_wp2_with fail
           go_roundw
           case rel => exact ⟨k + 1, y.chk x fn d1, r, rfl, by go_num, by omega, HRs, Lib.hid (by rw [show o2 + (k + 1) * 4 = o2 + k * 4 + 4 by omega]; exact HR.out), HE2, HX2⟩
           case measure => simp [intOf]; omega
         · have hv0 : ((v : Int) == 0) = false := by rw [beq_eq_false_iff_ne]; omega
           have HV := Lib.hid (HEnd.out v wr (by rw [hE.out, seq_no hv]) hBr.out)
           clear hE hr
           go_wp2_with fail
           go_ret
           exact HV.out
theorem rexpr_to : ∀ n, RE n
 | 0 => fun _ h => absurd h (Nat.not_lt_zero _)
 | n + 1 => rexpr_step n (rexpr_to n)
end Go.Proofs.YtihmibggonffdaaGreat
