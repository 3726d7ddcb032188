/- The law on programs that are the same: its walk. -/
import Derived.Test.YtlhbledakddbbaaGreatDoorR3
import Derived.Test.YtlhbledakddbbaaGreatDoorR5
import Derived.Test.YtlhbledakddbbaaGreatDoorC8
namespace Go.Proofs.YtlhbledakddbbaaGreatDoor
open Go.RowKit

set_option maxRecDepth 100000 in
set_option maxHeartbeats 12800000 in
theorem same_law (x y : Prg) (p q p' q' : Option Addr) (c d c' d' : Nat) (w : World) (hG : Glob w) (hx : x.Ok w w.heap.size p q) (hy : y.Ok w w.heap.size p' q') :
    Calls Tryz.prog 5 #[x.val p q c d, y.val p' q' c' d'] w fun e w' => e = .returned (.bool true) ∧ Below w.heap.size w w' := by
  obtain ⟨ra, xs⟩ := x
  obtain ⟨rb, ys⟩ := y
  have HK := Lib.hid (fun w' (h : Below w.heap.size w w') => known_any w' (hG.later h))
  have HLa := Lib.hid (fun w' (h : Below w.heap.size w w') => long_any (Prg.mk ra xs) 5000 (Nat.le_refl _) p q c d w.heap.size w' (hx.later h (Nat.le_refl _)) h.size)
  have HLb := Lib.hid (fun w' (h : Below w.heap.size w w') => long_any (Prg.mk rb ys) 5000 (Nat.le_refl _) p' q' c' d' w.heap.size w' (hy.later h (Nat.le_refl _)) h.size)
  have HSab := Lib.hid (fun w' (h : Below w.heap.size w w') => same_any (Prg.mk ra xs) (Prg.mk rb ys) p q p' q' c d c' d' w.heap.size w' (hx.later h (Nat.le_refl _)) (hy.later h (Nat.le_refl _)) h.size)
  have HRab := Lib.hid (fun w' (h : Below w.heap.size w w') => rSame_any (Prg.mk ra xs) (Prg.mk rb ys) p q p' q' c d c' d' w.heap.size w' (hx.later h (Nat.le_refl _)) (hy.later h (Nat.le_refl _)) h.size)
  have HSaa := Lib.hid (fun w' (h : Below w.heap.size w w') => same_any (Prg.mk ra xs) (Prg.mk ra xs) p q p q c d c d w.heap.size w' (hx.later h (Nat.le_refl _)) (hx.later h (Nat.le_refl _)) h.size)
  rw [← eqB_true rfl] at HSaa
  generalize eqB (Prg.mk ra xs) (Prg.mk rb ys) = v at HSab HRab
  have hvv : (v != v) = false := by cases v <;> rfl
  generalize decide (5000 < (Prg.mk ra xs).total) = la at HLa
  generalize decide (5000 < (Prg.mk rb ys).total) = lb at HLb
  obtain ⟨w0, hw0⟩ : ∃ w0, ((w.alloc (Obj.cells #[.slice p ra.length c, .slice q xs.length d] 39)).alloc (Obj.cells #[.slice p' rb.length c', .slice q' ys.length d'] 39)) = w0 := ⟨_, rfl⟩
  have HW0 := Lib.hid (show Below w.heap.size w w0 by rw [← hw0]; exact ((Below.refl _ w).alloc (Nat.le_refl _) _).alloc (by simp) _)
  have HX0 := Lib.hid (fun w1 hb => cells_later (w0 := w0) (w1 := w1) (b := w.heap.size) (A := #[.slice p ra.length c, .slice q xs.length d]) (t := 39) (by rw [← hw0, heap_alloc_old _ _ (by simp)]; exact heap_alloc_new w _) hb)
  have HY0 := Lib.hid (fun w1 hb => cells_later (w0 := w0) (w1 := w1) (b := w.heap.size + 1) (A := #[.slice p' rb.length c', .slice q' ys.length d']) (t := 39) (by rw [← hw0]; have := heap_alloc_new (w.alloc (Obj.cells #[.slice p ra.length c, .slice q xs.length d] 39)) (Obj.cells #[.slice p' rb.length c', .slice q' ys.length d'] 39); simpa using this) hb)
  have gz0 : w0.cell? ⟨w.heap.size, 0, none⟩ = some (.slice p ra.length c) := HX0.out _ (Below.refl _ _) 0 _ rfl
  have gz1 : w0.cell? ⟨w.heap.size, 1, none⟩ = some (.slice q xs.length d) := HX0.out _ (Below.refl _ _) 1 _ rfl
  have hw2 : w0.heap.size = w.heap.size + 2 := by rw [← hw0]; simp
  have S1 := Lib.hid hx.2
  have S2 := Lib.hid hy.2
  have hm3 : xs.length ≤ 140737488355328 := hx.2.1
  have hm4 : ys.length ≤ 140737488355328 := hy.2.1
  unfold Prg.val at HLa HLb HSab HRab HSaa
  simp only [] at HLa HLb HSab HRab HSaa
  show Calls _ _ #[.agg #[.slice p ra.length c, .slice q xs.length d], .agg #[.slice p' rb.length c', .slice q' ys.length d']] w _
  clear hx hy hG
  go_enter Tryz.func5, Tryz.ntmps5
  go_wp2_with fail
  refine (HLa.out _ HW0.out).mono ?_
  rintro z w1 ⟨rfl, hB⟩
  have HB1 := Lib.hid (HW0.out.trans (hB.mono HW0.out.size))
  have HD1 := Lib.hid hB
  have gy0 : w1.cell? ⟨w.heap.size + 1, 0, none⟩ = some (.slice p' rb.length c') := HY0.out _ hB 0 _ rfl
  have gy1 : w1.cell? ⟨w.heap.size + 1, 1, none⟩ = some (.slice q' ys.length d') := HY0.out _ hB 1 _ rfl
  clear hB HLa hw0 gz0 gz1
  cases la with
  | true =>
    go_wp2_with fail
    refine (HK.out _ HB1.out).mono ?_
    rintro z wz ⟨rfl, hB'⟩
    have HBz := Lib.hid (HB1.out.trans (hB'.mono HB1.out.size))
    clear hB'
    go_wp2_with fail
    go_ret
    exact ⟨rfl, HBz.out⟩
  | false =>
    go_wp2_with fail
    refine (HLb.out _ HB1.out).mono ?_
    rintro z w2 ⟨rfl, hB⟩
    have HB2 := Lib.hid (HB1.out.trans (hB.mono HB1.out.size))
    have HD2 := Lib.hid (HD1.out.trans (hB.mono HD1.out.size))
    clear hB HLb gy0 gy1
    cases lb with
    | true =>
      go_wp2_with fail
      refine (HK.out _ HB2.out).mono ?_
      rintro z wz ⟨rfl, hB'⟩
      have HBz := Lib.hid (HB2.out.trans (hB'.mono HB2.out.size))
      clear hB'
      go_wp2_with fail
      go_ret
      exact ⟨rfl, HBz.out⟩
    | false =>
      go_upto_region 3 with fail
      go_cut [28] from 16 to 27 (fun s28 wx => s28 = .bool false ∧ Hid (Below w.heap.size w wx) ∧ Hid (Below w0.heap.size w0 wx))
      case first =>
        have HS1 : Below w.heap.size w w2.drew := HB2.out.drew
        have HS2 : Below w0.heap.size w0 w2.drew := HD2.out.drew
        refine wp_region_held_drew (S := fun W => Below w.heap.size w W ∧ W.cell? ⟨w.heap.size, 0, none⟩ = some (.slice p ra.length c) ∧ W.cell? ⟨w.heap.size, 1, none⟩ = some (.slice q xs.length d) ∧ W.cell? ⟨w.heap.size + 1, 0, none⟩ = some (.slice p' rb.length c') ∧ W.cell? ⟨w.heap.size + 1, 1, none⟩ = some (.slice q' ys.length d')) (by kernel_rfl) ?_ (fun hHeld => ?_)
        · exact ⟨HS1, HX0.out _ HS2 0 _ rfl, HX0.out _ HS2 1 _ rfl, HY0.out _ HS2 0 _ rfl, HY0.out _ HS2 1 _ rfl⟩
        refine wpAnyH_take (i := 0) (oi := { dst := Option.some 16, op := Go.Op.load 39 (Go.Operand.tmp 2), type := 39, pos := "law.go:131", after := #[], guard := Option.none }) (v := ?_) rfl (by kernel_rfl) (by kernel_rfl) (by kernel_rfl) (fun _ _ _ h => h) (Or.inl ⟨by rfl, ?_⟩) (by assumption) ?_
        rotate_left
        · (intro w hSw; (try dsimp only at hSw); go_simp; try with_reducible rfl)
        try simp only [Act.put, List.setIfInBounds_toArray, List.set_cons_zero, List.set_cons_succ]
        refine wpAnyH_take (i := 1) (oi := { dst := Option.some 17, op := Go.Op.load 39 (Go.Operand.tmp 3), type := 39, pos := "law.go:131", after := #[], guard := Option.none }) (v := ?_) rfl (by kernel_rfl) (by kernel_rfl) (by kernel_rfl) (fun _ _ _ h => h) (Or.inl ⟨by rfl, ?_⟩) (by assumption) ?_
        rotate_left
        · (intro w hSw; (try dsimp only at hSw); go_simp; try with_reducible rfl)
        try simp only [Act.put, List.setIfInBounds_toArray, List.set_cons_zero, List.set_cons_succ]
        refine wpAnyH_take (i := 3) (oi := { dst := Option.some 19, op := Go.Op.load 39 (Go.Operand.tmp 2), type := 39, pos := "law.go:131", after := #[], guard := Option.none }) (v := ?_) rfl (by kernel_rfl) (by kernel_rfl) (by kernel_rfl) (fun _ _ _ h => h) (Or.inl ⟨by rfl, ?_⟩) (by assumption) ?_
        rotate_left
        · (intro w hSw; (try dsimp only at hSw); go_simp; try with_reducible rfl)
        try simp only [Act.put, List.setIfInBounds_toArray, List.set_cons_zero, List.set_cons_succ]
        refine wpAnyH_take (i := 4) (oi := { dst := Option.some 20, op := Go.Op.load 39 (Go.Operand.tmp 3), type := 39, pos := "law.go:131", after := #[], guard := Option.none }) (v := ?_) rfl (by kernel_rfl) (by kernel_rfl) (by kernel_rfl) (fun _ _ _ h => h) (Or.inl ⟨by rfl, ?_⟩) (by assumption) ?_
        rotate_left
        · (intro w hSw; (try dsimp only at hSw); go_simp; try with_reducible rfl)
        try simp only [Act.put, List.setIfInBounds_toArray, List.set_cons_zero, List.set_cons_succ]
        refine wpAnyH_ready (rs := [2]) (by kernel_rfl) (by simp) ?_
        refine AllReadyH.cons (o := { dst := Option.some 18, op := Go.Op.call { callee := Go.Callee.value (Go.Operand.func 21), args := #[Go.Operand.tmp 16, Go.Operand.tmp 17], argTypes := #[39, 39] }, type := 4, pos := "law.go:131", after := #[{ on := 0, ground := Go.Ground.data }, { on := 1, ground := Go.Ground.data }], guard := Option.none }) rfl (fun K hK => ?_) AllReadyH.nil
        go_simp
        refine (HSab.out _ HS1).mono ?_
        rintro z wa ⟨rfl, hB'⟩
        replace HS1 := HS1.trans (hB'.mono HS1.size)
        replace HS2 := HS2.trans (hB'.mono HS2.size)
        clear hB'
        refine hK.out _ _ ?_ (fun hHeld => ?_)
        · exact ⟨HS1, HX0.out _ HS2 0 _ rfl, HX0.out _ HS2 1 _ rfl, HY0.out _ HS2 0 _ rfl, HY0.out _ HS2 1 _ rfl⟩
        clear hK K
        try simp only [Act.put, List.setIfInBounds_toArray, List.set_cons_zero, List.set_cons_succ]
        refine wpAnyH_ready (rs := [5]) (by kernel_rfl) (by simp) ?_
        refine AllReadyH.cons (o := { dst := Option.some 21, op := Go.Op.call { callee := Go.Callee.value (Go.Operand.func 22), args := #[Go.Operand.tmp 19, Go.Operand.tmp 20], argTypes := #[39, 39] }, type := 4, pos := "law.go:131", after := #[{ on := 3, ground := Go.Ground.data }, { on := 4, ground := Go.Ground.data }, { on := 2, ground := Go.Ground.chain }], guard := Option.none }) rfl (fun K hK => ?_) AllReadyH.nil
        go_simp
        refine (HRab.out _ HS1).mono ?_
        rintro z wb ⟨rfl, hB'⟩
        replace HS1 := HS1.trans (hB'.mono HS1.size)
        replace HS2 := HS2.trans (hB'.mono HS2.size)
        clear hB'
        refine hK.out _ _ ?_ (fun hHeld => ?_)
        · exact ⟨HS1, HX0.out _ HS2 0 _ rfl, HX0.out _ HS2 1 _ rfl, HY0.out _ HS2 0 _ rfl, HY0.out _ HS2 1 _ rfl⟩
        clear hK K
        try simp only [Act.put, List.setIfInBounds_toArray, List.set_cons_zero, List.set_cons_succ]
        refine wpAnyH_take (i := 6) (oi := { dst := Option.some 22, op := Go.Op.binOp Go.BinOp.neq 4 (Go.Operand.tmp 18) (Go.Operand.tmp 21) 4, type := 4, pos := "law.go:131", after := #[{ on := 2, ground := Go.Ground.data }, { on := 5, ground := Go.Ground.data }], guard := Option.none }) (v := .bool false) rfl (by kernel_rfl) (by kernel_rfl) (by kernel_rfl) (fun _ _ _ h => h) (Or.inl ⟨by rfl, ?_⟩) (by assumption) ?_
        · (intro w hSw; (try dsimp only at hSw); go_simp; try rw [hvv])
        try simp only [Act.put, List.setIfInBounds_toArray, List.set_cons_zero, List.set_cons_succ]
        refine wpAnyH_take (i := 7) (oi := { dst := Option.some 23, op := Go.Op.move (Go.Operand.tmp 22), type := 4, pos := "law.go:131", after := #[{ on := 6, ground := Go.Ground.data }, { on := 5, ground := Go.Ground.chain }], guard := Option.none }) (v := ?_) rfl (by kernel_rfl) (by kernel_rfl) (by kernel_rfl) (fun _ _ _ h => h) (Or.inl ⟨by rfl, ?_⟩) (by assumption) ?_
        rotate_left
        · (intro w hSw; (try dsimp only at hSw); go_simp; try with_reducible rfl)
        try simp only [Act.put, List.setIfInBounds_toArray, List.set_cons_zero, List.set_cons_succ]
        refine wpAnyH_take (i := 8) (oi := { dst := Option.some 24, op := Go.Op.load 39 (Go.Operand.tmp 2), type := 39, pos := "law.go:131", after := #[{ on := 7, ground := Go.Ground.guard }], guard := Option.some (7, Bool.false) }) (v := ?_) rfl (by kernel_rfl) (by kernel_rfl) (by kernel_rfl) (fun _ _ _ h => h) (Or.inl ⟨by rfl, ?_⟩) (by assumption) ?_
        rotate_left
        · (intro w hSw; (try dsimp only at hSw); go_simp; try with_reducible rfl)
        try simp only [Act.put, List.setIfInBounds_toArray, List.set_cons_zero, List.set_cons_succ]
        refine wpAnyH_take (i := 9) (oi := { dst := Option.some 25, op := Go.Op.load 39 (Go.Operand.tmp 2), type := 39, pos := "law.go:131", after := #[{ on := 7, ground := Go.Ground.guard }], guard := Option.some (7, Bool.false) }) (v := ?_) rfl (by kernel_rfl) (by kernel_rfl) (by kernel_rfl) (fun _ _ _ h => h) (Or.inl ⟨by rfl, ?_⟩) (by assumption) ?_
        rotate_left
        · (intro w hSw; (try dsimp only at hSw); go_simp; try with_reducible rfl)
        try simp only [Act.put, List.setIfInBounds_toArray, List.set_cons_zero, List.set_cons_succ]
        refine wpAnyH_ready (rs := [10]) (by kernel_rfl) (by simp) ?_
        refine AllReadyH.cons (o := { dst := Option.some 26, op := Go.Op.call { callee := Go.Callee.value (Go.Operand.func 21), args := #[Go.Operand.tmp 24, Go.Operand.tmp 25], argTypes := #[39, 39] }, type := 4, pos := "law.go:131", after := #[{ on := 8, ground := Go.Ground.data }, { on := 9, ground := Go.Ground.data }, { on := 7, ground := Go.Ground.chain }, { on := 7, ground := Go.Ground.guard }], guard := Option.some (7, Bool.false) }) rfl (fun K hK => ?_) AllReadyH.nil
        go_simp
        refine (HSaa.out _ HS1).mono ?_
        rintro z wd ⟨rfl, hB'⟩
        replace HS1 := HS1.trans (hB'.mono HS1.size)
        replace HS2 := HS2.trans (hB'.mono HS2.size)
        clear hB'
        refine hK.out _ _ ?_ (fun hHeld => ?_)
        · exact ⟨HS1, HX0.out _ HS2 0 _ rfl, HX0.out _ HS2 1 _ rfl, HY0.out _ HS2 0 _ rfl, HY0.out _ HS2 1 _ rfl⟩
        clear hK K
        try simp only [Act.put, List.setIfInBounds_toArray, List.set_cons_zero, List.set_cons_succ]
        refine wpAnyH_take (i := 11) (oi := { dst := Option.some 27, op := Go.Op.unOp Go.UnOp.not 4 (Go.Operand.tmp 26), type := 4, pos := "law.go:131", after := #[{ on := 10, ground := Go.Ground.data }, { on := 7, ground := Go.Ground.guard }], guard := Option.some (7, Bool.false) }) (v := ?_) rfl (by kernel_rfl) (by kernel_rfl) (by kernel_rfl) (fun _ _ _ h => h) (Or.inl ⟨by rfl, ?_⟩) (by assumption) ?_
        rotate_left
        · (intro w hSw; (try dsimp only at hSw); go_simp; try with_reducible rfl)
        try simp only [Act.put, List.setIfInBounds_toArray, List.set_cons_zero, List.set_cons_succ]
        refine wpAnyH_take (i := 12) (oi := { dst := Option.some 28, op := Go.Op.pick (Go.Operand.tmp 23) (Go.Operand.const (Go.Value.bool Bool.true)) (Go.Operand.tmp 27), type := 4, pos := "law.go:131", after := #[{ on := 7, ground := Go.Ground.data }, { on := 11, ground := Go.Ground.data }], guard := Option.none }) (v := ?_) rfl (by kernel_rfl) (by kernel_rfl) (by kernel_rfl) (fun _ _ _ h => h) (Or.inl ⟨by rfl, ?_⟩) (by assumption) ?_
        rotate_left
        · (intro w hSw; (try dsimp only at hSw); go_simp; try with_reducible rfl)
        try simp only [Act.put, List.setIfInBounds_toArray, List.set_cons_zero, List.set_cons_succ]
        refine wpAnyH_done (by kernel_rfl) ?_ _
        go_wp2_with fail
        go_meet
        exact ⟨rfl, Lib.hid HS1, Lib.hid HS2⟩
      case rest =>
        obtain ⟨rfl, HB3, HD3⟩ := hcut
        clear HSab HRab HSaa hvv
        go_wp2_with fail
        go_loopw [5] (fun i wx => ∃ k : Nat, i = .int .i64 k ∧ k ≤ xs.length ∧ Hid (Below w.heap.size w wx) ∧ Hid (Below w0.heap.size w0 wx)) (fun i _ => xs.length - (intOf i).toNat)
        case atStart => exact ⟨0, rfl, Nat.zero_le _, HB3, HD3⟩
        case round =>
          clear HB3 HD3
          obtain ⟨k, rfl, hkx, HBr, HDr⟩ := hrel
          have gx1 : wr.cell? ⟨w.heap.size, 1, none⟩ = some (.slice q xs.length d) := HX0.out _ HDr.out 1 _ rfl
          have gy1 : wr.cell? ⟨w.heap.size + 1, 1, none⟩ = some (.slice q' ys.length d') := HY0.out _ HDr.out 1 _ rfl
          by_cases hk1 : k < xs.length
          · by_cases hk2 : k < ys.length
            · rcases S1.out.2 with h30 | ⟨b1, o1, rfl, hb1, ha1⟩
              · omega
              rcases S2.out.2 with h30 | ⟨b2, o2, rfl, hb2, ha2⟩
              · omega
              have hws := HBr.out.size
              have hi1 : xs[k]? = some xs[k] := List.getElem?_eq_getElem hk1
              have hi2 : ys[k]? = some ys[k] := List.getElem?_eq_getElem hk2
              generalize xs[k] = y1 at hi1
              generalize ys[k] = y2 at hi2
              obtain ⟨s1, c1, ok1⟩ := Fnc.At.openP (Fnc.At.later HBr.out hws y1 b1 _ hb1 (Row.get ha1 hi1))
              obtain ⟨s2, c2, ok2⟩ := Fnc.At.openP (Fnc.At.later HBr.out hws y2 b2 _ hb2 (Row.get ha2 hi2))
              have f1 : wr.cell? ⟨b1, o1 + k * 5 + 4, none⟩ = some (.slice s1.pb y1.body.len s1.cb) := c1 4 _ rfl
              have f2 : wr.cell? ⟨b2, o2 + k * 5 + 4, none⟩ = some (.slice s2.pb y2.body.len s2.cb) := c2 4 _ rfl
              have hIn1 : y1.body.In wr wr.heap.size s1.pb := ok1.2.2.2
              have hIn2 : y2.body.In wr wr.heap.size s2.pb := ok2.2.2.2
              generalize y1.body = u at f1 hIn1
              generalize y2.body = t at f2 hIn2
              generalize s1.pb = pu at f1 hIn1
              generalize s2.pb = pt at f2 hIn2
              generalize s1.cb = cu at f1
              generalize s2.cb = ct at f2
              clear c1 c2 ok1 ok2 hi1 hi2 ha1 ha2
              obtain ⟨wo, rfl⟩ : ∃ wo : World, wo = wr := ⟨_, rfl⟩
              go_upto_region 8 with fail
              go_cut [6, 7] from 43 to 54 (fun s6 s7 wx => s6 = .slice pu u.len cu ∧ s7 = .slice pt t.len ct ∧ Hid (Below wo.heap.size wo wx))
              case first =>
                have HDo := Lib.hid (Below.refl wo.heap.size wo).drew
                go_region
                all_goals
                  go_wp2_with fail
                  go_meet
                  exact ⟨rfl, rfl, HDo⟩
              case rest =>
                obtain ⟨rfl, rfl, HBc⟩ := hcut
                clear f1 f2 gx1 gy1
                have HP := Lib.hid (fun w' (h : Below wo.heap.size wo w') => sameStmts_any u t pu pt cu ct wo.heap.size w' (Sts.In.later hIn1 h (Nat.le_refl _)) (Sts.In.later hIn2 h (Nat.le_refl _)) h.size)
                have HR := Lib.hid (fun w' (h : Below wo.heap.size wo w') => rSameStmts_any u t pu pt cu ct wo.heap.size w' (Sts.In.later hIn1 h (Nat.le_refl _)) (Sts.In.later hIn2 h (Nat.le_refl _)) h.size)
                generalize eqB u t = v2 at HP HR
                have hvv : (v2 != v2) = false := by cases v2 <;> rfl
                have HI := Lib.hid (And.intro hIn1 hIn2)
                have hmu : u.len ≤ 140737488355328 := hIn1.1
                have hmt : t.len ≤ 140737488355328 := hIn2.1
                clear hIn1 hIn2
                go_wp2_with fail
                refine (HP.out _ HBc.out).mono ?_
                rintro z w4 ⟨rfl, hB⟩
                have HB4 := Lib.hid (HBc.out.trans (hB.mono HBc.out.size))
                clear hB
                go_wp2_with fail
                refine (HR.out _ HB4.out).mono ?_
                rintro z w5 ⟨rfl, hB⟩
                have HB5 := Lib.hid (HBr.out.trans ((HB4.out.trans (hB.mono HB4.out.size)).mono HBr.out.size))
                have HD5 := Lib.hid (HDr.out.trans ((HB4.out.trans (hB.mono HB4.out.size)).mono HDr.out.size))
                have HO5 := Lib.hid (HB4.out.trans (hB.mono HB4.out.size))
                clear hB HP HR HB4 HBc
                go_wp2_with fail
                clear hvv
                go_loopw [8] (fun i wx => ∃ j : Nat, i = .int .i64 j ∧ j ≤ u.len ∧ Hid (Below w.heap.size w wx) ∧ Hid (Below w0.heap.size w0 wx) ∧ Hid (Below wo.heap.size wo wx)) (fun i _ => u.len - (intOf i).toNat)
                case atStart => exact ⟨0, rfl, Nat.zero_le _, HB5, HD5, HO5⟩
                case round =>
                  clear HB5 HD5 HO5
                  obtain ⟨j, rfl, hju, HBw, HDw, HOw⟩ := hrel
                  by_cases hj1 : j < u.len
                  · by_cases hj2 : j < t.len
                    · obtain ⟨hI1, hI2⟩ := HI.out
                      rcases hI1.2 with h30 | ⟨b3, o3, rfl, hb3, ha3⟩
                      · omega
                      rcases hI2.2 with h30 | ⟨b4, o4, rfl, hb4, ha4⟩
                      · omega
                      have hwo := HOw.out.size
                      have hl3 : b3 < wr.heap.size := by omega
                      have hl4 : b4 < wr.heap.size := by omega
                      have hq1 : u.toL[j]? = some (u.toL[j]'(by rw [← Sts.toL_len]; exact hj1)) := List.getElem?_eq_getElem _
                      have hq2 : t.toL[j]? = some (t.toL[j]'(by rw [← Sts.toL_len]; exact hj2)) := List.getElem?_eq_getElem _
                      generalize u.toL[j]'(by rw [← Sts.toL_len]; exact hj1) = z1 at hq1
                      generalize t.toL[j]'(by rw [← Sts.toL_len]; exact hj2) = z2 at hq2
                      obtain ⟨t1, d1, k1⟩ := St.At.openP (St.At.later HOw.out hwo z1 b3 _ hb3 (Row.get (Sts.row u o3 ha3) hq1))
                      obtain ⟨t2, d2, k2⟩ := St.At.openP (St.At.later HOw.out hwo z2 b4 _ hb4 (Row.get (Sts.row t o4 ha4) hq2))
                      have g0 : wr.cell? ⟨b3, o3 + j * 16 + 3, none⟩ = some (.int .i64 z1.e.op) := d1 3 _ rfl
                      have g1 : wr.cell? ⟨b3, o3 + j * 16 + 3 + 1, none⟩ = some (.int .u64 (z1.e.word : Int)) := d1 4 _ rfl
                      have g2 : wr.cell? ⟨b3, o3 + j * 16 + 3 + 2, none⟩ = some (.string (str z1.e.name)) := d1 5 _ rfl
                      have g3 : wr.cell? ⟨b3, o3 + j * 16 + 3 + 3, none⟩ = some (.slice t1.pe z1.e.args.len t1.ce) := d1 6 _ rfl
                      have m0 : wr.cell? ⟨b4, o4 + j * 16 + 3, none⟩ = some (.int .i64 z2.e.op) := d2 3 _ rfl
                      have m1 : wr.cell? ⟨b4, o4 + j * 16 + 3 + 1, none⟩ = some (.int .u64 (z2.e.word : Int)) := d2 4 _ rfl
                      have m2 : wr.cell? ⟨b4, o4 + j * 16 + 3 + 2, none⟩ = some (.string (str z2.e.name)) := d2 5 _ rfl
                      have m3 : wr.cell? ⟨b4, o4 + j * 16 + 3 + 3, none⟩ = some (.slice t2.pe z2.e.args.len t2.ce) := d2 6 _ rfl
                      have hE1 : z1.e.Ok wr wr.heap.size t1.pe := k1.2.1
                      have hE2 : z2.e.Ok wr wr.heap.size t2.pe := k2.2.1
                      have HE1 := Lib.hid (fun w' (h : Below wr.heap.size wr w') => pse_any z1.e z2.e t1.pe t2.pe t1.ce t2.ce wr.heap.size w' (hE1.later h (Nat.le_refl _)) (hE2.later h (Nat.le_refl _)) h.size)
                      have HE2 := Lib.hid (fun w' (h : Below wr.heap.size wr w') => rse_any z1.e z2.e t1.pe t2.pe t1.ce t2.ce wr.heap.size w' (hE1.later h (Nat.le_refl _)) (hE2.later h (Nat.le_refl _)) h.size)
                      generalize eqB z1.e z2.e = v3 at HE1 HE2
                      have hvv : (v3 != v3) = false := by cases v3 <;> rfl
                      unfold Ex.val at HE1 HE2
                      clear d1 d2 k1 k2 hE1 hE2 hq1 hq2 ha3 ha4 hI1 hI2
                      go_upto_region 14 with fail
                      go_cut [96] from 74 to 95 (fun s96 wx => s96 = .bool false ∧ Hid (Below w.heap.size w wx) ∧ Hid (Below w0.heap.size w0 wx) ∧ Hid (Below wr.heap.size wr wx))
                      case first =>
                        have HS1 : Below w.heap.size w wr.drew := (HBw.out).drew
                        have HS2 : Below w0.heap.size w0 wr.drew := HDw.out.drew
                        have HS3 : Below wr.heap.size wr wr.drew := (Below.refl _ _).drew
                        refine wp_region_held_drew (S := fun W => Below w.heap.size w W ∧ W.cell? ⟨b3, o3 + j * 16 + 3, none⟩ = some (.int .i64 z1.e.op) ∧ W.cell? ⟨b3, o3 + j * 16 + 3 + 1, none⟩ = some (.int .u64 (z1.e.word : Int)) ∧ W.cell? ⟨b3, o3 + j * 16 + 3 + 2, none⟩ = some (.string (str z1.e.name)) ∧ W.cell? ⟨b3, o3 + j * 16 + 3 + 3, none⟩ = some (.slice t1.pe z1.e.args.len t1.ce) ∧ W.cell? ⟨b4, o4 + j * 16 + 3, none⟩ = some (.int .i64 z2.e.op) ∧ W.cell? ⟨b4, o4 + j * 16 + 3 + 1, none⟩ = some (.int .u64 (z2.e.word : Int)) ∧ W.cell? ⟨b4, o4 + j * 16 + 3 + 2, none⟩ = some (.string (str z2.e.name)) ∧ W.cell? ⟨b4, o4 + j * 16 + 3 + 3, none⟩ = some (.slice t2.pe z2.e.args.len t2.ce)) (by kernel_rfl) ?_ (fun hHeld => ?_)
                        · exact ⟨HS1, (HS3.cell hl3).trans g0, (HS3.cell hl3).trans g1, (HS3.cell hl3).trans g2, (HS3.cell hl3).trans g3, (HS3.cell hl4).trans m0, (HS3.cell hl4).trans m1, (HS3.cell hl4).trans m2, (HS3.cell hl4).trans m3⟩
                        refine wpAnyH_take (i := 0) (oi := { dst := Option.some 74, op := Go.Op.move (Go.Operand.tmp 6), type := 47, pos := "law.go:140", after := #[], guard := Option.none }) (v := ?_) rfl (by kernel_rfl) (by kernel_rfl) (by kernel_rfl) (fun _ _ _ h => h) (Or.inl ⟨by rfl, ?_⟩) (by assumption) ?_
                        rotate_left
                        · (intro w hSw; (try dsimp only at hSw); go_simp; try with_reducible rfl)
                        try simp only [Act.put, List.setIfInBounds_toArray, List.set_cons_zero, List.set_cons_succ]
                        refine wpAnyH_take (i := 1) (oi := { dst := Option.some 75, op := Go.Op.move (Go.Operand.tmp 8), type := 3, pos := "law.go:140", after := #[], guard := Option.none }) (v := ?_) rfl (by kernel_rfl) (by kernel_rfl) (by kernel_rfl) (fun _ _ _ h => h) (Or.inl ⟨by rfl, ?_⟩) (by assumption) ?_
                        rotate_left
                        · (intro w hSw; (try dsimp only at hSw); go_simp; try with_reducible rfl)
                        try simp only [Act.put, List.setIfInBounds_toArray, List.set_cons_zero, List.set_cons_succ]
                        refine wpAnyH_take (i := 2) (oi := { dst := Option.some 76, op := Go.Op.indexAddr 47 (Go.Operand.tmp 74) (Go.Operand.tmp 75), type := 0, pos := "law.go:140", after := #[{ on := 0, ground := Go.Ground.data }, { on := 1, ground := Go.Ground.data }], guard := Option.none }) (v := ?_) rfl (by kernel_rfl) (by kernel_rfl) (by kernel_rfl) (fun _ _ _ h => h) (Or.inl ⟨by rfl, ?_⟩) (by assumption) ?_
                        rotate_left
                        · (intro w hSw; (try dsimp only at hSw); go_simp; try with_reducible rfl)
                        try simp only [Act.put, List.setIfInBounds_toArray, List.set_cons_zero, List.set_cons_succ]
                        refine wpAnyH_take (i := 3) (oi := { dst := Option.some 77, op := Go.Op.fieldAddr 54 (Go.Operand.tmp 76) 3, type := 0, pos := "law.go:140", after := #[{ on := 2, ground := Go.Ground.data }], guard := Option.none }) (v := ?_) rfl (by kernel_rfl) (by kernel_rfl) (by kernel_rfl) (fun _ _ _ h => h) (Or.inl ⟨by rfl, ?_⟩) (by assumption) ?_
                        rotate_left
                        · (intro w hSw; (try dsimp only at hSw); go_simp; try with_reducible rfl)
                        try simp only [Act.put, List.setIfInBounds_toArray, List.set_cons_zero, List.set_cons_succ]
                        refine wpAnyH_take (i := 4) (oi := { dst := Option.some 78, op := Go.Op.load 26 (Go.Operand.tmp 77), type := 26, pos := "law.go:140", after := #[{ on := 3, ground := Go.Ground.data }], guard := Option.none }) (v := ?_) rfl (by kernel_rfl) (by kernel_rfl) (by kernel_rfl) (fun _ _ _ h => h) (Or.inl ⟨by rfl, ?_⟩) (by assumption) ?_
                        rotate_left
                        · (intro w hSw; (try dsimp only at hSw); go_simp; try with_reducible rfl)
                        try simp only [Act.put, List.setIfInBounds_toArray, List.set_cons_zero, List.set_cons_succ]
                        refine wpAnyH_take (i := 5) (oi := { dst := Option.some 79, op := Go.Op.move (Go.Operand.tmp 7), type := 47, pos := "law.go:140", after := #[], guard := Option.none }) (v := ?_) rfl (by kernel_rfl) (by kernel_rfl) (by kernel_rfl) (fun _ _ _ h => h) (Or.inl ⟨by rfl, ?_⟩) (by assumption) ?_
                        rotate_left
                        · (intro w hSw; (try dsimp only at hSw); go_simp; try with_reducible rfl)
                        try simp only [Act.put, List.setIfInBounds_toArray, List.set_cons_zero, List.set_cons_succ]
                        refine wpAnyH_take (i := 6) (oi := { dst := Option.some 80, op := Go.Op.move (Go.Operand.tmp 8), type := 3, pos := "law.go:140", after := #[], guard := Option.none }) (v := ?_) rfl (by kernel_rfl) (by kernel_rfl) (by kernel_rfl) (fun _ _ _ h => h) (Or.inl ⟨by rfl, ?_⟩) (by assumption) ?_
                        rotate_left
                        · (intro w hSw; (try dsimp only at hSw); go_simp; try with_reducible rfl)
                        try simp only [Act.put, List.setIfInBounds_toArray, List.set_cons_zero, List.set_cons_succ]
                        refine wpAnyH_take (i := 7) (oi := { dst := Option.some 81, op := Go.Op.indexAddr 47 (Go.Operand.tmp 79) (Go.Operand.tmp 80), type := 0, pos := "law.go:140", after := #[{ on := 5, ground := Go.Ground.data }, { on := 6, ground := Go.Ground.data }], guard := Option.none }) (v := ?_) rfl (by kernel_rfl) (by kernel_rfl) (by kernel_rfl) (fun _ _ _ h => h) (Or.inl ⟨by rfl, ?_⟩) (by assumption) ?_
                        rotate_left
                        · (intro w hSw; (try dsimp only at hSw); go_simp; try with_reducible rfl)
                        try simp only [Act.put, List.setIfInBounds_toArray, List.set_cons_zero, List.set_cons_succ]
                        refine wpAnyH_take (i := 8) (oi := { dst := Option.some 82, op := Go.Op.fieldAddr 54 (Go.Operand.tmp 81) 3, type := 0, pos := "law.go:140", after := #[{ on := 7, ground := Go.Ground.data }], guard := Option.none }) (v := ?_) rfl (by kernel_rfl) (by kernel_rfl) (by kernel_rfl) (fun _ _ _ h => h) (Or.inl ⟨by rfl, ?_⟩) (by assumption) ?_
                        rotate_left
                        · (intro w hSw; (try dsimp only at hSw); go_simp; try with_reducible rfl)
                        try simp only [Act.put, List.setIfInBounds_toArray, List.set_cons_zero, List.set_cons_succ]
                        refine wpAnyH_take (i := 9) (oi := { dst := Option.some 83, op := Go.Op.load 26 (Go.Operand.tmp 82), type := 26, pos := "law.go:140", after := #[{ on := 8, ground := Go.Ground.data }], guard := Option.none }) (v := ?_) rfl (by kernel_rfl) (by kernel_rfl) (by kernel_rfl) (fun _ _ _ h => h) (Or.inl ⟨by rfl, ?_⟩) (by assumption) ?_
                        rotate_left
                        · (intro w hSw; (try dsimp only at hSw); go_simp; try with_reducible rfl)
                        try simp only [Act.put, List.setIfInBounds_toArray, List.set_cons_zero, List.set_cons_succ]
                        refine wpAnyH_take (i := 11) (oi := { dst := Option.some 85, op := Go.Op.move (Go.Operand.tmp 6), type := 47, pos := "law.go:140", after := #[], guard := Option.none }) (v := ?_) rfl (by kernel_rfl) (by kernel_rfl) (by kernel_rfl) (fun _ _ _ h => h) (Or.inl ⟨by rfl, ?_⟩) (by assumption) ?_
                        rotate_left
                        · (intro w hSw; (try dsimp only at hSw); go_simp; try with_reducible rfl)
                        try simp only [Act.put, List.setIfInBounds_toArray, List.set_cons_zero, List.set_cons_succ]
                        refine wpAnyH_take (i := 12) (oi := { dst := Option.some 86, op := Go.Op.move (Go.Operand.tmp 8), type := 3, pos := "law.go:140", after := #[], guard := Option.none }) (v := ?_) rfl (by kernel_rfl) (by kernel_rfl) (by kernel_rfl) (fun _ _ _ h => h) (Or.inl ⟨by rfl, ?_⟩) (by assumption) ?_
                        rotate_left
                        · (intro w hSw; (try dsimp only at hSw); go_simp; try with_reducible rfl)
                        try simp only [Act.put, List.setIfInBounds_toArray, List.set_cons_zero, List.set_cons_succ]
                        refine wpAnyH_take (i := 13) (oi := { dst := Option.some 87, op := Go.Op.indexAddr 47 (Go.Operand.tmp 85) (Go.Operand.tmp 86), type := 0, pos := "law.go:140", after := #[{ on := 11, ground := Go.Ground.data }, { on := 12, ground := Go.Ground.data }], guard := Option.none }) (v := ?_) rfl (by kernel_rfl) (by kernel_rfl) (by kernel_rfl) (fun _ _ _ h => h) (Or.inl ⟨by rfl, ?_⟩) (by assumption) ?_
                        rotate_left
                        · (intro w hSw; (try dsimp only at hSw); go_simp; try with_reducible rfl)
                        try simp only [Act.put, List.setIfInBounds_toArray, List.set_cons_zero, List.set_cons_succ]
                        refine wpAnyH_take (i := 14) (oi := { dst := Option.some 88, op := Go.Op.fieldAddr 54 (Go.Operand.tmp 87) 3, type := 0, pos := "law.go:140", after := #[{ on := 13, ground := Go.Ground.data }], guard := Option.none }) (v := ?_) rfl (by kernel_rfl) (by kernel_rfl) (by kernel_rfl) (fun _ _ _ h => h) (Or.inl ⟨by rfl, ?_⟩) (by assumption) ?_
                        rotate_left
                        · (intro w hSw; (try dsimp only at hSw); go_simp; try with_reducible rfl)
                        try simp only [Act.put, List.setIfInBounds_toArray, List.set_cons_zero, List.set_cons_succ]
                        refine wpAnyH_take (i := 15) (oi := { dst := Option.some 89, op := Go.Op.load 26 (Go.Operand.tmp 88), type := 26, pos := "law.go:140", after := #[{ on := 14, ground := Go.Ground.data }], guard := Option.none }) (v := ?_) rfl (by kernel_rfl) (by kernel_rfl) (by kernel_rfl) (fun _ _ _ h => h) (Or.inl ⟨by rfl, ?_⟩) (by assumption) ?_
                        rotate_left
                        · (intro w hSw; (try dsimp only at hSw); go_simp; try with_reducible rfl)
                        try simp only [Act.put, List.setIfInBounds_toArray, List.set_cons_zero, List.set_cons_succ]
                        refine wpAnyH_take (i := 16) (oi := { dst := Option.some 90, op := Go.Op.move (Go.Operand.tmp 7), type := 47, pos := "law.go:140", after := #[], guard := Option.none }) (v := ?_) rfl (by kernel_rfl) (by kernel_rfl) (by kernel_rfl) (fun _ _ _ h => h) (Or.inl ⟨by rfl, ?_⟩) (by assumption) ?_
                        rotate_left
                        · (intro w hSw; (try dsimp only at hSw); go_simp; try with_reducible rfl)
                        try simp only [Act.put, List.setIfInBounds_toArray, List.set_cons_zero, List.set_cons_succ]
                        refine wpAnyH_take (i := 17) (oi := { dst := Option.some 91, op := Go.Op.move (Go.Operand.tmp 8), type := 3, pos := "law.go:140", after := #[], guard := Option.none }) (v := ?_) rfl (by kernel_rfl) (by kernel_rfl) (by kernel_rfl) (fun _ _ _ h => h) (Or.inl ⟨by rfl, ?_⟩) (by assumption) ?_
                        rotate_left
                        · (intro w hSw; (try dsimp only at hSw); go_simp; try with_reducible rfl)
                        try simp only [Act.put, List.setIfInBounds_toArray, List.set_cons_zero, List.set_cons_succ]
                        refine wpAnyH_take (i := 18) (oi := { dst := Option.some 92, op := Go.Op.indexAddr 47 (Go.Operand.tmp 90) (Go.Operand.tmp 91), type := 0, pos := "law.go:140", after := #[{ on := 16, ground := Go.Ground.data }, { on := 17, ground := Go.Ground.data }], guard := Option.none }) (v := ?_) rfl (by kernel_rfl) (by kernel_rfl) (by kernel_rfl) (fun _ _ _ h => h) (Or.inl ⟨by rfl, ?_⟩) (by assumption) ?_
                        rotate_left
                        · (intro w hSw; (try dsimp only at hSw); go_simp; try with_reducible rfl)
                        try simp only [Act.put, List.setIfInBounds_toArray, List.set_cons_zero, List.set_cons_succ]
                        refine wpAnyH_take (i := 19) (oi := { dst := Option.some 93, op := Go.Op.fieldAddr 54 (Go.Operand.tmp 92) 3, type := 0, pos := "law.go:140", after := #[{ on := 18, ground := Go.Ground.data }], guard := Option.none }) (v := ?_) rfl (by kernel_rfl) (by kernel_rfl) (by kernel_rfl) (fun _ _ _ h => h) (Or.inl ⟨by rfl, ?_⟩) (by assumption) ?_
                        rotate_left
                        · (intro w hSw; (try dsimp only at hSw); go_simp; try with_reducible rfl)
                        try simp only [Act.put, List.setIfInBounds_toArray, List.set_cons_zero, List.set_cons_succ]
                        refine wpAnyH_take (i := 20) (oi := { dst := Option.some 94, op := Go.Op.load 26 (Go.Operand.tmp 93), type := 26, pos := "law.go:140", after := #[{ on := 19, ground := Go.Ground.data }], guard := Option.none }) (v := ?_) rfl (by kernel_rfl) (by kernel_rfl) (by kernel_rfl) (fun _ _ _ h => h) (Or.inl ⟨by rfl, ?_⟩) (by assumption) ?_
                        rotate_left
                        · (intro w hSw; (try dsimp only at hSw); go_simp; try with_reducible rfl)
                        try simp only [Act.put, List.setIfInBounds_toArray, List.set_cons_zero, List.set_cons_succ]
                        refine wpAnyH_ready (rs := [10]) (by kernel_rfl) (by simp) ?_
                        refine AllReadyH.cons (o := { dst := Option.some 84, op := Go.Op.call { callee := Go.Callee.value (Go.Operand.func 25), args := #[Go.Operand.tmp 78, Go.Operand.tmp 83], argTypes := #[26, 26] }, type := 4, pos := "law.go:140", after := #[{ on := 4, ground := Go.Ground.data }, { on := 9, ground := Go.Ground.data }], guard := Option.none }) rfl (fun K hK => ?_) AllReadyH.nil
                        go_simp
                        refine (HE1.out _ HS3).mono ?_
                        rintro z wa ⟨rfl, hB'⟩
                        replace HS1 := HS1.trans (hB'.mono HS1.size)
                        replace HS2 := HS2.trans (hB'.mono HS2.size)
                        replace HS3 := HS3.trans (hB'.mono HS3.size)
                        clear hB'
                        refine hK.out _ _ ?_ (fun hHeld => ?_)
                        · exact ⟨HS1, (HS3.cell hl3).trans g0, (HS3.cell hl3).trans g1, (HS3.cell hl3).trans g2, (HS3.cell hl3).trans g3, (HS3.cell hl4).trans m0, (HS3.cell hl4).trans m1, (HS3.cell hl4).trans m2, (HS3.cell hl4).trans m3⟩
                        clear hK K
                        try simp only [Act.put, List.setIfInBounds_toArray, List.set_cons_zero, List.set_cons_succ]
                        refine wpAnyH_ready (rs := [21]) (by kernel_rfl) (by simp) ?_
                        refine AllReadyH.cons (o := { dst := Option.some 95, op := Go.Op.call { callee := Go.Callee.value (Go.Operand.func 26), args := #[Go.Operand.tmp 89, Go.Operand.tmp 94], argTypes := #[26, 26] }, type := 4, pos := "law.go:140", after := #[{ on := 15, ground := Go.Ground.data }, { on := 20, ground := Go.Ground.data }, { on := 10, ground := Go.Ground.chain }], guard := Option.none }) rfl (fun K hK => ?_) AllReadyH.nil
                        go_simp
                        refine (HE2.out _ HS3).mono ?_
                        rintro z wb ⟨rfl, hB'⟩
                        replace HS1 := HS1.trans (hB'.mono HS1.size)
                        replace HS2 := HS2.trans (hB'.mono HS2.size)
                        replace HS3 := HS3.trans (hB'.mono HS3.size)
                        clear hB'
                        refine hK.out _ _ ?_ (fun hHeld => ?_)
                        · exact ⟨HS1, (HS3.cell hl3).trans g0, (HS3.cell hl3).trans g1, (HS3.cell hl3).trans g2, (HS3.cell hl3).trans g3, (HS3.cell hl4).trans m0, (HS3.cell hl4).trans m1, (HS3.cell hl4).trans m2, (HS3.cell hl4).trans m3⟩
                        clear hK K
                        try simp only [Act.put, List.setIfInBounds_toArray, List.set_cons_zero, List.set_cons_succ]
                        refine wpAnyH_take (i := 22) (oi := { dst := Option.some 96, op := Go.Op.binOp Go.BinOp.neq 4 (Go.Operand.tmp 84) (Go.Operand.tmp 95) 4, type := 4, pos := "law.go:140", after := #[{ on := 10, ground := Go.Ground.data }, { on := 21, ground := Go.Ground.data }], guard := Option.none }) (v := .bool false) rfl (by kernel_rfl) (by kernel_rfl) (by kernel_rfl) (fun _ _ _ h => h) (Or.inl ⟨by rfl, ?_⟩) (by assumption) ?_
                        · (intro w hSw; (try dsimp only at hSw); go_simp; try rw [hvv])
                        try simp only [Act.put, List.setIfInBounds_toArray, List.set_cons_zero, List.set_cons_succ]
                        refine wpAnyH_done (by kernel_rfl) ?_ _
                        go_wp2_with fail
                        go_meet
                        exact ⟨rfl, Lib.hid HS1, Lib.hid HS2, Lib.hid HS3⟩
                      case rest =>
                        obtain ⟨rfl, HB6, HD6, HO6⟩ := hcut
                        have HO7 := Lib.hid (HOw.out.trans (HO6.out.mono hwo))
                        go_wp2_with fail
                        go_roundw
                        case rel => exact ⟨j + 1, by go_num, by omega, HB6, HD6, HO7⟩
                        case measure => simp [intOf]; omega
                    · go_wp2_with fail
                      go_roundw
                      case rel => exact ⟨k + 1, by go_num, by omega, HBw, HDw⟩
                      case measure => simp [intOf]; omega
                  · go_wp2_with fail
                    go_roundw
                    case rel => exact ⟨k + 1, by go_num, by omega, HBw, HDw⟩
                    case measure => simp [intOf]; omega
            · go_wp2_with fail
              refine (HK.out _ HBr.out).mono ?_
              rintro z wz ⟨rfl, hB'⟩
              have HBz := Lib.hid (HBr.out.trans (hB'.mono HBr.out.size))
              clear hB'
              go_wp2_with fail
              go_ret
              exact ⟨rfl, HBz.out⟩
          · go_wp2_with fail
            refine (HK.out _ HBr.out).mono ?_
            rintro z wz ⟨rfl, hB'⟩
            have HBz := Lib.hid (HBr.out.trans (hB'.mono HBr.out.size))
            clear hB'
            go_wp2_with fail
            go_ret
            exact ⟨rfl, HBz.out⟩
end Go.Proofs.YtlhbledakddbbaaGreatDoor
