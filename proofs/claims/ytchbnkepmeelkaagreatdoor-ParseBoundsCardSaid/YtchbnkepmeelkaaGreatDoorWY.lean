/- W7, W9 as one. -/
import Derived.Test.YtchbnkepmeelkaaGreatDoorWX
import Derived.Test.YtchbnkepmeelkaaGreatDoorPT
/- An expression's text is read. -/
namespace Go.Proofs.YtchbnkepmeelkaaGreatDoor
open Go.RowKit

def resE : Res Ex → Ex
  | .ok a _ => a
  | .no _ _ => Z0
theorem glob_below {w w' : World} (h : Lx.Glob w) (hB : Below w.heap.size w w') : Lx.Glob w' := h.later h.2.2.2 hB
theorem but_below {g : Nat} {a w w' : World} (h : Below a.heap.size a w) (hb : But g w w') (hg : a.heap.size ≤ g) (hz : a.heap.size ≤ w.heap.size) : Below a.heap.size a w' :=
  h.trans ⟨hb.os, hb.tape, hb.output, hb.size, fun k hk => hb.block k (by omega) (by omega)⟩
set_option maxRecDepth 100000 in
set_option maxHeartbeats 3200000 in
theorem read_ex (s : ByteArray) (w : World) (hs : s.size ≤ 281474976710656) (hG : Lx.Glob w) :
    Calls Tryz.prog 47 #[.string s, .func (.func 48) #[] #[]] w fun z w' => ∃ q c, z = .returned (.tuple #[(resE (readP onlyExprP s.data.toList)).val q c, .agg (faultR (readP onlyExprP s.data.toList))]) ∧ Fresh w.heap.size w'.heap.size w' (fun W N => (resE (readP onlyExprP s.data.toList)).Ok W N q) ∧ Below w.heap.size w w' := by
  have hmf : ∀ (fn : Fn) (first cap : Array Value) (w : World), (Instr.makeFunc fn first cap).run Tryz.prog w = .ok (.func fn first cap) w := fun _ _ _ _ => rfl
  obtain ⟨W0, hW0⟩ : ∃ W0, (w.alloc (.cells #[.int .i64 0, .int .u64 0, .string ⟨#[]⟩, .slice none 0 0] 39)).alloc (.cells #[.int .i64 0, .int .i64 0, .int .i64 0] 29) = W0 := ⟨_, rfl⟩
  have hB0 : Below w.heap.size w W0 := by rw [← hW0]; exact ((Below.refl _ w).alloc (Nat.le_refl _) _).alloc (by simp) _
  have hz0 : W0.heap.size = w.heap.size + 2 := by rw [← hW0]; simp
  have Kf := Lib.hid (show W0.heap[w.heap.size + 1]? = some (.cells #[.int .i64 0, .int .i64 0, .int .i64 0] 29 (0, 0)) by
    rw [← hW0]; have := heap_alloc_new (w.alloc (.cells #[.int .i64 0, .int .u64 0, .string ⟨#[]⟩, .slice none 0 0] 39)) (.cells #[.int .i64 0, .int .i64 0, .int .i64 0] 29); simpa using this)
  have Kr := Lib.hid (show W0.heap[w.heap.size]? = some (.cells #[.int .i64 0, .int .u64 0, .string ⟨#[]⟩, .slice none 0 0] 39 (0, 0)) by
    rw [← hW0, Below.heap_alloc _ _ _ (by simp)]; exact heap_alloc_new w _)
  have HG0 := Lib.hid (glob_below hG hB0)
  have HB0 := Lib.hid hB0
  have HZ0 := Lib.hid hz0
  have HW0 := Lib.hid hW0
  have HS := Lib.hid hs
  -- how a panic ends
  have HNO := Lib.hid (fun (a b c : Int) (w2 : World) (tmps : Array Value) (R : Ending → World → Prop) (h4 : tmps[4]? = some (.pointer (some ⟨w.heap.size, 0, none⟩))) (h5 : tmps[5]? = some (.pointer (some ⟨w.heap.size + 1, 0, none⟩)))
      (hB : Below w.heap.size w w2) (hr : w2.heap[w.heap.size]? = some (.cells #[.int .i64 0, .int .u64 0, .string ⟨#[]⟩, .slice none 0 0] 39 (0, 0))) (hf : w2.heap[w.heap.size + 1]? = some (.cells #[.int .i64 0, .int .i64 0, .int .i64 0] 29 (0, 0)))
      (hR : ∀ w', Below w.heap.size w w' → R (.returned (.tuple #[Z0.val none 0, .agg (faultC a b c)])) w') =>
      show Leaves Tryz.prog Tryz.f47 tmps R [{ target := .fn (.func 99) #[.pointer (some ⟨w.heap.size + 1, 0, none⟩)], args := #[] }] (.panicking [{ v := .iface 166 (.agg #[.int .i64 a, .int .i64 b, .int .i64 c]), recovered := false }]) w2 from by
    refine leaves_cons (f := 99) (args := #[.pointer (some ⟨w.heap.size + 1, 0, none⟩)]) (by simp) (by simp [go_sem]) ?_
    refine (caught_ex (w.heap.size + 1) a b c [] w2 (glob_below hG hB) hf).mono ?_
    rintro e u w3 ⟨rfl, rfl, hk, hb⟩
    have hr3 := (hb.block w.heap.size (Array.getElem?_eq_some_iff.1 hr).1 (by omega)).trans hr
    have hR3 := hR w3 (but_below hB hb (by omega) hB.size)
    obtain ⟨x, y, v, hfc⟩ := faultC_form a b c
    rw [hfc] at hk hR3
    have y0 := cell_blk hr3 (j := 0) rfl
    have y1 := cell_blk hr3 (j := 1) rfl
    have y2 := cell_blk hr3 (j := 2) rfl
    have y3 := cell_blk hr3 (j := 3) rfl
    have u0 := cell_blk hk (j := 0) rfl
    have u1 := cell_blk hk (j := 1) rfl
    have u2 := cell_blk hk (j := 2) rfl
    show Leaves _ _ _ _ [] (settle _) _
    refine ⟨.tuple #[Z0.val none 0, .agg #[.int .i64 x, .int .i64 y, .int .i64 v]], ?_, hR3⟩
    simp [results, Tryz.results47, go_sem, h4, h5, y0, y1, y2, y3, u0, u1, u2, Z0, Ex.val, str, Ex.op, Ex.word, Ex.name, Ex.args, Exs.len])
  generalize hGG : readP onlyExprP s.data.toList = G
  by_cases hE : (Lx.allF s.data.toList).1 = 0
  case neg =>
    obtain ⟨c0, t0, hgr, hcn⟩ : ∃ (c0 : Nat) (t0 : Tok), G = .no c0 t0 ∧ Calls Tryz.prog 86 #[.string s] W0 fun z w' => z = WrongIs (c0 : Int) t0 ∧ Below W0.heap.size W0 w' := ⟨_, _, hGG.symm.trans (if_neg hE), newParser_no s W0 hs HG0.out hE⟩
    have CN := Lib.hid hcn
    have HGr := Lib.hid hgr
    clear hB0 hz0 hW0 hs hG hE hGG hgr hcn
    unfold WrongIs at CN
    go_enter_defers Tryz.func47, Tryz.ntmps47
    go_wp2_with fail
    rw [HW0.out]
    refine CN.out.mono ?_
    rintro z w2 ⟨rfl, hB2⟩
    have hr := (hB2.block _ (Array.getElem?_eq_some_iff.1 Kr.out).1).trans Kr.out
    have hf := (hB2.block _ (Array.getElem?_eq_some_iff.1 Kf.out).1).trans Kf.out
    have HX := Lib.hid (And.intro (HB0.out.trans (hB2.mono HB0.out.size)) (And.intro hr hf))
    clear hB2 hr hf
    go_wp2_with fail
    refine HNO.out _ _ _ w2 _ _ rfl rfl HX.out.1 HX.out.2.1 HX.out.2.2 (fun w' hB' => ⟨none, 0, by rw [HGr.out]; rfl, by rw [HGr.out]; exact fun W _ => ⟨Exs.In.nil _ _ _, show (0 : Nat) < 18446744073709551616 by decide⟩, hB'⟩)
  have hrp : onlyExprP (toksOf s.data.toList) = G := by rw [← hGG]; exact (if_pos hE).symm
  have CY := Lib.hid (newParser_yes s W0 hs HG0.out hE (allT_few _).1)
  have CX := Lib.hid (fun (pb tb tc : Nat) (w' : World) (h : Ps w' pb tb 0 tc (toksOf s.data.toList) 0 0) => onlyExpr_p ⟨pb, tb, 0, tc, toksOf s.data.toList⟩ 0 0 w' h (toks_pos _) (toks_ends _) (toks_words _) rfl)
  generalize toksOf s.data.toList = T at *
  have HGT := Lib.hid hrp
  clear hB0 hz0 hW0 hs hG hE hrp hGG
  go_enter_defers Tryz.func47, Tryz.ntmps47
  go_wp2_with fail
  rw [HW0.out]
  refine CY.out.mono ?_
  rintro z w2 ⟨pb, tb, tc, rfl, hP, hB2, hpb⟩
  have hr := (hB2.block _ (Array.getElem?_eq_some_iff.1 Kr.out).1).trans Kr.out
  have hf := (hB2.block _ (Array.getElem?_eq_some_iff.1 Kf.out).1).trans Kf.out
  have HX := Lib.hid (And.intro (HB0.out.trans (hB2.mono HB0.out.size)) (And.intro hr hf))
  have HP := Lib.hid hP
  have HPB := Lib.hid (show w.heap.size + 2 ≤ pb by have := HZ0.out; omega)
  have HZ2 := Lib.hid (show w.heap.size + 2 ≤ w2.heap.size by have := HZ0.out; have := hB2.size; omega)
  clear hB2 hr hf hP hpb
  go_wp2_with fail
  refine (CX.out pb tb tc w2 HP.out).mono ?_
  intro z w3 hc
  rcases hc with ⟨k3, x, s3, hr, hkk, hp, hb, hz, hR⟩ | ⟨k3, e3, t3, hr, hp, hb, hz⟩
  rotate_left
  · subst hz
    have hr' : onlyExprP T = .no e3 t3 := by rw [List.drop_zero] at hr; exact hr
    have HGr := Lib.hid (HGT.out.symm.trans hr')
    unfold WrongIs
    have hb' : But pb w2 w3 := hb
    have h1 := HPB.out
    have hrz := (hb'.block _ (Array.getElem?_eq_some_iff.1 HX.out.2.1).1 (by omega)).trans HX.out.2.1
    have hfz := (hb'.block _ (Array.getElem?_eq_some_iff.1 HX.out.2.2).1 (by omega)).trans HX.out.2.2
    have HY := Lib.hid (And.intro (but_below HX.out.1 hb' (by omega) HX.out.1.size) (And.intro hrz hfz))
    clear hr hp hb hb' hrz hfz hr' h1
    go_wp2_with fail
    refine HNO.out _ _ _ w3 _ _ rfl rfl HY.out.1 HY.out.2.1 HY.out.2.2 (fun w' hB' => ⟨none, 0, by rw [HGr.out]; rfl, by rw [HGr.out]; exact fun W _ => ⟨Exs.In.nil _ _ _, show (0 : Nat) < 18446744073709551616 by decide⟩, hB'⟩)
  · obtain ⟨q, c⟩ := s3
    obtain rfl : z = .returned (.agg #[.int .i64 x.op, .int .u64 (x.word : Int), .string (str x.name), .slice q x.args.len c]) := hz
    have hr' : onlyExprP T = .ok x (T.drop k3) := by rw [List.drop_zero] at hr; exact hr
    have HGr := Lib.hid (HGT.out.symm.trans hr')
    have hb' : But pb w2 w3 := hb
    have h1 := HPB.out
    have hrz := (hb'.block _ (Array.getElem?_eq_some_iff.1 HX.out.2.1).1 (by omega)).trans HX.out.2.1
    have hfz := (hb'.block _ (Array.getElem?_eq_some_iff.1 HX.out.2.2).1 (by omega)).trans HX.out.2.2
    have HBz := Lib.hid (but_below HX.out.1 hb' (by omega) HX.out.1.size)
    have HF := Lib.hid (show Fresh w2.heap.size w3.heap.size w3 (fun W N => x.Ok W N q) from hR)
    have HZ3 := Lib.hid hb'.size
    have z0 := cell_blk hrz (j := 0) rfl
    have z1 := cell_blk hrz (j := 1) rfl
    have z2 := cell_blk hrz (j := 2) rfl
    have z3 := cell_blk hrz (j := 3) rfl
    have u0 := cell_blk hfz (j := 0) rfl
    have u1 := cell_blk hfz (j := 1) rfl
    have u2 := cell_blk hfz (j := 2) rfl
    have g1 : ∀ j, w3.frozen? ⟨w.heap.size, j, none⟩ = false := fun j => by simp [World.frozen?, hrz]
    have g2 : ∀ j, w3.frozen? ⟨w.heap.size + 1, j, none⟩ = false := fun j => by simp [World.frozen?, hfz]
    have f0 := g1 0
    have f1 := g1 1
    have f2 := g1 2
    have f3 := g1 3
    have v0 := g2 0
    have v1 := g2 1
    have v2 := g2 2
    have KEY : ∀ F, F = ((((((w3.setCell ⟨w.heap.size, 0, none⟩ (.int .i64 x.op)).setCell ⟨w.heap.size, 1, none⟩ (.int .u64 (x.word : Int))).setCell ⟨w.heap.size, 2, none⟩ (.string (str x.name))).setCell ⟨w.heap.size, 3, none⟩ (.slice q x.args.len c)).setCell ⟨w.heap.size + 1, 0, none⟩ (.int .i64 0)).setCell ⟨w.heap.size + 1, 1, none⟩ (.int .i64 0)).setCell ⟨w.heap.size + 1, 2, none⟩ (.int .i64 0) →
        F.heap[w.heap.size]? = some (.cells #[.int .i64 x.op, .int .u64 (x.word : Int), .string (str x.name), .slice q x.args.len c] 39 (0, 0)) ∧ F.heap[w.heap.size + 1]? = some (.cells #[.int .i64 0, .int .i64 0, .int .i64 0] 29 (0, 0)) ∧ Below w.heap.size w F ∧ Fresh w.heap.size F.heap.size F (fun W N => x.Ok W N q) := by
      intro F hF
      obtain ⟨V, hV⟩ : ∃ V, (((w3.setCell ⟨w.heap.size, 0, none⟩ (.int .i64 x.op)).setCell ⟨w.heap.size, 1, none⟩ (.int .u64 (x.word : Int))).setCell ⟨w.heap.size, 2, none⟩ (.string (str x.name))).setCell ⟨w.heap.size, 3, none⟩ (.slice q x.args.len c) = V := ⟨_, rfl⟩
      rw [hV] at hF
      have a1 : V.heap[w.heap.size]? = some (.cells #[.int .i64 x.op, .int .u64 (x.word : Int), .string (str x.name), .slice q x.args.len c] 39 (0, 0)) := by rw [← hV]; exact set4 hrz _ _ _ _
      have a2 : V.heap[w.heap.size + 1]? = some (.cells #[.int .i64 0, .int .i64 0, .int .i64 0] 29 (0, 0)) := by rw [← hV, heap_set4 _ _ _ (by omega)]; exact hfz
      have a3 : V.heap.size = w3.heap.size := by rw [← hV]; exact size4 _ _ _ _ _ _
      have a4 : Below w.heap.size w V := by rw [← hV]; exact (((HBz.out.setCell (p := ⟨w.heap.size, 0, none⟩) (Nat.le_refl _) _).setCell (p := ⟨w.heap.size, 1, none⟩) (Nat.le_refl _) _).setCell (p := ⟨w.heap.size, 2, none⟩) (Nat.le_refl _) _).setCell (p := ⟨w.heap.size, 3, none⟩) (Nat.le_refl _) _
      have h2 := HZ2.out
      have a5 : Fresh w2.heap.size w3.heap.size V (fun W N => x.Ok W N q) := by rw [← hV]; exact HF.out.set4 (by omega) (Nat.le_refl _) _ _ _ _
      have b3 : F.heap.size = w3.heap.size := by rw [hF]; simp [World.setCell]; exact a3
      refine ⟨?_, ?_, ?_, ?_⟩
      · rw [hF, Below.heap_setCell _ _ _ _ (show w.heap.size ≠ w.heap.size + 1 by omega), Below.heap_setCell _ _ _ _ (show w.heap.size ≠ w.heap.size + 1 by omega), Below.heap_setCell _ _ _ _ (show w.heap.size ≠ w.heap.size + 1 by omega)]
        exact a1
      · rw [hF]; exact set3 a2 _ _ _
      · rw [hF]; exact ((a4.setCell (p := ⟨w.heap.size + 1, 0, none⟩) (Nat.le_succ _) _).setCell (p := ⟨w.heap.size + 1, 1, none⟩) (Nat.le_succ _) _).setCell (p := ⟨w.heap.size + 1, 2, none⟩) (Nat.le_succ _) _
      · have hlt : w.heap.size + 1 < w2.heap.size := by omega
        have a6 : Fresh w2.heap.size w3.heap.size F (fun W N => x.Ok W N q) := by
          rw [hF]
          refine a5.to ?_
          have := ((((Agr.refl (A := w2.heap.size) (B := w3.heap.size) (w := V) (by omega)).set (p := ⟨w.heap.size + 1, 0, none⟩) hlt (.int .i64 0)).set (p := ⟨w.heap.size + 1, 1, none⟩) hlt (.int .i64 0)).set (p := ⟨w.heap.size + 1, 2, none⟩) hlt (.int .i64 0))
          exact this
        rw [b3]
        exact a6.fin (by omega) (Nat.le_refl _) (fun W h => h)
    have HKEY := Lib.hid KEY
    clear hr hp hb hb' hrz hfz hr' h1 hR g1 g2 KEY hkk
    go_wp2_with fail
    obtain ⟨F, hF⟩ : ∃ F, F = ((((((w3.setCell ⟨w.heap.size, 0, none⟩ (.int .i64 x.op)).setCell ⟨w.heap.size, 1, none⟩ (.int .u64 (x.word : Int))).setCell ⟨w.heap.size, 2, none⟩ (.string (str x.name))).setCell ⟨w.heap.size, 3, none⟩ (.slice q x.args.len c)).setCell ⟨w.heap.size + 1, 0, none⟩ (.int .i64 0)).setCell ⟨w.heap.size + 1, 1, none⟩ (.int .i64 0)).setCell ⟨w.heap.size + 1, 2, none⟩ (.int .i64 0) := ⟨_, rfl⟩
    obtain ⟨k1, k2, k4, k5⟩ := HKEY.out F hF
    rw [← hF]
    clear hF HKEY
    refine leaves_cons (f := 99) (args := #[.pointer (some ⟨w.heap.size + 1, 0, none⟩)]) (by simp) (by simp [go_sem]) ?_
    refine (idle_ex _ _).mono ?_
    rintro e u w9 ⟨rfl, rfl, rfl⟩
    have y0 := cell_blk k1 (j := 0) rfl
    have y1 := cell_blk k1 (j := 1) rfl
    have y2 := cell_blk k1 (j := 2) rfl
    have y3 := cell_blk k1 (j := 3) rfl
    have e0 := cell_blk k2 (j := 0) rfl
    have e1 := cell_blk k2 (j := 1) rfl
    have e2 := cell_blk k2 (j := 2) rfl
    refine ⟨.tuple #[.agg #[.int .i64 x.op, .int .u64 (x.word : Int), .string (str x.name), .slice q x.args.len c], .agg #[.int .i64 0, .int .i64 0, .int .i64 0]], ?_, ⟨q, c, by rw [HGr.out]; rfl, by rw [HGr.out]; exact k5, k4⟩⟩
    simp [results, Tryz.results47, go_sem, y0, y1, y2, y3, e0, e1, e2]
end Go.Proofs.YtchbnkepmeelkaaGreatDoor
/- Statements' text is read. -/
namespace Go.Proofs.YtchbnkepmeelkaaGreatDoor
open Go.RowKit

def resS : Res Sts → Sts
  | .ok a _ => a
  | .no _ _ => .nil
set_option maxRecDepth 100000 in
set_option maxHeartbeats 3200000 in
theorem read_sts (s : ByteArray) (w : World) (hs : s.size ≤ 281474976710656) (hG : Lx.Glob w) :
    Calls Tryz.prog 51 #[.string s, .func (.func 52) #[] #[]] w fun z w' => ∃ q c, z = .returned (.tuple #[.slice q (resS (readP onlyStmtsP s.data.toList)).len c, .agg (faultR (readP onlyStmtsP s.data.toList))]) ∧ Fresh w.heap.size w'.heap.size w' (fun W N => (resS (readP onlyStmtsP s.data.toList)).In W N q) ∧ Below w.heap.size w w' := by
  have hmf : ∀ (fn : Fn) (first cap : Array Value) (w : World), (Instr.makeFunc fn first cap).run Tryz.prog w = .ok (.func fn first cap) w := fun _ _ _ _ => rfl
  obtain ⟨W0, hW0⟩ : ∃ W0, w.alloc (.cells #[.int .i64 0, .int .i64 0, .int .i64 0] 29) = W0 := ⟨_, rfl⟩
  have hB0 : Below w.heap.size w W0 := by rw [← hW0]; exact (Below.refl _ w).alloc (Nat.le_refl _) _
  have hz0 : W0.heap.size = w.heap.size + 1 := by rw [← hW0]; simp
  have Kf := Lib.hid (show W0.heap[w.heap.size]? = some (.cells #[.int .i64 0, .int .i64 0, .int .i64 0] 29 (0, 0)) by rw [← hW0]; exact heap_alloc_new w _)
  have HG0 := Lib.hid (glob_below hG hB0)
  have HB0 := Lib.hid hB0
  have HZ0 := Lib.hid hz0
  have HW0 := Lib.hid hW0
  have HNO := Lib.hid (fun (a b c : Int) (w2 : World) (tmps : Array Value) (R : Ending → World → Prop) (h4 : tmps[4]? = some (.slice none 0 0)) (h5 : tmps[5]? = some (.pointer (some ⟨w.heap.size, 0, none⟩)))
      (hB : Below w.heap.size w w2) (hf : w2.heap[w.heap.size]? = some (.cells #[.int .i64 0, .int .i64 0, .int .i64 0] 29 (0, 0)))
      (hR : ∀ w', Below w.heap.size w w' → R (.returned (.tuple #[.slice none 0 0, .agg (faultC a b c)])) w') =>
      show Leaves Tryz.prog Tryz.f51 tmps R [{ target := .fn (.func 103) #[.pointer (some ⟨w.heap.size, 0, none⟩)], args := #[] }] (.panicking [{ v := .iface 166 (.agg #[.int .i64 a, .int .i64 b, .int .i64 c]), recovered := false }]) w2 from by
    refine leaves_cons (f := 103) (args := #[.pointer (some ⟨w.heap.size, 0, none⟩)]) (by simp) (by simp [go_sem]) ?_
    refine (caught_sts w.heap.size a b c [] w2 (glob_below hG hB) hf).mono ?_
    rintro e u w3 ⟨rfl, rfl, hk, hb⟩
    have hR3 := hR w3 (but_below hB hb (Nat.le_refl _) hB.size)
    obtain ⟨x, y, v, hfc⟩ := faultC_form a b c
    rw [hfc] at hk hR3
    have u0 := cell_blk hk (j := 0) rfl
    have u1 := cell_blk hk (j := 1) rfl
    have u2 := cell_blk hk (j := 2) rfl
    show Leaves _ _ _ _ [] (settle _) _
    refine ⟨.tuple #[.slice none 0 0, .agg #[.int .i64 x, .int .i64 y, .int .i64 v]], ?_, hR3⟩
    simp [results, Tryz.results51, go_sem, h4, h5, u0, u1, u2])
  generalize hGG : readP onlyStmtsP s.data.toList = G
  by_cases hE : (Lx.allF s.data.toList).1 = 0
  case neg =>
    obtain ⟨c0, t0, hgr, hcn⟩ : ∃ (c0 : Nat) (t0 : Tok), G = .no c0 t0 ∧ Calls Tryz.prog 86 #[.string s] W0 fun z w' => z = WrongIs (c0 : Int) t0 ∧ Below W0.heap.size W0 w' := ⟨_, _, hGG.symm.trans (if_neg hE), newParser_no s W0 hs HG0.out hE⟩
    have CN := Lib.hid hcn
    have HGr := Lib.hid hgr
    clear hB0 hz0 hW0 hs hG hE hGG hgr hcn
    unfold WrongIs at CN
    go_enter_defers Tryz.func51, Tryz.ntmps51
    go_wp2_with fail
    rw [HW0.out]
    refine CN.out.mono ?_
    rintro z w2 ⟨rfl, hB2⟩
    have hf := (hB2.block _ (Array.getElem?_eq_some_iff.1 Kf.out).1).trans Kf.out
    have HX := Lib.hid (And.intro (HB0.out.trans (hB2.mono HB0.out.size)) hf)
    clear hB2 hf
    go_wp2_with fail
    refine HNO.out _ _ _ w2 _ _ rfl rfl HX.out.1 HX.out.2 (fun w' hB' => ⟨none, 0, by rw [HGr.out]; rfl, by rw [HGr.out]; exact fun W _ => sts_nil W _, hB'⟩)
  have hrp : onlyStmtsP (toksOf s.data.toList) = G := by rw [← hGG]; exact (if_pos hE).symm
  have CY := Lib.hid (newParser_yes s W0 hs HG0.out hE (allT_few _).1)
  have CX := Lib.hid (fun (pb tb tc : Nat) (w' : World) (h : Ps w' pb tb 0 tc (toksOf s.data.toList) 0 0) => onlyStmts_p ⟨pb, tb, 0, tc, toksOf s.data.toList⟩ 0 0 w' h (toks_pos _) (toks_ends _) (toks_few _) (toks_words _) rfl)
  generalize toksOf s.data.toList = T at *
  have HGT := Lib.hid hrp
  clear hB0 hz0 hW0 hs hG hE hrp hGG
  go_enter_defers Tryz.func51, Tryz.ntmps51
  go_wp2_with fail
  rw [HW0.out]
  refine CY.out.mono ?_
  rintro z w2 ⟨pb, tb, tc, rfl, hP, hB2, hpb⟩
  have hf := (hB2.block _ (Array.getElem?_eq_some_iff.1 Kf.out).1).trans Kf.out
  have HX := Lib.hid (And.intro (HB0.out.trans (hB2.mono HB0.out.size)) hf)
  have HP := Lib.hid hP
  have HPB := Lib.hid (show w.heap.size + 1 ≤ pb by have := HZ0.out; omega)
  have HZ2 := Lib.hid (show w.heap.size + 1 ≤ w2.heap.size by have := HZ0.out; have := hB2.size; omega)
  clear hB2 hf hP hpb
  go_wp2_with fail
  refine (CX.out pb tb tc w2 HP.out).mono ?_
  intro z w3 hc
  rcases hc with ⟨k3, x, s3, hr, hkk, hp, hb, hz, hR⟩ | ⟨k3, e3, t3, hr, hp, hb, hz⟩
  rotate_left
  · subst hz
    have hr' : onlyStmtsP T = .no e3 t3 := by rw [List.drop_zero] at hr; exact hr
    have HGr := Lib.hid (HGT.out.symm.trans hr')
    unfold WrongIs
    have hb' : But pb w2 w3 := hb
    have h1 := HPB.out
    have hfz := (hb'.block _ (Array.getElem?_eq_some_iff.1 HX.out.2).1 (by omega)).trans HX.out.2
    have HY := Lib.hid (And.intro (but_below HX.out.1 hb' (by omega) HX.out.1.size) hfz)
    clear hr hp hb hb' hfz hr' h1
    go_wp2_with fail
    refine HNO.out _ _ _ w3 _ _ rfl rfl HY.out.1 HY.out.2 (fun w' hB' => ⟨none, 0, by rw [HGr.out]; rfl, by rw [HGr.out]; exact fun W _ => sts_nil W _, hB'⟩)
  · obtain ⟨q, c⟩ := s3
    obtain rfl : z = .returned (.slice q x.len c) := hz
    have hr' : onlyStmtsP T = .ok x (T.drop k3) := by rw [List.drop_zero] at hr; exact hr
    have HGr := Lib.hid (HGT.out.symm.trans hr')
    have hb' : But pb w2 w3 := hb
    have h1 := HPB.out
    have hfz := (hb'.block _ (Array.getElem?_eq_some_iff.1 HX.out.2).1 (by omega)).trans HX.out.2
    have HBz := Lib.hid (but_below HX.out.1 hb' (by omega) HX.out.1.size)
    have HF := Lib.hid (show Fresh w2.heap.size w3.heap.size w3 (fun W N => x.In W N q) from hR)
    have HZ3 := Lib.hid hb'.size
    have u0 := cell_blk hfz (j := 0) rfl
    have u1 := cell_blk hfz (j := 1) rfl
    have u2 := cell_blk hfz (j := 2) rfl
    have g2 : ∀ j, w3.frozen? ⟨w.heap.size, j, none⟩ = false := fun j => by simp [World.frozen?, hfz]
    have v0 := g2 0
    have v1 := g2 1
    have v2 := g2 2
    have KEY : ∀ F, F = ((w3.setCell ⟨w.heap.size, 0, none⟩ (.int .i64 0)).setCell ⟨w.heap.size, 1, none⟩ (.int .i64 0)).setCell ⟨w.heap.size, 2, none⟩ (.int .i64 0) →
        F.heap[w.heap.size]? = some (.cells #[.int .i64 0, .int .i64 0, .int .i64 0] 29 (0, 0)) ∧ Below w.heap.size w F ∧ Fresh w.heap.size F.heap.size F (fun W N => x.In W N q) := by
      intro F hF
      have h2 := HZ2.out
      have b3 : F.heap.size = w3.heap.size := by rw [hF]; simp [World.setCell]
      refine ⟨?_, ?_, ?_⟩
      · rw [hF]; exact set3 hfz _ _ _
      · rw [hF]; exact ((HBz.out.setCell (p := ⟨w.heap.size, 0, none⟩) (Nat.le_refl _) _).setCell (p := ⟨w.heap.size, 1, none⟩) (Nat.le_refl _) _).setCell (p := ⟨w.heap.size, 2, none⟩) (Nat.le_refl _) _
      · have hlt : w.heap.size < w2.heap.size := by omega
        have a6 : Fresh w2.heap.size w3.heap.size F (fun W N => x.In W N q) := by
          rw [hF]
          refine HF.out.to ?_
          exact ((((Agr.refl (A := w2.heap.size) (B := w3.heap.size) (w := w3) (by omega)).set (p := ⟨w.heap.size, 0, none⟩) hlt (.int .i64 0)).set (p := ⟨w.heap.size, 1, none⟩) hlt (.int .i64 0)).set (p := ⟨w.heap.size, 2, none⟩) hlt (.int .i64 0))
        rw [b3]
        exact a6.fin (by omega) (Nat.le_refl _) (fun W h => h)
    have HKEY := Lib.hid KEY
    clear hr hp hb hb' hfz hr' h1 hR g2 KEY hkk
    go_wp2_with fail
    obtain ⟨F, hF⟩ : ∃ F, F = ((w3.setCell ⟨w.heap.size, 0, none⟩ (.int .i64 0)).setCell ⟨w.heap.size, 1, none⟩ (.int .i64 0)).setCell ⟨w.heap.size, 2, none⟩ (.int .i64 0) := ⟨_, rfl⟩
    obtain ⟨k2, k4, k5⟩ := HKEY.out F hF
    rw [← hF]
    clear hF HKEY
    refine leaves_cons (f := 103) (args := #[.pointer (some ⟨w.heap.size, 0, none⟩)]) (by simp) (by simp [go_sem]) ?_
    refine (idle_sts _ _).mono ?_
    rintro e u w9 ⟨rfl, rfl, rfl⟩
    have e0 := cell_blk k2 (j := 0) rfl
    have e1 := cell_blk k2 (j := 1) rfl
    have e2 := cell_blk k2 (j := 2) rfl
    refine ⟨.tuple #[.slice q x.len c, .agg #[.int .i64 0, .int .i64 0, .int .i64 0]], ?_, ⟨q, c, by rw [HGr.out]; rfl, by rw [HGr.out]; exact k5, k4⟩⟩
    simp [results, Tryz.results51, go_sem, e0, e1, e2]
end Go.Proofs.YtchbnkepmeelkaaGreatDoor
