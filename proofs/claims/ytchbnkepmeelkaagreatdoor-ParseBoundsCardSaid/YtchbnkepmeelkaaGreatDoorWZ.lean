/- A program's text is read. -/
import Derived.Test.YtchbnkepmeelkaaGreatDoorWX
import Derived.Test.YtchbnkepmeelkaaGreatDoorWY
import Derived.Test.YtchbnkepmeelkaaGreatDoorPY
namespace Go.Proofs.YtchbnkepmeelkaaGreatDoor
open Go.RowKit

def resP : Res Prg → Prg
  | .ok a _ => a
  | .no _ _ => ⟨[], []⟩
theorem prg_nil (W : World) (N : Nat) : (⟨[], []⟩ : Prg).Ok W N none none := ⟨⟨Nat.zero_le _, .inl rfl⟩, ⟨Nat.zero_le _, .inl rfl⟩⟩
theorem set2 {w : World} {g : Nat} {a b : Value} {t : TypeId} {fz : Nat × Nat} (h : w.heap[g]? = some (.cells #[a, b] t fz)) (v0 v1 : Value) :
    ((w.setCell ⟨g, 0, none⟩ v0).setCell ⟨g, 1, none⟩ v1).heap[g]? = some (.cells #[v0, v1] t fz) := by
  have h0 : (w.setCell ⟨g, 0, none⟩ v0).heap[g]? = some (.cells #[v0, b] t fz) := by rw [setCell_eq_setRow w g 0 _ t fz _ h]; exact setRow_heap w g _ _ t fz h
  rw [setCell_eq_setRow _ g 1 _ t fz _ h0]; exact setRow_heap _ g _ _ t fz h0
set_option maxRecDepth 100000 in
set_option maxHeartbeats 3200000 in
theorem read_prg (s : ByteArray) (w : World) (hs : s.size ≤ 281474976710656) (hG : Lx.Glob w) :
    Calls Tryz.prog 35 #[.string s, .func (.func 36) #[] #[]] w fun z w' => ∃ q q' c c', z = .returned (.tuple #[(resP (readP programP s.data.toList)).val q q' c c', .agg (faultR (readP programP s.data.toList))]) ∧ Fresh w.heap.size w'.heap.size w' (fun W N => (resP (readP programP s.data.toList)).Ok W N q q') ∧ Below w.heap.size w w' := by
  have hmf : ∀ (fn : Fn) (first cap : Array Value) (w : World), (Instr.makeFunc fn first cap).run Tryz.prog w = .ok (.func fn first cap) w := fun _ _ _ _ => rfl
  obtain ⟨W0, hW0⟩ : ∃ W0, (w.alloc (.cells #[.slice none 0 0, .slice none 0 0] 26)).alloc (.cells #[.int .i64 0, .int .i64 0, .int .i64 0] 29) = W0 := ⟨_, rfl⟩
  have hB0 : Below w.heap.size w W0 := by rw [← hW0]; exact ((Below.refl _ w).alloc (Nat.le_refl _) _).alloc (by simp) _
  have hz0 : W0.heap.size = w.heap.size + 2 := by rw [← hW0]; simp
  have Kf := Lib.hid (show W0.heap[w.heap.size + 1]? = some (.cells #[.int .i64 0, .int .i64 0, .int .i64 0] 29 (0, 0)) by
    rw [← hW0]; have := heap_alloc_new (w.alloc (.cells #[.slice none 0 0, .slice none 0 0] 26)) (.cells #[.int .i64 0, .int .i64 0, .int .i64 0] 29); simpa using this)
  have Kr := Lib.hid (show W0.heap[w.heap.size]? = some (.cells #[.slice none 0 0, .slice none 0 0] 26 (0, 0)) by
    rw [← hW0, Below.heap_alloc _ _ _ (by simp)]; exact heap_alloc_new w _)
  have HG0 := Lib.hid (glob_below hG hB0)
  have HB0 := Lib.hid hB0
  have HZ0 := Lib.hid hz0
  have HW0 := Lib.hid hW0
  have HS := Lib.hid hs
  -- how a panic ends
  have HNO := Lib.hid (fun (a b c : Int) (w2 : World) (tmps : Array Value) (R : Ending → World → Prop) (h4 : tmps[4]? = some (.pointer (some ⟨w.heap.size, 0, none⟩))) (h5 : tmps[5]? = some (.pointer (some ⟨w.heap.size + 1, 0, none⟩)))
      (hB : Below w.heap.size w w2) (hr : w2.heap[w.heap.size]? = some (.cells #[.slice none 0 0, .slice none 0 0] 26 (0, 0))) (hf : w2.heap[w.heap.size + 1]? = some (.cells #[.int .i64 0, .int .i64 0, .int .i64 0] 29 (0, 0)))
      (hR : ∀ w', Below w.heap.size w w' → R (.returned (.tuple #[(⟨[], []⟩ : Prg).val none none 0 0, .agg (faultC a b c)])) w') =>
      show Leaves Tryz.prog Tryz.f35 tmps R [{ target := .fn (.func 84) #[.pointer (some ⟨w.heap.size + 1, 0, none⟩)], args := #[] }] (.panicking [{ v := .iface 166 (.agg #[.int .i64 a, .int .i64 b, .int .i64 c]), recovered := false }]) w2 from by
    refine leaves_cons (f := 84) (args := #[.pointer (some ⟨w.heap.size + 1, 0, none⟩)]) (by simp) (by simp [go_sem]) ?_
    refine (caught_prg (w.heap.size + 1) a b c [] w2 (glob_below hG hB) hf).mono ?_
    rintro e u w3 ⟨rfl, rfl, hk, hb⟩
    have hr3 := (hb.block w.heap.size (Array.getElem?_eq_some_iff.1 hr).1 (by omega)).trans hr
    have hR3 := hR w3 (but_below hB hb (by omega) hB.size)
    obtain ⟨x, y, v, hfc⟩ := faultC_form a b c
    rw [hfc] at hk hR3
    have y0 := cell_blk hr3 (j := 0) rfl
    have y1 := cell_blk hr3 (j := 1) rfl
    have u0 := cell_blk hk (j := 0) rfl
    have u1 := cell_blk hk (j := 1) rfl
    have u2 := cell_blk hk (j := 2) rfl
    show Leaves _ _ _ _ [] (settle _) _
    refine ⟨.tuple #[(⟨[], []⟩ : Prg).val none none 0 0, .agg #[.int .i64 x, .int .i64 y, .int .i64 v]], ?_, hR3⟩
    simp [results, Tryz.results35, go_sem, h4, h5, y0, y1, u0, u1, u2, Prg.val])
  generalize hGG : readP programP s.data.toList = G
  by_cases hE : (Lx.allF s.data.toList).1 = 0
  case neg =>
    obtain ⟨c0, t0, hgr, hcn⟩ : ∃ (c0 : Nat) (t0 : Tok), G = .no c0 t0 ∧ Calls Tryz.prog 86 #[.string s] W0 fun z w' => z = WrongIs (c0 : Int) t0 ∧ Below W0.heap.size W0 w' := ⟨_, _, hGG.symm.trans (if_neg hE), newParser_no s W0 hs HG0.out hE⟩
    have CN := Lib.hid hcn
    have HGr := Lib.hid hgr
    clear hB0 hz0 hW0 hs hG hE hGG hgr hcn
    unfold WrongIs at CN
    go_enter_defers Tryz.func35, Tryz.ntmps35
    go_wp2_with fail
    rw [HW0.out]
    refine CN.out.mono ?_
    rintro z w2 ⟨rfl, hB2⟩
    have hr := (hB2.block _ (Array.getElem?_eq_some_iff.1 Kr.out).1).trans Kr.out
    have hf := (hB2.block _ (Array.getElem?_eq_some_iff.1 Kf.out).1).trans Kf.out
    have HX := Lib.hid (And.intro (HB0.out.trans (hB2.mono HB0.out.size)) (And.intro hr hf))
    clear hB2 hr hf
    go_wp2_with fail
    refine HNO.out _ _ _ w2 _ _ rfl rfl HX.out.1 HX.out.2.1 HX.out.2.2 (fun w' hB' => ⟨none, none, 0, 0, by rw [HGr.out]; rfl, by rw [HGr.out]; exact fun W _ => prg_nil W _, hB'⟩)
  have hrp : programP (toksOf s.data.toList) = G := by rw [← hGG]; exact (if_pos hE).symm
  have CY := Lib.hid (newParser_yes s W0 hs HG0.out hE (allT_few _).1)
  have CX := Lib.hid (fun (pb tb tc : Nat) (w' : World) (h : Ps w' pb tb 0 tc (toksOf s.data.toList) 0 0) => program_p ⟨pb, tb, 0, tc, toksOf s.data.toList⟩ 0 0 w' h (toks_pos _) (toks_ends _) (toks_few _) (toks_words _) rfl)
  generalize toksOf s.data.toList = T at *
  have HGT := Lib.hid hrp
  clear hB0 hz0 hW0 hs hG hE hrp hGG
  go_enter_defers Tryz.func35, Tryz.ntmps35
  go_wp2_with fail
  rw [HW0.out]
  refine CY.out.mono ?_
  rintro z w2 ⟨pb, tb, tc, rfl, hP, hB2, hpb⟩
  have hr := (hB2.block _ (Array.getElem?_eq_some_iff.1 Kr.out).1).trans Kr.out
  have hf := (hB2.block _ (Array.getElem?_eq_some_iff.1 Kf.out).1).trans Kf.out
  have HX := Lib.hid (And.intro (HB0.out.trans (hB2.mono HB0.out.size)) (And.intro hr hf))
  have HP := Lib.hid hP
  have HPB := Lib.hid (show w.heap.size + 2 ≤ pb by have := HZ0.out; omega)
  have HZ2 := Lib.hid (show w.heap.size + 2 ≤ w2.heap.size by have := HZ0.out; have := hB2.size; omega)
  clear hB2 hr hf hP hpb
  go_wp2_with fail
  refine (CX.out pb tb tc w2 HP.out).mono ?_
  intro z w3 hc
  rcases hc with ⟨k3, x, s3, hr, hkk, hp, hb, hz, hR⟩ | ⟨k3, e3, t3, hr, hp, hb, hz⟩
  rotate_left
  · subst hz
    have hr' : programP T = .no e3 t3 := by rw [List.drop_zero] at hr; exact hr
    have HGr := Lib.hid (HGT.out.symm.trans hr')
    unfold WrongIs
    have hb' : But pb w2 w3 := hb
    have h1 := HPB.out
    have hrz := (hb'.block _ (Array.getElem?_eq_some_iff.1 HX.out.2.1).1 (by omega)).trans HX.out.2.1
    have hfz := (hb'.block _ (Array.getElem?_eq_some_iff.1 HX.out.2.2).1 (by omega)).trans HX.out.2.2
    have HY := Lib.hid (And.intro (but_below HX.out.1 hb' (by omega) HX.out.1.size) (And.intro hrz hfz))
    clear hr hp hb hb' hrz hfz hr' h1
    go_wp2_with fail
    refine HNO.out _ _ _ w3 _ _ rfl rfl HY.out.1 HY.out.2.1 HY.out.2.2 (fun w' hB' => ⟨none, none, 0, 0, by rw [HGr.out]; rfl, by rw [HGr.out]; exact fun W _ => prg_nil W _, hB'⟩)
  · obtain ⟨⟨q, c⟩, ⟨q', c'⟩⟩ := s3
    obtain rfl : z = .returned (.agg #[.slice q x.regs.length c, .slice q' x.fns.length c']) := hz
    have hr' : programP T = .ok x (T.drop k3) := by rw [List.drop_zero] at hr; exact hr
    have HGr := Lib.hid (HGT.out.symm.trans hr')
    have hb' : But pb w2 w3 := hb
    have h1 := HPB.out
    have hrz := (hb'.block _ (Array.getElem?_eq_some_iff.1 HX.out.2.1).1 (by omega)).trans HX.out.2.1
    have hfz := (hb'.block _ (Array.getElem?_eq_some_iff.1 HX.out.2.2).1 (by omega)).trans HX.out.2.2
    have HBz := Lib.hid (but_below HX.out.1 hb' (by omega) HX.out.1.size)
    have HF := Lib.hid (show Fresh w2.heap.size w3.heap.size w3 (fun W N => x.Ok W N q q') from hR)
    have HZ3 := Lib.hid hb'.size
    have z0 := cell_blk hrz (j := 0) rfl
    have z1 := cell_blk hrz (j := 1) rfl
    have u0 := cell_blk hfz (j := 0) rfl
    have u1 := cell_blk hfz (j := 1) rfl
    have u2 := cell_blk hfz (j := 2) rfl
    have g1 : ∀ j, w3.frozen? ⟨w.heap.size, j, none⟩ = false := fun j => by simp [World.frozen?, hrz]
    have g2 : ∀ j, w3.frozen? ⟨w.heap.size + 1, j, none⟩ = false := fun j => by simp [World.frozen?, hfz]
    have f0 := g1 0
    have f1 := g1 1
    have v0 := g2 0
    have v1 := g2 1
    have v2 := g2 2
    have KEY : ∀ F, F = ((((w3.setCell ⟨w.heap.size, 0, none⟩ (.slice q x.regs.length c)).setCell ⟨w.heap.size, 1, none⟩ (.slice q' x.fns.length c')).setCell ⟨w.heap.size + 1, 0, none⟩ (.int .i64 0)).setCell ⟨w.heap.size + 1, 1, none⟩ (.int .i64 0)).setCell ⟨w.heap.size + 1, 2, none⟩ (.int .i64 0) →
        F.heap[w.heap.size]? = some (.cells #[.slice q x.regs.length c, .slice q' x.fns.length c'] 26 (0, 0)) ∧ F.heap[w.heap.size + 1]? = some (.cells #[.int .i64 0, .int .i64 0, .int .i64 0] 29 (0, 0)) ∧ Below w.heap.size w F ∧ Fresh w.heap.size F.heap.size F (fun W N => x.Ok W N q q') := by
      intro F hF
      obtain ⟨V, hV⟩ : ∃ V, (w3.setCell ⟨w.heap.size, 0, none⟩ (.slice q x.regs.length c)).setCell ⟨w.heap.size, 1, none⟩ (.slice q' x.fns.length c') = V := ⟨_, rfl⟩
      rw [hV] at hF
      have a1 : V.heap[w.heap.size]? = some (.cells #[.slice q x.regs.length c, .slice q' x.fns.length c'] 26 (0, 0)) := by rw [← hV]; exact set2 hrz _ _
      have a2 : V.heap[w.heap.size + 1]? = some (.cells #[.int .i64 0, .int .i64 0, .int .i64 0] 29 (0, 0)) := by rw [← hV, Below.heap_setCell _ _ _ _ (show w.heap.size + 1 ≠ w.heap.size by omega), Below.heap_setCell _ _ _ _ (show w.heap.size + 1 ≠ w.heap.size by omega)]; exact hfz
      have a3 : V.heap.size = w3.heap.size := by rw [← hV]; simp [World.setCell]
      have a4 : Below w.heap.size w V := by rw [← hV]; exact (HBz.out.setCell (p := ⟨w.heap.size, 0, none⟩) (Nat.le_refl _) _).setCell (p := ⟨w.heap.size, 1, none⟩) (Nat.le_refl _) _
      have h2 := HZ2.out
      have a5 : Fresh w2.heap.size w3.heap.size V (fun W N => x.Ok W N q q') := by rw [← hV]; exact (HF.out.set (p := ⟨w.heap.size, 0, none⟩) (by show w.heap.size < w2.heap.size; omega) (Nat.le_refl _) _).set (p := ⟨w.heap.size, 1, none⟩) (by show w.heap.size < w2.heap.size; omega) (by simp [World.setCell]) _
      have b3 : F.heap.size = w3.heap.size := by rw [hF]; simp [World.setCell]; exact a3
      refine ⟨?_, ?_, ?_, ?_⟩
      · rw [hF, Below.heap_setCell _ _ _ _ (show w.heap.size ≠ w.heap.size + 1 by omega), Below.heap_setCell _ _ _ _ (show w.heap.size ≠ w.heap.size + 1 by omega), Below.heap_setCell _ _ _ _ (show w.heap.size ≠ w.heap.size + 1 by omega)]
        exact a1
      · rw [hF]; exact set3 a2 _ _ _
      · rw [hF]; exact ((a4.setCell (p := ⟨w.heap.size + 1, 0, none⟩) (Nat.le_succ _) _).setCell (p := ⟨w.heap.size + 1, 1, none⟩) (Nat.le_succ _) _).setCell (p := ⟨w.heap.size + 1, 2, none⟩) (Nat.le_succ _) _
      · have hlt : w.heap.size + 1 < w2.heap.size := by omega
        have a6 : Fresh w2.heap.size w3.heap.size F (fun W N => x.Ok W N q q') := by
          rw [hF]
          refine a5.to ?_
          have := ((((Agr.refl (A := w2.heap.size) (B := w3.heap.size) (w := V) (by omega)).set (p := ⟨w.heap.size + 1, 0, none⟩) hlt (.int .i64 0)).set (p := ⟨w.heap.size + 1, 1, none⟩) hlt (.int .i64 0)).set (p := ⟨w.heap.size + 1, 2, none⟩) hlt (.int .i64 0))
          exact this
        rw [b3]
        exact a6.fin (by omega) (Nat.le_refl _) (fun W h => h)
    have HKEY := Lib.hid KEY
    clear hr hp hb hb' hrz hfz hr' h1 hR g1 g2 KEY hkk
    go_wp2_with fail
    obtain ⟨F, hF⟩ : ∃ F, F = ((((w3.setCell ⟨w.heap.size, 0, none⟩ (.slice q x.regs.length c)).setCell ⟨w.heap.size, 1, none⟩ (.slice q' x.fns.length c')).setCell ⟨w.heap.size + 1, 0, none⟩ (.int .i64 0)).setCell ⟨w.heap.size + 1, 1, none⟩ (.int .i64 0)).setCell ⟨w.heap.size + 1, 2, none⟩ (.int .i64 0) := ⟨_, rfl⟩
    obtain ⟨k1, k2, k4, k5⟩ := HKEY.out F hF
    rw [← hF]
    clear hF HKEY
    refine leaves_cons (f := 84) (args := #[.pointer (some ⟨w.heap.size + 1, 0, none⟩)]) (by simp) (by simp [go_sem]) ?_
    refine (idle_prg _ _).mono ?_
    rintro e u w9 ⟨rfl, rfl, rfl⟩
    have y0 := cell_blk k1 (j := 0) rfl
    have y1 := cell_blk k1 (j := 1) rfl
    have e0 := cell_blk k2 (j := 0) rfl
    have e1 := cell_blk k2 (j := 1) rfl
    have e2 := cell_blk k2 (j := 2) rfl
    refine ⟨.tuple #[.agg #[.slice q x.regs.length c, .slice q' x.fns.length c'], .agg #[.int .i64 0, .int .i64 0, .int .i64 0]], ?_, ⟨q, q', c, c', by rw [HGr.out]; rfl, by rw [HGr.out]; exact k5, k4⟩⟩
    simp [results, Tryz.results35, go_sem, y0, y1, e0, e1, e2]
end Go.Proofs.YtchbnkepmeelkaaGreatDoor
