/- An expression: a number, a name, and so on, case by case. -/
import Derived.Test.YtchbnkepmeelkaaGreatDoorPF
namespace Go.Proofs.YtchbnkepmeelkaaGreatDoor
open Go.RowKit

theorem ahead_p (s : List UInt8) (p : Pp) (k d : Nat) (w : World) (h : Ps w p.pb p.tb p.tf p.tc p.ts k d) (hk : k < p.ts.length) (hE : Ends p.ts) :
    Calls Tryz.prog 164 #[.pointer (some ⟨p.pb, 0, none⟩), .string (str s)] w fun e w' => e = .returned (.bool (decide ((hdT (p.ts.drop k)).kind = 1 ∧ (hdT (p.ts.drop (k + 1))).text = s))) ∧ Below w.heap.size w w' := by
  obtain ⟨t, ht⟩ := tok_at hk
  rw [drop_hd ht]
  by_cases h1 : t.kind = 1
  · obtain ⟨u, hu⟩ := tok_at (hE.next ht (.inr (by omega)))
    rw [drop_hd hu, show decide (t.kind = 1 ∧ u.text = s) = decide (u.text = s) by simp [h1]]
    exact ahead_name s p.pb p.tb p.tf p.tc k d p.ts t u w h ht hu h1
  · rw [show decide (t.kind = 1 ∧ (hdT (p.ts.drop (k + 1))).text = s) = false by simp [h1]]
    exact ahead_no s p.pb p.tb p.tf p.tc k d p.ts t w h ht h1
theorem take_yes (s : List UInt8) (p : Pp) (k d : Nat) (w : World) (h : Ps w p.pb p.tb p.tf p.tc p.ts k d) (hk : k < p.ts.length) (hs : (hdT (p.ts.drop k)).text = s) :
    Calls Tryz.prog 152 #[.pointer (some ⟨p.pb, 0, none⟩), .string (str s)] w fun e w' => e = .returned (.bool true) ∧ Ps w' p.pb p.tb p.tf p.tc p.ts (k + 1) d ∧ But p.pb w w' := by
  obtain ⟨t, ht⟩ := tok_at hk
  rw [drop_hd ht] at hs
  have := take_any s p.pb p.tb p.tf p.tc k d p.ts t w h ht
  rw [decide_eq_true hs, if_pos hs] at this
  exact this
theorem take_no (s : List UInt8) (p : Pp) (k d : Nat) (w : World) (h : Ps w p.pb p.tb p.tf p.tc p.ts k d) (hk : k < p.ts.length) (hs : (hdT (p.ts.drop k)).text ≠ s) :
    Calls Tryz.prog 152 #[.pointer (some ⟨p.pb, 0, none⟩), .string (str s)] w fun e w' => e = .returned (.bool false) ∧ Ps w' p.pb p.tb p.tf p.tc p.ts k d ∧ But p.pb w w' := by
  obtain ⟨t, ht⟩ := tok_at hk
  rw [drop_hd ht] at hs
  have := take_any s p.pb p.tb p.tf p.tc k d p.ts t w h ht
  rw [decide_eq_false hs, if_neg hs] at this
  exact this
theorem hd_next {ts : List Tok} (hE : Ends ts) {k : Nat} (hk : k < ts.length) (h : (hdT (ts.drop k)).text ≠ [] ∨ (hdT (ts.drop k)).kind ≠ 0) : k + 1 < ts.length := by
  obtain ⟨t, ht⟩ := tok_at hk
  rw [drop_hd ht] at h
  exact hE.next ht h

set_option maxRecDepth 100000 in
set_option maxHeartbeats 3200000 in
theorem expr_num (n : Nat) (p : Pp) (k d : Nat) (w : World) (h : Ps w p.pb p.tb p.tf p.tc p.ts k d) (hk : k < p.ts.length) (hE : Ends p.ts) (hW : Words p.ts) (hd : d < 64) (_HX : ExprC p n (d + 1)) (hb : beginsE (hdT (p.ts.drop k)) = true) (h3 : (hdT (p.ts.drop k)).kind = 3) :
    Calls Tryz.prog 100 #[.pointer (some ⟨p.pb, 0, none⟩)] w (Post RExpr ((numP (p.ts.drop k)).bind fun x r => .ok (Ex.mk 1 x [] .nil) r) p d w) := by
  have hpb := h.lt_pb
  obtain ⟨t, ht⟩ := tok_at hk
  have hh := drop_hd ht
  rw [hh] at hb h3
  have hfl := fld0 (t.kind : Int) (t.word : Int) (t.line : Int) (t.col : Int) (str t.text)
  have q3 : ((t.kind : Int) == 3) = decide (t.kind = 3) := by by_cases h : t.kind = 3 <;> simp [h]; omega
  have CE := Lib.hid (fun (w : World) (h : Ps w p.pb p.tb p.tf p.tc p.ts k d) => isExpr_any p.pb p.tb p.tf p.tc k d p.ts t w h ht)
  have CB := Lib.hid (fun (w : World) (h : Ps w p.pb p.tb p.tf p.tc p.ts k d) => begin_yes p.pb p.tb p.tf p.tc k d p.ts w h hd)
  have CH := Lib.hid (fun (w : World) (h : Ps w p.pb p.tb p.tf p.tc p.ts k (d + 1)) => here_any p.pb p.tb p.tf p.tc k (d + 1) p.ts t w h ht)
  have CA := Lib.hid (fun (w : World) (h : Ps w p.pb p.tb p.tf p.tc p.ts k (d + 1)) => ahead_p [91] p k (d + 1) w h hk hE)
  have HD := Lib.hid (hd)
  have CN := Lib.hid (fun (k : Nat) (w : World) (h : Ps w p.pb p.tb p.tf p.tc p.ts k (d + 1)) (hk : k < p.ts.length) => number_p p k (d + 1) w h hk hE hW)
  have H3 := Lib.hid (show t.kind = 3 from h3)
  obtain ⟨W0, hW0⟩ : ∃ W0, w.alloc (.cells #[.int .i64 0, .int .u64 0, .string ⟨#[]⟩, .slice none 0 0] 39) = W0 := ⟨_, rfl⟩
  have hB0 : Below w.heap.size w W0 := by rw [← hW0]; exact (Below.refl _ _).alloc (Nat.le_refl _) _
  have Kr := Lib.hid (show W0.heap[w.heap.size]? = some (.cells #[.int .i64 0, .int .u64 0, .string ⟨#[]⟩, .slice none 0 0] 39 (0, 0)) by rw [← hW0]; exact heap_alloc_new w _)
  have Nr := Lib.hid (Nat.ne_of_gt hpb)
  have Nr2 := Lib.hid (Nat.ne_of_gt h.lt)
  have BB := Lib.hid (But.of_below (g := p.pb) hB0)
  have SS := Lib.hid (And.intro (h.later hB0) hk)
  clear hB0
  have PB := Lib.hid hpb
  unfold Tok.val at CH
  rw [hb] at CE
  clear h hk hE hpb hh ht hb hW hd _HX h3
  generalize hG : ((numP (p.ts.drop k)).bind fun x r => .ok (Ex.mk 1 x [] .nil) r) = G
  have HG := Lib.hid hG
  clear hG
  go_enter_defers Tryz.func100, Tryz.ntmps100
  go_wp2_with fail
  try rw [hW0]
  clear hW0
  refine (CE.out W0 SS.out.1).mono ?_
  rintro z w1 ⟨rfl, hBX⟩
  replace Kr := Lib.hid ((hBX.block _ (Array.getElem?_eq_some_iff.1 Kr.out).1).trans Kr.out)
  replace SS := Lib.hid (And.intro (SS.out.1.later hBX) SS.out.2)
  replace BB := Lib.hid (BB.out.trans (But.of_below hBX))
  clear hBX
  go_wp2_with fail
  refine (CB.out w1 SS.out.1).mono ?_
  rintro z w2 ⟨rfl, hp, hb⟩
  replace Kr := Lib.hid ((hb.block _ (Array.getElem?_eq_some_iff.1 Kr.out).1 Nr.out).trans Kr.out)
  replace SS := Lib.hid (And.intro hp SS.out.2)
  replace BB := Lib.hid (BB.out.trans hb)
  clear hp hb
  go_wp2_with fail
  refine (CH.out w2 SS.out.1).mono ?_
  rintro z w3 ⟨rfl, hBX⟩
  replace Kr := Lib.hid ((hBX.block _ (Array.getElem?_eq_some_iff.1 Kr.out).1).trans Kr.out)
  replace SS := Lib.hid (And.intro (SS.out.1.later hBX) SS.out.2)
  replace BB := Lib.hid (BB.out.trans (But.of_below hBX))
  clear hBX
  rw [show decide (t.kind = 3) = true from decide_eq_true H3.out] at q3
  go_wp2_with fail
  have Va4 := Lib.hid (show w.heap.size < w3.heap.size from (Array.getElem?_eq_some_iff.1 Kr.out).1)
  refine (CN.out k w3 SS.out.1 SS.out.2).mono ?_
  intro z w4 hc
  rcases hc with ⟨k4, a4, s4, hr, hkk, hp, hb, hz, hR⟩ | ⟨k4, e4, t4, hr, hp, hb, hz⟩
  rotate_left
  · subst hz
    have HN := Lib.hid (And.intro hp (And.intro (BB.out.trans hb) (show G = .no e4 t4 by rw [← HG.out]; simp only [hr, Res.bind_no])))
    clear hr hp hb
    unfold WrongIs
    go_wp2_with fail
    refine leaves_cons (f := 162) (args := #[.pointer (some ⟨p.pb, 0, none⟩)]) (by simp) (by simp [go_sem]) ?_
    refine (done_any p.pb p.tb p.tf p.tc k4 d p.ts _ _ HN.out.1 (by have := HD.out; omega)).mono ?_
    rintro e u w9 ⟨rfl, rfl, hP, hB⟩
    exact .no k4 e4 t4 HN.out.2.2 hP (HN.out.2.1.trans hB) rfl
  replace Kr := Lib.hid ((hb.block _ (Array.getElem?_eq_some_iff.1 Kr.out).1 Nr.out).trans Kr.out)
  have HQ4 := Lib.hid (show a4 < 18446744073709551616 from hR _ (Agr.refl (Nat.le_refl _)))
  have HQ := Lib.hid (show a4 < 18446744073709551616 from hR _ (Agr.refl (Nat.le_refl _)))
  obtain rfl : z = .returned (.int .u64 (a4 : Int)) := hz
  have R4 := Lib.hid hr
  replace SS := Lib.hid (And.intro hp hkk)
  replace BB := Lib.hid (BB.out.trans hb)
  clear hr hkk hp hb hR
  have HL := Lib.hid (show a4 < 18446744073709551616 from HQ.out)
  have z0 := cell_blk Kr.out (j := 0) rfl
  have z1 := cell_blk Kr.out (j := 1) rfl
  have z2 := cell_blk Kr.out (j := 2) rfl
  have z3 := cell_blk Kr.out (j := 3) rfl
  have hf : ∀ j, w4.frozen? ⟨w.heap.size, j, none⟩ = false := fun j => by simp [World.frozen?, Kr.out]
  have f0 := hf 0
  have f1 := hf 1
  have f2 := hf 2
  have f3 := hf 3
  clear hf
  have hR := set4 Kr.out (.int .i64 1) (.int .u64 (a4 : Int)) (.string ⟨#[]⟩) (.slice none 0 0)
  have hSF : Ps ((((w4.setCell ⟨w.heap.size, 0, none⟩ (.int .i64 1)).setCell ⟨w.heap.size, 1, none⟩ (.int .u64 (a4 : Int))).setCell ⟨w.heap.size, 2, none⟩ (.string ⟨#[]⟩)).setCell ⟨w.heap.size, 3, none⟩ (.slice none 0 0)) p.pb p.tb p.tf p.tc p.ts k4 (d + 1) := (((SS.out.1.other (p := ⟨w.heap.size, 0, none⟩) Nr.out Nr2.out _).other (p := ⟨w.heap.size, 1, none⟩) Nr.out Nr2.out _).other (p := ⟨w.heap.size, 2, none⟩) Nr.out Nr2.out _).other (p := ⟨w.heap.size, 3, none⟩) Nr.out Nr2.out _
  have hBF : But p.pb w ((((w4.setCell ⟨w.heap.size, 0, none⟩ (.int .i64 1)).setCell ⟨w.heap.size, 1, none⟩ (.int .u64 (a4 : Int))).setCell ⟨w.heap.size, 2, none⟩ (.string ⟨#[]⟩)).setCell ⟨w.heap.size, 3, none⟩ (.slice none 0 0)) := (((BB.out.putNew (p := ⟨w.heap.size, 0, none⟩) (Nat.le_refl _) _).putNew (p := ⟨w.heap.size, 1, none⟩) (Nat.le_refl _) _).putNew (p := ⟨w.heap.size, 2, none⟩) (Nat.le_refl _) _).putNew (p := ⟨w.heap.size, 3, none⟩) (Nat.le_refl _) _
  have hFr : Fresh w.heap.size ((((w4.setCell ⟨w.heap.size, 0, none⟩ (.int .i64 1)).setCell ⟨w.heap.size, 1, none⟩ (.int .u64 (a4 : Int))).setCell ⟨w.heap.size, 2, none⟩ (.string ⟨#[]⟩)).setCell ⟨w.heap.size, 3, none⟩ (.slice none 0 0)).heap.size ((((w4.setCell ⟨w.heap.size, 0, none⟩ (.int .i64 1)).setCell ⟨w.heap.size, 1, none⟩ (.int .u64 (a4 : Int))).setCell ⟨w.heap.size, 2, none⟩ (.string ⟨#[]⟩)).setCell ⟨w.heap.size, 3, none⟩ (.slice none 0 0)) (fun W N => Ex.Ok W N (.mk 1 a4 [] .nil) none) := by
    exact fun W _ => ⟨Exs.In.nil _ _ _, HL.out⟩
  have HF := Lib.hid (And.intro hR (And.intro hSF (And.intro hBF hFr)))
  clear hR hSF hBF hFr
  go_wp2_with fail
  generalize (((w4.setCell ⟨w.heap.size, 0, none⟩ (.int .i64 1)).setCell ⟨w.heap.size, 1, none⟩ (.int .u64 (a4 : Int))).setCell ⟨w.heap.size, 2, none⟩ (.string ⟨#[]⟩)).setCell ⟨w.heap.size, 3, none⟩ (.slice none 0 0) = F at *
  refine leaves_cons (f := 162) (args := #[.pointer (some ⟨p.pb, 0, none⟩)]) (by simp) (by simp [go_sem]) ?_
  refine (done_any p.pb p.tb p.tf p.tc k4 d p.ts _ _ HF.out.2.1 (by have := HD.out; omega)).mono ?_
  rintro e u w9 ⟨rfl, rfl, hP, hB⟩
  have hF := (hB.block _ (Array.getElem?_eq_some_iff.1 HF.out.1).1 Nr.out).trans HF.out.1
  have y0 := cell_blk hF (j := 0) rfl
  have y1 := cell_blk hF (j := 1) rfl
  have y2 := cell_blk hF (j := 2) rfl
  have y3 := cell_blk hF (j := 3) rfl
  refine ⟨.agg #[.int .i64 1, .int .u64 (a4 : Int), .string ⟨#[]⟩, .slice none 0 0], ?_, .ok k4 (.mk 1 a4 [] .nil) (none, 0) (by rw [← HG.out]; first | rfl | simp only [R4.out, Res.bind_ok] | trace_state) SS.out.2 hP (HF.out.2.2.1.trans hB) rfl ?_⟩
  · simp [results, Tryz.results100, go_sem, y0, y1, y2, y3]
  · exact (HF.out.2.2.2.but hB PB.out (Nat.le_refl _)).fin (Nat.le_refl _) hB.size (fun W h => Ex.Ok.up h hB.size)

set_option maxRecDepth 100000 in
set_option maxHeartbeats 3200000 in
theorem expr_index (n : Nat) (p : Pp) (k d : Nat) (w : World) (h : Ps w p.pb p.tb p.tf p.tc p.ts k d) (hk : k < p.ts.length) (hE : Ends p.ts) (_hW : Words p.ts) (hd : d < 64) (HX : ExprC p n (d + 1)) (hb : beginsE (hdT (p.ts.drop k)) = true) (h3 : (hdT (p.ts.drop k)).kind ≠ 3) (gA : ((hdT (p.ts.drop k)).kind = 1 ∧ (hdT (p.ts.drop (k + 1))).text = [91])) :
    Calls Tryz.prog 100 #[.pointer (some ⟨p.pb, 0, none⟩)] w (Post RExpr (indexP n (p.ts.drop k)) p d w) := by
  have hpb := h.lt_pb
  obtain ⟨t, ht⟩ := tok_at hk
  have hh := drop_hd ht
  rw [hh] at hb h3
  have hfl := fld0 (t.kind : Int) (t.word : Int) (t.line : Int) (t.col : Int) (str t.text)
  have q3 : ((t.kind : Int) == 3) = decide (t.kind = 3) := by by_cases h : t.kind = 3 <;> simp [h]; omega
  have CE := Lib.hid (fun (w : World) (h : Ps w p.pb p.tb p.tf p.tc p.ts k d) => isExpr_any p.pb p.tb p.tf p.tc k d p.ts t w h ht)
  have CB := Lib.hid (fun (w : World) (h : Ps w p.pb p.tb p.tf p.tc p.ts k d) => begin_yes p.pb p.tb p.tf p.tc k d p.ts w h hd)
  have CH := Lib.hid (fun (w : World) (h : Ps w p.pb p.tb p.tf p.tc p.ts k (d + 1)) => here_any p.pb p.tb p.tf p.tc k (d + 1) p.ts t w h ht)
  have CA := Lib.hid (fun (w : World) (h : Ps w p.pb p.tb p.tf p.tc p.ts k (d + 1)) => ahead_p [91] p k (d + 1) w h hk hE)
  have HD := Lib.hid (hd)
  have CI := Lib.hid (fun (k : Nat) (w : World) (h : Ps w p.pb p.tb p.tf p.tc p.ts k (d + 1)) (hk : k < p.ts.length) => index_p n p k (d + 1) w h hk hE HX)
  have H3 := Lib.hid (show t.kind ≠ 3 from h3)
  obtain ⟨W0, hW0⟩ : ∃ W0, w.alloc (.cells #[.int .i64 0, .int .u64 0, .string ⟨#[]⟩, .slice none 0 0] 39) = W0 := ⟨_, rfl⟩
  have hB0 : Below w.heap.size w W0 := by rw [← hW0]; exact (Below.refl _ _).alloc (Nat.le_refl _) _
  have Kr := Lib.hid (show W0.heap[w.heap.size]? = some (.cells #[.int .i64 0, .int .u64 0, .string ⟨#[]⟩, .slice none 0 0] 39 (0, 0)) by rw [← hW0]; exact heap_alloc_new w _)
  have Nr := Lib.hid (Nat.ne_of_gt hpb)
  have Nr2 := Lib.hid (Nat.ne_of_gt h.lt)
  have BB := Lib.hid (But.of_below (g := p.pb) hB0)
  have SS := Lib.hid (And.intro (h.later hB0) hk)
  clear hB0
  have PB := Lib.hid hpb
  unfold Tok.val at CH
  rw [hb] at CE
  rw [decide_eq_true gA] at CA
  clear h hk hE hpb hh ht hb _hW hd HX h3 gA
  generalize hG : (indexP n (p.ts.drop k)) = G
  have HG := Lib.hid hG
  clear hG
  go_enter_defers Tryz.func100, Tryz.ntmps100
  go_wp2_with fail
  try rw [hW0]
  clear hW0
  refine (CE.out W0 SS.out.1).mono ?_
  rintro z w1 ⟨rfl, hBX⟩
  replace Kr := Lib.hid ((hBX.block _ (Array.getElem?_eq_some_iff.1 Kr.out).1).trans Kr.out)
  replace SS := Lib.hid (And.intro (SS.out.1.later hBX) SS.out.2)
  replace BB := Lib.hid (BB.out.trans (But.of_below hBX))
  clear hBX
  go_wp2_with fail
  refine (CB.out w1 SS.out.1).mono ?_
  rintro z w2 ⟨rfl, hp, hb⟩
  replace Kr := Lib.hid ((hb.block _ (Array.getElem?_eq_some_iff.1 Kr.out).1 Nr.out).trans Kr.out)
  replace SS := Lib.hid (And.intro hp SS.out.2)
  replace BB := Lib.hid (BB.out.trans hb)
  clear hp hb
  go_wp2_with fail
  refine (CH.out w2 SS.out.1).mono ?_
  rintro z w3 ⟨rfl, hBX⟩
  replace Kr := Lib.hid ((hBX.block _ (Array.getElem?_eq_some_iff.1 Kr.out).1).trans Kr.out)
  replace SS := Lib.hid (And.intro (SS.out.1.later hBX) SS.out.2)
  replace BB := Lib.hid (BB.out.trans (But.of_below hBX))
  clear hBX
  rw [show decide (t.kind = 3) = false from decide_eq_false H3.out] at q3
  go_wp2_with fail
  refine (CA.out w3 SS.out.1).mono ?_
  rintro z w4 ⟨rfl, hBX⟩
  replace Kr := Lib.hid ((hBX.block _ (Array.getElem?_eq_some_iff.1 Kr.out).1).trans Kr.out)
  replace SS := Lib.hid (And.intro (SS.out.1.later hBX) SS.out.2)
  replace BB := Lib.hid (BB.out.trans (But.of_below hBX))
  clear hBX
  go_wp2_with fail
  have Va5 := Lib.hid (show w.heap.size < w4.heap.size from (Array.getElem?_eq_some_iff.1 Kr.out).1)
  refine (CI.out k w4 SS.out.1 SS.out.2).mono ?_
  intro z w5 hc
  rcases hc with ⟨k5, a5, s5, hr, hkk, hp, hb, hz, hR⟩ | ⟨k5, e5, t5, hr, hp, hb, hz⟩
  rotate_left
  · subst hz
    have HN := Lib.hid (And.intro hp (And.intro (BB.out.trans hb) (show G = .no e5 t5 by rw [← HG.out]; simp only [hr])))
    clear hr hp hb
    unfold WrongIs
    go_wp2_with fail
    refine leaves_cons (f := 162) (args := #[.pointer (some ⟨p.pb, 0, none⟩)]) (by simp) (by simp [go_sem]) ?_
    refine (done_any p.pb p.tb p.tf p.tc k5 d p.ts _ _ HN.out.1 (by have := HD.out; omega)).mono ?_
    rintro e u w9 ⟨rfl, rfl, hP, hB⟩
    exact .no k5 e5 t5 HN.out.2.2 hP (HN.out.2.1.trans hB) rfl
  replace Kr := Lib.hid ((hb.block _ (Array.getElem?_eq_some_iff.1 Kr.out).1 Nr.out).trans Kr.out)
  obtain ⟨qa5, ca5⟩ := s5
  obtain rfl : z = .returned (.agg #[.int .i64 a5.op, .int .u64 (a5.word : Int), .string (str a5.name), .slice qa5 a5.args.len ca5]) := hz
  have Fa5 := Lib.hid (show Fresh w4.heap.size w5.heap.size w5 (fun W N => a5.Ok W N qa5) from hR)
  have Ga5 := Lib.hid SS.out.1.lt_pb
  have Za5 := Lib.hid (Nat.le_refl w5.heap.size)
  have Ya5 := Lib.hid (show w.heap.size ≤ w4.heap.size from BB.out.size)
  have R5 := Lib.hid hr
  replace SS := Lib.hid (And.intro hp hkk)
  replace BB := Lib.hid (BB.out.trans hb)
  clear hr hkk hp hb hR
  have z0 := cell_blk Kr.out (j := 0) rfl
  have z1 := cell_blk Kr.out (j := 1) rfl
  have z2 := cell_blk Kr.out (j := 2) rfl
  have z3 := cell_blk Kr.out (j := 3) rfl
  have hf : ∀ j, w5.frozen? ⟨w.heap.size, j, none⟩ = false := fun j => by simp [World.frozen?, Kr.out]
  have f0 := hf 0
  have f1 := hf 1
  have f2 := hf 2
  have f3 := hf 3
  clear hf
  have hR := set4 Kr.out (.int .i64 a5.op) (.int .u64 (a5.word : Int)) (.string (str a5.name)) (.slice qa5 a5.args.len ca5)
  have hSF : Ps ((((w5.setCell ⟨w.heap.size, 0, none⟩ (.int .i64 a5.op)).setCell ⟨w.heap.size, 1, none⟩ (.int .u64 (a5.word : Int))).setCell ⟨w.heap.size, 2, none⟩ (.string (str a5.name))).setCell ⟨w.heap.size, 3, none⟩ (.slice qa5 a5.args.len ca5)) p.pb p.tb p.tf p.tc p.ts k5 (d + 1) := (((SS.out.1.other (p := ⟨w.heap.size, 0, none⟩) Nr.out Nr2.out _).other (p := ⟨w.heap.size, 1, none⟩) Nr.out Nr2.out _).other (p := ⟨w.heap.size, 2, none⟩) Nr.out Nr2.out _).other (p := ⟨w.heap.size, 3, none⟩) Nr.out Nr2.out _
  have hBF : But p.pb w ((((w5.setCell ⟨w.heap.size, 0, none⟩ (.int .i64 a5.op)).setCell ⟨w.heap.size, 1, none⟩ (.int .u64 (a5.word : Int))).setCell ⟨w.heap.size, 2, none⟩ (.string (str a5.name))).setCell ⟨w.heap.size, 3, none⟩ (.slice qa5 a5.args.len ca5)) := (((BB.out.putNew (p := ⟨w.heap.size, 0, none⟩) (Nat.le_refl _) _).putNew (p := ⟨w.heap.size, 1, none⟩) (Nat.le_refl _) _).putNew (p := ⟨w.heap.size, 2, none⟩) (Nat.le_refl _) _).putNew (p := ⟨w.heap.size, 3, none⟩) (Nat.le_refl _) _
  have hFr : Fresh w.heap.size ((((w5.setCell ⟨w.heap.size, 0, none⟩ (.int .i64 a5.op)).setCell ⟨w.heap.size, 1, none⟩ (.int .u64 (a5.word : Int))).setCell ⟨w.heap.size, 2, none⟩ (.string (str a5.name))).setCell ⟨w.heap.size, 3, none⟩ (.slice qa5 a5.args.len ca5)).heap.size ((((w5.setCell ⟨w.heap.size, 0, none⟩ (.int .i64 a5.op)).setCell ⟨w.heap.size, 1, none⟩ (.int .u64 (a5.word : Int))).setCell ⟨w.heap.size, 2, none⟩ (.string (str a5.name))).setCell ⟨w.heap.size, 3, none⟩ (.slice qa5 a5.args.len ca5)) (fun W N => Ex.Ok W N a5 qa5) := by
    rw [size4]
    exact (Fa5.out.set4 Va5.out Za5.out _ _ _ _).fin Ya5.out Za5.out (fun W h => Ex.Ok.up h Za5.out)
  have HF := Lib.hid (And.intro hR (And.intro hSF (And.intro hBF hFr)))
  clear hR hSF hBF hFr
  go_wp2_with fail
  generalize (((w5.setCell ⟨w.heap.size, 0, none⟩ (.int .i64 a5.op)).setCell ⟨w.heap.size, 1, none⟩ (.int .u64 (a5.word : Int))).setCell ⟨w.heap.size, 2, none⟩ (.string (str a5.name))).setCell ⟨w.heap.size, 3, none⟩ (.slice qa5 a5.args.len ca5) = F at *
  refine leaves_cons (f := 162) (args := #[.pointer (some ⟨p.pb, 0, none⟩)]) (by simp) (by simp [go_sem]) ?_
  refine (done_any p.pb p.tb p.tf p.tc k5 d p.ts _ _ HF.out.2.1 (by have := HD.out; omega)).mono ?_
  rintro e u w9 ⟨rfl, rfl, hP, hB⟩
  have hF := (hB.block _ (Array.getElem?_eq_some_iff.1 HF.out.1).1 Nr.out).trans HF.out.1
  have y0 := cell_blk hF (j := 0) rfl
  have y1 := cell_blk hF (j := 1) rfl
  have y2 := cell_blk hF (j := 2) rfl
  have y3 := cell_blk hF (j := 3) rfl
  refine ⟨.agg #[.int .i64 a5.op, .int .u64 (a5.word : Int), .string (str a5.name), .slice qa5 a5.args.len ca5], ?_, .ok k5 a5 (qa5, ca5) (by rw [← HG.out]; first | rfl | simp only [R5.out] | trace_state) SS.out.2 hP (HF.out.2.2.1.trans hB) rfl ?_⟩
  · simp [results, Tryz.results100, go_sem, y0, y1, y2, y3]
  · exact (HF.out.2.2.2.but hB PB.out (Nat.le_refl _)).fin (Nat.le_refl _) hB.size (fun W h => Ex.Ok.up h hB.size)

set_option maxRecDepth 100000 in
set_option maxHeartbeats 3200000 in
theorem expr_not (n : Nat) (p : Pp) (k d : Nat) (w : World) (h : Ps w p.pb p.tb p.tf p.tc p.ts k d) (hk : k < p.ts.length) (hE : Ends p.ts) (_hW : Words p.ts) (hd : d < 64) (HX : ExprC p n (d + 1)) (hb : beginsE (hdT (p.ts.drop k)) = true) (h3 : (hdT (p.ts.drop k)).kind ≠ 3) (gA : ¬ ((hdT (p.ts.drop k)).kind = 1 ∧ (hdT (p.ts.drop (k + 1))).text = [91])) (gT : (hdT (p.ts.drop k)).text = [126]) :
    Calls Tryz.prog 100 #[.pointer (some ⟨p.pb, 0, none⟩)] w (Post RExpr ((exprP n (p.ts.drop (k + 1))).bind fun e r => .ok (Ex.mk 4 0 [] (.cons e .nil)) r) p d w) := by
  have hpb := h.lt_pb
  obtain ⟨t, ht⟩ := tok_at hk
  have hh := drop_hd ht
  rw [hh] at hb h3
  have hfl := fld0 (t.kind : Int) (t.word : Int) (t.line : Int) (t.col : Int) (str t.text)
  have q3 : ((t.kind : Int) == 3) = decide (t.kind = 3) := by by_cases h : t.kind = 3 <;> simp [h]; omega
  have CE := Lib.hid (fun (w : World) (h : Ps w p.pb p.tb p.tf p.tc p.ts k d) => isExpr_any p.pb p.tb p.tf p.tc k d p.ts t w h ht)
  have CB := Lib.hid (fun (w : World) (h : Ps w p.pb p.tb p.tf p.tc p.ts k d) => begin_yes p.pb p.tb p.tf p.tc k d p.ts w h hd)
  have CH := Lib.hid (fun (w : World) (h : Ps w p.pb p.tb p.tf p.tc p.ts k (d + 1)) => here_any p.pb p.tb p.tf p.tc k (d + 1) p.ts t w h ht)
  have CA := Lib.hid (fun (w : World) (h : Ps w p.pb p.tb p.tf p.tc p.ts k (d + 1)) => ahead_p [91] p k (d + 1) w h hk hE)
  have HD := Lib.hid (hd)
  have H3 := Lib.hid (show t.kind ≠ 3 from h3)
  have CT := Lib.hid (fun (w : World) (h : Ps w p.pb p.tb p.tf p.tc p.ts k (d + 1)) => take_yes [126] p k (d + 1) w h hk gT)
  have HK1 := Lib.hid (hd_next hE hk (.inl (by rw [gT]; decide)))
  have CX := Lib.hid (HX)
  obtain ⟨W0, hW0⟩ : ∃ W0, w.alloc (.cells #[.int .i64 0, .int .u64 0, .string ⟨#[]⟩, .slice none 0 0] 39) = W0 := ⟨_, rfl⟩
  have hB0 : Below w.heap.size w W0 := by rw [← hW0]; exact (Below.refl _ _).alloc (Nat.le_refl _) _
  have Kr := Lib.hid (show W0.heap[w.heap.size]? = some (.cells #[.int .i64 0, .int .u64 0, .string ⟨#[]⟩, .slice none 0 0] 39 (0, 0)) by rw [← hW0]; exact heap_alloc_new w _)
  have Nr := Lib.hid (Nat.ne_of_gt hpb)
  have Nr2 := Lib.hid (Nat.ne_of_gt h.lt)
  have BB := Lib.hid (But.of_below (g := p.pb) hB0)
  have SS := Lib.hid (And.intro (h.later hB0) hk)
  clear hB0
  have PB := Lib.hid hpb
  unfold Tok.val at CH
  rw [hb] at CE
  rw [decide_eq_false gA] at CA
  clear h hk hE hpb hh ht hb _hW hd HX h3 gA gT
  generalize hG : ((exprP n (p.ts.drop (k + 1))).bind fun e r => .ok (Ex.mk 4 0 [] (.cons e .nil)) r) = G
  have HG := Lib.hid hG
  clear hG
  go_enter_defers Tryz.func100, Tryz.ntmps100
  go_wp2_with fail
  try rw [hW0]
  clear hW0
  refine (CE.out W0 SS.out.1).mono ?_
  rintro z w1 ⟨rfl, hBX⟩
  replace Kr := Lib.hid ((hBX.block _ (Array.getElem?_eq_some_iff.1 Kr.out).1).trans Kr.out)
  replace SS := Lib.hid (And.intro (SS.out.1.later hBX) SS.out.2)
  replace BB := Lib.hid (BB.out.trans (But.of_below hBX))
  clear hBX
  go_wp2_with fail
  refine (CB.out w1 SS.out.1).mono ?_
  rintro z w2 ⟨rfl, hp, hb⟩
  replace Kr := Lib.hid ((hb.block _ (Array.getElem?_eq_some_iff.1 Kr.out).1 Nr.out).trans Kr.out)
  replace SS := Lib.hid (And.intro hp SS.out.2)
  replace BB := Lib.hid (BB.out.trans hb)
  clear hp hb
  go_wp2_with fail
  refine (CH.out w2 SS.out.1).mono ?_
  rintro z w3 ⟨rfl, hBX⟩
  replace Kr := Lib.hid ((hBX.block _ (Array.getElem?_eq_some_iff.1 Kr.out).1).trans Kr.out)
  replace SS := Lib.hid (And.intro (SS.out.1.later hBX) SS.out.2)
  replace BB := Lib.hid (BB.out.trans (But.of_below hBX))
  clear hBX
  rw [show decide (t.kind = 3) = false from decide_eq_false H3.out] at q3
  go_wp2_with fail
  refine (CA.out w3 SS.out.1).mono ?_
  rintro z w4 ⟨rfl, hBX⟩
  replace Kr := Lib.hid ((hBX.block _ (Array.getElem?_eq_some_iff.1 Kr.out).1).trans Kr.out)
  replace SS := Lib.hid (And.intro (SS.out.1.later hBX) SS.out.2)
  replace BB := Lib.hid (BB.out.trans (But.of_below hBX))
  clear hBX
  go_wp2_with fail
  refine (CT.out w4 SS.out.1).mono ?_
  rintro z w5 ⟨rfl, hp, hb⟩
  replace Kr := Lib.hid ((hb.block _ (Array.getElem?_eq_some_iff.1 Kr.out).1 Nr.out).trans Kr.out)
  replace SS := Lib.hid (And.intro hp HK1.out)
  replace BB := Lib.hid (BB.out.trans hb)
  clear hp hb
  go_wp2_with fail
  have Va6 := Lib.hid (show w.heap.size < w5.heap.size from (Array.getElem?_eq_some_iff.1 Kr.out).1)
  refine (CX.out (k + 1) w5 SS.out.1 SS.out.2).mono ?_
  intro z w6 hc
  rcases hc with ⟨k6, a6, s6, hr, hkk, hp, hb, hz, hR⟩ | ⟨k6, e6, t6, hr, hp, hb, hz⟩
  rotate_left
  · subst hz
    have HN := Lib.hid (And.intro hp (And.intro (BB.out.trans hb) (show G = .no e6 t6 by rw [← HG.out]; simp only [hr, Res.bind_no])))
    clear hr hp hb
    unfold WrongIs
    go_wp2_with fail
    refine leaves_cons (f := 162) (args := #[.pointer (some ⟨p.pb, 0, none⟩)]) (by simp) (by simp [go_sem]) ?_
    refine (done_any p.pb p.tb p.tf p.tc k6 d p.ts _ _ HN.out.1 (by have := HD.out; omega)).mono ?_
    rintro e u w9 ⟨rfl, rfl, hP, hB⟩
    exact .no k6 e6 t6 HN.out.2.2 hP (HN.out.2.1.trans hB) rfl
  replace Kr := Lib.hid ((hb.block _ (Array.getElem?_eq_some_iff.1 Kr.out).1 Nr.out).trans Kr.out)
  obtain ⟨qa6, ca6⟩ := s6
  obtain rfl : z = .returned (.agg #[.int .i64 a6.op, .int .u64 (a6.word : Int), .string (str a6.name), .slice qa6 a6.args.len ca6]) := hz
  have Fa6 := Lib.hid (show Fresh w5.heap.size w6.heap.size w6 (fun W N => a6.Ok W N qa6) from hR)
  have Ga6 := Lib.hid SS.out.1.lt_pb
  have Za6 := Lib.hid (Nat.le_refl w6.heap.size)
  have Ya6 := Lib.hid (show w.heap.size ≤ w5.heap.size from BB.out.size)
  have R6 := Lib.hid hr
  replace SS := Lib.hid (And.intro hp hkk)
  replace BB := Lib.hid (BB.out.trans hb)
  clear hr hkk hp hb hR
  obtain ⟨Ag, hAg⟩ : ∃ A, w6.alloc (.cells #[.int .i64 a6.op, .int .u64 (a6.word : Int), .string (str a6.name), .slice qa6 a6.args.len ca6] 39) = A := ⟨_, rfl⟩
  have VV := Lib.hid (show w.heap.size < w6.heap.size from (Array.getElem?_eq_some_iff.1 Kr.out).1)
  have Xa6 := Lib.hid Za6.out
  have hBA : Below w6.heap.size w6 Ag := by rw [← hAg]; exact (Below.refl _ _).alloc (Nat.le_refl _) _
  replace Kr := Lib.hid ((hBA.block _ (Array.getElem?_eq_some_iff.1 Kr.out).1).trans Kr.out)
  replace Fa6 := Lib.hid (Fa6.out.bel hBA Za6.out)
  replace Za6 := Lib.hid (Nat.le_trans Za6.out hBA.size)
  replace Ya6 := Lib.hid Ya6.out
  have Kg := Lib.hid (show Ag.heap[w6.heap.size]? = some (.cells #[.int .i64 a6.op, .int .u64 (a6.word : Int), .string (str a6.name), .slice qa6 a6.args.len ca6] 39 (0, 0)) by rw [← hAg]; exact heap_alloc_new w6 _)
  have Ng := Lib.hid (Nat.ne_of_gt SS.out.1.lt_pb)
  have Tg := Lib.hid (Nat.ne_of_gt SS.out.1.lt)
  have Uga6 := Lib.hid (show _ ≤ w6.heap.size from Xa6.out)
  have Mg := Lib.hid (show w.heap.size ≤ w6.heap.size from BB.out.size)
  have Vg := Lib.hid (show w.heap.size < w6.heap.size from VV.out)
  replace SS := Lib.hid (And.intro (SS.out.1.later hBA) SS.out.2)
  replace BB := Lib.hid (BB.out.trans (But.of_below hBA))
  clear hBA
  have HAg := Lib.hid hAg
  clear hAg
  go_wp2_with fail
  try rw [HAg.out]
  clear HAg
  refine (exprOf_any 4 (some ⟨w6.heap.size, 0, none⟩) 1 1 Ag).mono ?_
  rintro z w7 ⟨rfl, hBX⟩
  replace Kr := Lib.hid ((hBX.block _ (Array.getElem?_eq_some_iff.1 Kr.out).1).trans Kr.out)
  replace Kg := Lib.hid ((hBX.block _ (Array.getElem?_eq_some_iff.1 Kg.out).1).trans Kg.out)
  replace Fa6 := Lib.hid (Fa6.out.bel hBX Za6.out)
  replace Za6 := Lib.hid (Nat.le_trans Za6.out hBX.size)
  replace Ya6 := Lib.hid Ya6.out
  replace SS := Lib.hid (And.intro (SS.out.1.later hBX) SS.out.2)
  replace BB := Lib.hid (BB.out.trans (But.of_below hBX))
  clear hBX
  have z0 := cell_blk Kr.out (j := 0) rfl
  have z1 := cell_blk Kr.out (j := 1) rfl
  have z2 := cell_blk Kr.out (j := 2) rfl
  have z3 := cell_blk Kr.out (j := 3) rfl
  have hf : ∀ j, w7.frozen? ⟨w.heap.size, j, none⟩ = false := fun j => by simp [World.frozen?, Kr.out]
  have f0 := hf 0
  have f1 := hf 1
  have f2 := hf 2
  have f3 := hf 3
  clear hf
  have hR := set4 Kr.out (.int .i64 4) (.int .u64 0) (.string ⟨#[]⟩) (.slice (some ⟨w6.heap.size, 0, none⟩) 1 1)
  have hSF : Ps ((((w7.setCell ⟨w.heap.size, 0, none⟩ (.int .i64 4)).setCell ⟨w.heap.size, 1, none⟩ (.int .u64 0)).setCell ⟨w.heap.size, 2, none⟩ (.string ⟨#[]⟩)).setCell ⟨w.heap.size, 3, none⟩ (.slice (some ⟨w6.heap.size, 0, none⟩) 1 1)) p.pb p.tb p.tf p.tc p.ts k6 (d + 1) := (((SS.out.1.other (p := ⟨w.heap.size, 0, none⟩) Nr.out Nr2.out _).other (p := ⟨w.heap.size, 1, none⟩) Nr.out Nr2.out _).other (p := ⟨w.heap.size, 2, none⟩) Nr.out Nr2.out _).other (p := ⟨w.heap.size, 3, none⟩) Nr.out Nr2.out _
  have hBF : But p.pb w ((((w7.setCell ⟨w.heap.size, 0, none⟩ (.int .i64 4)).setCell ⟨w.heap.size, 1, none⟩ (.int .u64 0)).setCell ⟨w.heap.size, 2, none⟩ (.string ⟨#[]⟩)).setCell ⟨w.heap.size, 3, none⟩ (.slice (some ⟨w6.heap.size, 0, none⟩) 1 1)) := (((BB.out.putNew (p := ⟨w.heap.size, 0, none⟩) (Nat.le_refl _) _).putNew (p := ⟨w.heap.size, 1, none⟩) (Nat.le_refl _) _).putNew (p := ⟨w.heap.size, 2, none⟩) (Nat.le_refl _) _).putNew (p := ⟨w.heap.size, 3, none⟩) (Nat.le_refl _) _
  have hFr : Fresh w.heap.size ((((w7.setCell ⟨w.heap.size, 0, none⟩ (.int .i64 4)).setCell ⟨w.heap.size, 1, none⟩ (.int .u64 0)).setCell ⟨w.heap.size, 2, none⟩ (.string ⟨#[]⟩)).setCell ⟨w.heap.size, 3, none⟩ (.slice (some ⟨w6.heap.size, 0, none⟩) 1 1)).heap.size ((((w7.setCell ⟨w.heap.size, 0, none⟩ (.int .i64 4)).setCell ⟨w.heap.size, 1, none⟩ (.int .u64 0)).setCell ⟨w.heap.size, 2, none⟩ (.string ⟨#[]⟩)).setCell ⟨w.heap.size, 3, none⟩ (.slice (some ⟨w6.heap.size, 0, none⟩) 1 1)) (fun W N => Ex.Ok W N (.mk 4 0 [] (.cons a6 .nil)) (some ⟨w6.heap.size, 0, none⟩)) := by
    rw [size4]
    intro W hW
    have hgz : w6.heap.size < w7.heap.size := (Array.getElem?_eq_some_iff.1 Kg.out).1
    have hgr : w6.heap.size ≠ w.heap.size := Nat.ne_of_gt Vg.out
    have hgW := (hW.2 _ Mg.out hgz).trans ((heap_set4 _ _ _ hgr _ _ _ _).trans Kg.out)
    have oa6 : a6.Ok W w7.heap.size qa6 := ((Fa6.out.set4 Va6.out Za6.out _ _ _ _).fin Ya6.out Za6.out (fun W h => Ex.Ok.up h Za6.out)) W hW
    exact ⟨⟨by simp [Ex.args, Exs.len], .inr ⟨_, 0, rfl, hgz, Ex.At.of (cell_blk hgW (j := 0) rfl) (cell_blk hgW (j := 1) rfl) (cell_blk hgW (j := 2) rfl) (cell_blk hgW (j := 3) rfl) oa6, trivial⟩⟩, show (0 : Nat) < 18446744073709551616 by decide⟩
  have HF := Lib.hid (And.intro hR (And.intro hSF (And.intro hBF hFr)))
  clear hR hSF hBF hFr
  go_wp2_with fail
  generalize (((w7.setCell ⟨w.heap.size, 0, none⟩ (.int .i64 4)).setCell ⟨w.heap.size, 1, none⟩ (.int .u64 0)).setCell ⟨w.heap.size, 2, none⟩ (.string ⟨#[]⟩)).setCell ⟨w.heap.size, 3, none⟩ (.slice (some ⟨w6.heap.size, 0, none⟩) 1 1) = F at *
  refine leaves_cons (f := 162) (args := #[.pointer (some ⟨p.pb, 0, none⟩)]) (by simp) (by simp [go_sem]) ?_
  refine (done_any p.pb p.tb p.tf p.tc k6 d p.ts _ _ HF.out.2.1 (by have := HD.out; omega)).mono ?_
  rintro e u w9 ⟨rfl, rfl, hP, hB⟩
  have hF := (hB.block _ (Array.getElem?_eq_some_iff.1 HF.out.1).1 Nr.out).trans HF.out.1
  have y0 := cell_blk hF (j := 0) rfl
  have y1 := cell_blk hF (j := 1) rfl
  have y2 := cell_blk hF (j := 2) rfl
  have y3 := cell_blk hF (j := 3) rfl
  refine ⟨.agg #[.int .i64 4, .int .u64 0, .string ⟨#[]⟩, .slice (some ⟨w6.heap.size, 0, none⟩) 1 1], ?_, .ok k6 (.mk 4 0 [] (.cons a6 .nil)) (some ⟨w6.heap.size, 0, none⟩, 1) (by rw [← HG.out]; first | rfl | simp only [R6.out, Res.bind_ok] | trace_state) SS.out.2 hP (HF.out.2.2.1.trans hB) rfl ?_⟩
  · simp [results, Tryz.results100, go_sem, y0, y1, y2, y3]
  · exact (HF.out.2.2.2.but hB PB.out (Nat.le_refl _)).fin (Nat.le_refl _) hB.size (fun W h => Ex.Ok.up h hB.size)

set_option maxRecDepth 100000 in
set_option maxHeartbeats 3200000 in
theorem expr_neg (n : Nat) (p : Pp) (k d : Nat) (w : World) (h : Ps w p.pb p.tb p.tf p.tc p.ts k d) (hk : k < p.ts.length) (hE : Ends p.ts) (_hW : Words p.ts) (hd : d < 64) (HX : ExprC p n (d + 1)) (hb : beginsE (hdT (p.ts.drop k)) = true) (h3 : (hdT (p.ts.drop k)).kind ≠ 3) (gA : ¬ ((hdT (p.ts.drop k)).kind = 1 ∧ (hdT (p.ts.drop (k + 1))).text = [91])) (gT : (hdT (p.ts.drop k)).text ≠ [126]) (gM : (hdT (p.ts.drop k)).text = [45]) :
    Calls Tryz.prog 100 #[.pointer (some ⟨p.pb, 0, none⟩)] w (Post RExpr ((exprP n (p.ts.drop (k + 1))).bind fun e r => .ok (Ex.mk 5 0 [] (.cons e .nil)) r) p d w) := by
  have hpb := h.lt_pb
  obtain ⟨t, ht⟩ := tok_at hk
  have hh := drop_hd ht
  rw [hh] at hb h3
  have hfl := fld0 (t.kind : Int) (t.word : Int) (t.line : Int) (t.col : Int) (str t.text)
  have q3 : ((t.kind : Int) == 3) = decide (t.kind = 3) := by by_cases h : t.kind = 3 <;> simp [h]; omega
  have CE := Lib.hid (fun (w : World) (h : Ps w p.pb p.tb p.tf p.tc p.ts k d) => isExpr_any p.pb p.tb p.tf p.tc k d p.ts t w h ht)
  have CB := Lib.hid (fun (w : World) (h : Ps w p.pb p.tb p.tf p.tc p.ts k d) => begin_yes p.pb p.tb p.tf p.tc k d p.ts w h hd)
  have CH := Lib.hid (fun (w : World) (h : Ps w p.pb p.tb p.tf p.tc p.ts k (d + 1)) => here_any p.pb p.tb p.tf p.tc k (d + 1) p.ts t w h ht)
  have CA := Lib.hid (fun (w : World) (h : Ps w p.pb p.tb p.tf p.tc p.ts k (d + 1)) => ahead_p [91] p k (d + 1) w h hk hE)
  have HD := Lib.hid (hd)
  have H3 := Lib.hid (show t.kind ≠ 3 from h3)
  have CT := Lib.hid (fun (w : World) (h : Ps w p.pb p.tb p.tf p.tc p.ts k (d + 1)) => take_no [126] p k (d + 1) w h hk gT)
  have CM := Lib.hid (fun (w : World) (h : Ps w p.pb p.tb p.tf p.tc p.ts k (d + 1)) => take_yes [45] p k (d + 1) w h hk gM)
  have HK1 := Lib.hid (hd_next hE hk (.inl (by rw [gM]; decide)))
  have CX := Lib.hid (HX)
  obtain ⟨W0, hW0⟩ : ∃ W0, w.alloc (.cells #[.int .i64 0, .int .u64 0, .string ⟨#[]⟩, .slice none 0 0] 39) = W0 := ⟨_, rfl⟩
  have hB0 : Below w.heap.size w W0 := by rw [← hW0]; exact (Below.refl _ _).alloc (Nat.le_refl _) _
  have Kr := Lib.hid (show W0.heap[w.heap.size]? = some (.cells #[.int .i64 0, .int .u64 0, .string ⟨#[]⟩, .slice none 0 0] 39 (0, 0)) by rw [← hW0]; exact heap_alloc_new w _)
  have Nr := Lib.hid (Nat.ne_of_gt hpb)
  have Nr2 := Lib.hid (Nat.ne_of_gt h.lt)
  have BB := Lib.hid (But.of_below (g := p.pb) hB0)
  have SS := Lib.hid (And.intro (h.later hB0) hk)
  clear hB0
  have PB := Lib.hid hpb
  unfold Tok.val at CH
  rw [hb] at CE
  rw [decide_eq_false gA] at CA
  clear h hk hE hpb hh ht hb _hW hd HX h3 gA gT gM
  generalize hG : ((exprP n (p.ts.drop (k + 1))).bind fun e r => .ok (Ex.mk 5 0 [] (.cons e .nil)) r) = G
  have HG := Lib.hid hG
  clear hG
  go_enter_defers Tryz.func100, Tryz.ntmps100
  go_wp2_with fail
  try rw [hW0]
  clear hW0
  refine (CE.out W0 SS.out.1).mono ?_
  rintro z w1 ⟨rfl, hBX⟩
  replace Kr := Lib.hid ((hBX.block _ (Array.getElem?_eq_some_iff.1 Kr.out).1).trans Kr.out)
  replace SS := Lib.hid (And.intro (SS.out.1.later hBX) SS.out.2)
  replace BB := Lib.hid (BB.out.trans (But.of_below hBX))
  clear hBX
  go_wp2_with fail
  refine (CB.out w1 SS.out.1).mono ?_
  rintro z w2 ⟨rfl, hp, hb⟩
  replace Kr := Lib.hid ((hb.block _ (Array.getElem?_eq_some_iff.1 Kr.out).1 Nr.out).trans Kr.out)
  replace SS := Lib.hid (And.intro hp SS.out.2)
  replace BB := Lib.hid (BB.out.trans hb)
  clear hp hb
  go_wp2_with fail
  refine (CH.out w2 SS.out.1).mono ?_
  rintro z w3 ⟨rfl, hBX⟩
  replace Kr := Lib.hid ((hBX.block _ (Array.getElem?_eq_some_iff.1 Kr.out).1).trans Kr.out)
  replace SS := Lib.hid (And.intro (SS.out.1.later hBX) SS.out.2)
  replace BB := Lib.hid (BB.out.trans (But.of_below hBX))
  clear hBX
  rw [show decide (t.kind = 3) = false from decide_eq_false H3.out] at q3
  go_wp2_with fail
  refine (CA.out w3 SS.out.1).mono ?_
  rintro z w4 ⟨rfl, hBX⟩
  replace Kr := Lib.hid ((hBX.block _ (Array.getElem?_eq_some_iff.1 Kr.out).1).trans Kr.out)
  replace SS := Lib.hid (And.intro (SS.out.1.later hBX) SS.out.2)
  replace BB := Lib.hid (BB.out.trans (But.of_below hBX))
  clear hBX
  go_wp2_with fail
  refine (CT.out w4 SS.out.1).mono ?_
  rintro z w5 ⟨rfl, hp, hb⟩
  replace Kr := Lib.hid ((hb.block _ (Array.getElem?_eq_some_iff.1 Kr.out).1 Nr.out).trans Kr.out)
  replace SS := Lib.hid (And.intro hp SS.out.2)
  replace BB := Lib.hid (BB.out.trans hb)
  clear hp hb
  go_wp2_with fail
  refine (CM.out w5 SS.out.1).mono ?_
  rintro z w6 ⟨rfl, hp, hb⟩
  replace Kr := Lib.hid ((hb.block _ (Array.getElem?_eq_some_iff.1 Kr.out).1 Nr.out).trans Kr.out)
  replace SS := Lib.hid (And.intro hp HK1.out)
  replace BB := Lib.hid (BB.out.trans hb)
  clear hp hb
  go_wp2_with fail
  have Va7 := Lib.hid (show w.heap.size < w6.heap.size from (Array.getElem?_eq_some_iff.1 Kr.out).1)
  refine (CX.out (k + 1) w6 SS.out.1 SS.out.2).mono ?_
  intro z w7 hc
  rcases hc with ⟨k7, a7, s7, hr, hkk, hp, hb, hz, hR⟩ | ⟨k7, e7, t7, hr, hp, hb, hz⟩
  rotate_left
  · subst hz
    have HN := Lib.hid (And.intro hp (And.intro (BB.out.trans hb) (show G = .no e7 t7 by rw [← HG.out]; simp only [hr, Res.bind_no])))
    clear hr hp hb
    unfold WrongIs
    go_wp2_with fail
    refine leaves_cons (f := 162) (args := #[.pointer (some ⟨p.pb, 0, none⟩)]) (by simp) (by simp [go_sem]) ?_
    refine (done_any p.pb p.tb p.tf p.tc k7 d p.ts _ _ HN.out.1 (by have := HD.out; omega)).mono ?_
    rintro e u w9 ⟨rfl, rfl, hP, hB⟩
    exact .no k7 e7 t7 HN.out.2.2 hP (HN.out.2.1.trans hB) rfl
  replace Kr := Lib.hid ((hb.block _ (Array.getElem?_eq_some_iff.1 Kr.out).1 Nr.out).trans Kr.out)
  obtain ⟨qa7, ca7⟩ := s7
  obtain rfl : z = .returned (.agg #[.int .i64 a7.op, .int .u64 (a7.word : Int), .string (str a7.name), .slice qa7 a7.args.len ca7]) := hz
  have Fa7 := Lib.hid (show Fresh w6.heap.size w7.heap.size w7 (fun W N => a7.Ok W N qa7) from hR)
  have Ga7 := Lib.hid SS.out.1.lt_pb
  have Za7 := Lib.hid (Nat.le_refl w7.heap.size)
  have Ya7 := Lib.hid (show w.heap.size ≤ w6.heap.size from BB.out.size)
  have R7 := Lib.hid hr
  replace SS := Lib.hid (And.intro hp hkk)
  replace BB := Lib.hid (BB.out.trans hb)
  clear hr hkk hp hb hR
  obtain ⟨Ag, hAg⟩ : ∃ A, w7.alloc (.cells #[.int .i64 a7.op, .int .u64 (a7.word : Int), .string (str a7.name), .slice qa7 a7.args.len ca7] 39) = A := ⟨_, rfl⟩
  have VV := Lib.hid (show w.heap.size < w7.heap.size from (Array.getElem?_eq_some_iff.1 Kr.out).1)
  have Xa7 := Lib.hid Za7.out
  have hBA : Below w7.heap.size w7 Ag := by rw [← hAg]; exact (Below.refl _ _).alloc (Nat.le_refl _) _
  replace Kr := Lib.hid ((hBA.block _ (Array.getElem?_eq_some_iff.1 Kr.out).1).trans Kr.out)
  replace Fa7 := Lib.hid (Fa7.out.bel hBA Za7.out)
  replace Za7 := Lib.hid (Nat.le_trans Za7.out hBA.size)
  replace Ya7 := Lib.hid Ya7.out
  have Kg := Lib.hid (show Ag.heap[w7.heap.size]? = some (.cells #[.int .i64 a7.op, .int .u64 (a7.word : Int), .string (str a7.name), .slice qa7 a7.args.len ca7] 39 (0, 0)) by rw [← hAg]; exact heap_alloc_new w7 _)
  have Ng := Lib.hid (Nat.ne_of_gt SS.out.1.lt_pb)
  have Tg := Lib.hid (Nat.ne_of_gt SS.out.1.lt)
  have Uga7 := Lib.hid (show _ ≤ w7.heap.size from Xa7.out)
  have Mg := Lib.hid (show w.heap.size ≤ w7.heap.size from BB.out.size)
  have Vg := Lib.hid (show w.heap.size < w7.heap.size from VV.out)
  replace SS := Lib.hid (And.intro (SS.out.1.later hBA) SS.out.2)
  replace BB := Lib.hid (BB.out.trans (But.of_below hBA))
  clear hBA
  have HAg := Lib.hid hAg
  clear hAg
  go_wp2_with fail
  try rw [HAg.out]
  clear HAg
  refine (exprOf_any 5 (some ⟨w7.heap.size, 0, none⟩) 1 1 Ag).mono ?_
  rintro z w8 ⟨rfl, hBX⟩
  replace Kr := Lib.hid ((hBX.block _ (Array.getElem?_eq_some_iff.1 Kr.out).1).trans Kr.out)
  replace Kg := Lib.hid ((hBX.block _ (Array.getElem?_eq_some_iff.1 Kg.out).1).trans Kg.out)
  replace Fa7 := Lib.hid (Fa7.out.bel hBX Za7.out)
  replace Za7 := Lib.hid (Nat.le_trans Za7.out hBX.size)
  replace Ya7 := Lib.hid Ya7.out
  replace SS := Lib.hid (And.intro (SS.out.1.later hBX) SS.out.2)
  replace BB := Lib.hid (BB.out.trans (But.of_below hBX))
  clear hBX
  have z0 := cell_blk Kr.out (j := 0) rfl
  have z1 := cell_blk Kr.out (j := 1) rfl
  have z2 := cell_blk Kr.out (j := 2) rfl
  have z3 := cell_blk Kr.out (j := 3) rfl
  have hf : ∀ j, w8.frozen? ⟨w.heap.size, j, none⟩ = false := fun j => by simp [World.frozen?, Kr.out]
  have f0 := hf 0
  have f1 := hf 1
  have f2 := hf 2
  have f3 := hf 3
  clear hf
  have hR := set4 Kr.out (.int .i64 5) (.int .u64 0) (.string ⟨#[]⟩) (.slice (some ⟨w7.heap.size, 0, none⟩) 1 1)
  have hSF : Ps ((((w8.setCell ⟨w.heap.size, 0, none⟩ (.int .i64 5)).setCell ⟨w.heap.size, 1, none⟩ (.int .u64 0)).setCell ⟨w.heap.size, 2, none⟩ (.string ⟨#[]⟩)).setCell ⟨w.heap.size, 3, none⟩ (.slice (some ⟨w7.heap.size, 0, none⟩) 1 1)) p.pb p.tb p.tf p.tc p.ts k7 (d + 1) := (((SS.out.1.other (p := ⟨w.heap.size, 0, none⟩) Nr.out Nr2.out _).other (p := ⟨w.heap.size, 1, none⟩) Nr.out Nr2.out _).other (p := ⟨w.heap.size, 2, none⟩) Nr.out Nr2.out _).other (p := ⟨w.heap.size, 3, none⟩) Nr.out Nr2.out _
  have hBF : But p.pb w ((((w8.setCell ⟨w.heap.size, 0, none⟩ (.int .i64 5)).setCell ⟨w.heap.size, 1, none⟩ (.int .u64 0)).setCell ⟨w.heap.size, 2, none⟩ (.string ⟨#[]⟩)).setCell ⟨w.heap.size, 3, none⟩ (.slice (some ⟨w7.heap.size, 0, none⟩) 1 1)) := (((BB.out.putNew (p := ⟨w.heap.size, 0, none⟩) (Nat.le_refl _) _).putNew (p := ⟨w.heap.size, 1, none⟩) (Nat.le_refl _) _).putNew (p := ⟨w.heap.size, 2, none⟩) (Nat.le_refl _) _).putNew (p := ⟨w.heap.size, 3, none⟩) (Nat.le_refl _) _
  have hFr : Fresh w.heap.size ((((w8.setCell ⟨w.heap.size, 0, none⟩ (.int .i64 5)).setCell ⟨w.heap.size, 1, none⟩ (.int .u64 0)).setCell ⟨w.heap.size, 2, none⟩ (.string ⟨#[]⟩)).setCell ⟨w.heap.size, 3, none⟩ (.slice (some ⟨w7.heap.size, 0, none⟩) 1 1)).heap.size ((((w8.setCell ⟨w.heap.size, 0, none⟩ (.int .i64 5)).setCell ⟨w.heap.size, 1, none⟩ (.int .u64 0)).setCell ⟨w.heap.size, 2, none⟩ (.string ⟨#[]⟩)).setCell ⟨w.heap.size, 3, none⟩ (.slice (some ⟨w7.heap.size, 0, none⟩) 1 1)) (fun W N => Ex.Ok W N (.mk 5 0 [] (.cons a7 .nil)) (some ⟨w7.heap.size, 0, none⟩)) := by
    rw [size4]
    intro W hW
    have hgz : w7.heap.size < w8.heap.size := (Array.getElem?_eq_some_iff.1 Kg.out).1
    have hgr : w7.heap.size ≠ w.heap.size := Nat.ne_of_gt Vg.out
    have hgW := (hW.2 _ Mg.out hgz).trans ((heap_set4 _ _ _ hgr _ _ _ _).trans Kg.out)
    have oa7 : a7.Ok W w8.heap.size qa7 := ((Fa7.out.set4 Va7.out Za7.out _ _ _ _).fin Ya7.out Za7.out (fun W h => Ex.Ok.up h Za7.out)) W hW
    exact ⟨⟨by simp [Ex.args, Exs.len], .inr ⟨_, 0, rfl, hgz, Ex.At.of (cell_blk hgW (j := 0) rfl) (cell_blk hgW (j := 1) rfl) (cell_blk hgW (j := 2) rfl) (cell_blk hgW (j := 3) rfl) oa7, trivial⟩⟩, show (0 : Nat) < 18446744073709551616 by decide⟩
  have HF := Lib.hid (And.intro hR (And.intro hSF (And.intro hBF hFr)))
  clear hR hSF hBF hFr
  go_wp2_with fail
  generalize (((w8.setCell ⟨w.heap.size, 0, none⟩ (.int .i64 5)).setCell ⟨w.heap.size, 1, none⟩ (.int .u64 0)).setCell ⟨w.heap.size, 2, none⟩ (.string ⟨#[]⟩)).setCell ⟨w.heap.size, 3, none⟩ (.slice (some ⟨w7.heap.size, 0, none⟩) 1 1) = F at *
  refine leaves_cons (f := 162) (args := #[.pointer (some ⟨p.pb, 0, none⟩)]) (by simp) (by simp [go_sem]) ?_
  refine (done_any p.pb p.tb p.tf p.tc k7 d p.ts _ _ HF.out.2.1 (by have := HD.out; omega)).mono ?_
  rintro e u w9 ⟨rfl, rfl, hP, hB⟩
  have hF := (hB.block _ (Array.getElem?_eq_some_iff.1 HF.out.1).1 Nr.out).trans HF.out.1
  have y0 := cell_blk hF (j := 0) rfl
  have y1 := cell_blk hF (j := 1) rfl
  have y2 := cell_blk hF (j := 2) rfl
  have y3 := cell_blk hF (j := 3) rfl
  refine ⟨.agg #[.int .i64 5, .int .u64 0, .string ⟨#[]⟩, .slice (some ⟨w7.heap.size, 0, none⟩) 1 1], ?_, .ok k7 (.mk 5 0 [] (.cons a7 .nil)) (some ⟨w7.heap.size, 0, none⟩, 1) (by rw [← HG.out]; first | rfl | simp only [R7.out, Res.bind_ok] | trace_state) SS.out.2 hP (HF.out.2.2.1.trans hB) rfl ?_⟩
  · simp [results, Tryz.results100, go_sem, y0, y1, y2, y3]
  · exact (HF.out.2.2.2.but hB PB.out (Nat.le_refl _)).fin (Nat.le_refl _) hB.size (fun W h => Ex.Ok.up h hB.size)

set_option maxRecDepth 100000 in
set_option maxHeartbeats 3200000 in
theorem expr_two (n : Nat) (p : Pp) (k d : Nat) (w : World) (h : Ps w p.pb p.tb p.tf p.tc p.ts k d) (hk : k < p.ts.length) (hE : Ends p.ts) (_hW : Words p.ts) (hd : d < 64) (HX : ExprC p n (d + 1)) (hb : beginsE (hdT (p.ts.drop k)) = true) (h3 : (hdT (p.ts.drop k)).kind ≠ 3) (gA : ¬ ((hdT (p.ts.drop k)).kind = 1 ∧ (hdT (p.ts.drop (k + 1))).text = [91])) (gT : (hdT (p.ts.drop k)).text ≠ [126]) (gM : (hdT (p.ts.drop k)).text ≠ [45]) (gP : (hdT (p.ts.drop k)).text = [40]) :
    Calls Tryz.prog 100 #[.pointer (some ⟨p.pb, 0, none⟩)] w (Post RExpr (twoP n (p.ts.drop (k + 1))) p d w) := by
  have hpb := h.lt_pb
  obtain ⟨t, ht⟩ := tok_at hk
  have hh := drop_hd ht
  rw [hh] at hb h3
  have hfl := fld0 (t.kind : Int) (t.word : Int) (t.line : Int) (t.col : Int) (str t.text)
  have q3 : ((t.kind : Int) == 3) = decide (t.kind = 3) := by by_cases h : t.kind = 3 <;> simp [h]; omega
  have CE := Lib.hid (fun (w : World) (h : Ps w p.pb p.tb p.tf p.tc p.ts k d) => isExpr_any p.pb p.tb p.tf p.tc k d p.ts t w h ht)
  have CB := Lib.hid (fun (w : World) (h : Ps w p.pb p.tb p.tf p.tc p.ts k d) => begin_yes p.pb p.tb p.tf p.tc k d p.ts w h hd)
  have CH := Lib.hid (fun (w : World) (h : Ps w p.pb p.tb p.tf p.tc p.ts k (d + 1)) => here_any p.pb p.tb p.tf p.tc k (d + 1) p.ts t w h ht)
  have CA := Lib.hid (fun (w : World) (h : Ps w p.pb p.tb p.tf p.tc p.ts k (d + 1)) => ahead_p [91] p k (d + 1) w h hk hE)
  have HD := Lib.hid (hd)
  have H3 := Lib.hid (show t.kind ≠ 3 from h3)
  have CT := Lib.hid (fun (w : World) (h : Ps w p.pb p.tb p.tf p.tc p.ts k (d + 1)) => take_no [126] p k (d + 1) w h hk gT)
  have CM := Lib.hid (fun (w : World) (h : Ps w p.pb p.tb p.tf p.tc p.ts k (d + 1)) => take_no [45] p k (d + 1) w h hk gM)
  have CP := Lib.hid (fun (w : World) (h : Ps w p.pb p.tb p.tf p.tc p.ts k (d + 1)) => take_yes [40] p k (d + 1) w h hk gP)
  have HK1 := Lib.hid (hd_next hE hk (.inl (by rw [gP]; decide)))
  have CX := Lib.hid (fun (k : Nat) (w : World) (h : Ps w p.pb p.tb p.tf p.tc p.ts k (d + 1)) (hk : k < p.ts.length) => two_p n p k (d + 1) w h hk hE HX)
  obtain ⟨W0, hW0⟩ : ∃ W0, w.alloc (.cells #[.int .i64 0, .int .u64 0, .string ⟨#[]⟩, .slice none 0 0] 39) = W0 := ⟨_, rfl⟩
  have hB0 : Below w.heap.size w W0 := by rw [← hW0]; exact (Below.refl _ _).alloc (Nat.le_refl _) _
  have Kr := Lib.hid (show W0.heap[w.heap.size]? = some (.cells #[.int .i64 0, .int .u64 0, .string ⟨#[]⟩, .slice none 0 0] 39 (0, 0)) by rw [← hW0]; exact heap_alloc_new w _)
  have Nr := Lib.hid (Nat.ne_of_gt hpb)
  have Nr2 := Lib.hid (Nat.ne_of_gt h.lt)
  have BB := Lib.hid (But.of_below (g := p.pb) hB0)
  have SS := Lib.hid (And.intro (h.later hB0) hk)
  clear hB0
  have PB := Lib.hid hpb
  unfold Tok.val at CH
  rw [hb] at CE
  rw [decide_eq_false gA] at CA
  clear h hk hE hpb hh ht hb _hW hd HX h3 gA gT gM gP
  generalize hG : (twoP n (p.ts.drop (k + 1))) = G
  have HG := Lib.hid hG
  clear hG
  go_enter_defers Tryz.func100, Tryz.ntmps100
  go_wp2_with fail
  try rw [hW0]
  clear hW0
  refine (CE.out W0 SS.out.1).mono ?_
  rintro z w1 ⟨rfl, hBX⟩
  replace Kr := Lib.hid ((hBX.block _ (Array.getElem?_eq_some_iff.1 Kr.out).1).trans Kr.out)
  replace SS := Lib.hid (And.intro (SS.out.1.later hBX) SS.out.2)
  replace BB := Lib.hid (BB.out.trans (But.of_below hBX))
  clear hBX
  go_wp2_with fail
  refine (CB.out w1 SS.out.1).mono ?_
  rintro z w2 ⟨rfl, hp, hb⟩
  replace Kr := Lib.hid ((hb.block _ (Array.getElem?_eq_some_iff.1 Kr.out).1 Nr.out).trans Kr.out)
  replace SS := Lib.hid (And.intro hp SS.out.2)
  replace BB := Lib.hid (BB.out.trans hb)
  clear hp hb
  go_wp2_with fail
  refine (CH.out w2 SS.out.1).mono ?_
  rintro z w3 ⟨rfl, hBX⟩
  replace Kr := Lib.hid ((hBX.block _ (Array.getElem?_eq_some_iff.1 Kr.out).1).trans Kr.out)
  replace SS := Lib.hid (And.intro (SS.out.1.later hBX) SS.out.2)
  replace BB := Lib.hid (BB.out.trans (But.of_below hBX))
  clear hBX
  rw [show decide (t.kind = 3) = false from decide_eq_false H3.out] at q3
  go_wp2_with fail
  refine (CA.out w3 SS.out.1).mono ?_
  rintro z w4 ⟨rfl, hBX⟩
  replace Kr := Lib.hid ((hBX.block _ (Array.getElem?_eq_some_iff.1 Kr.out).1).trans Kr.out)
  replace SS := Lib.hid (And.intro (SS.out.1.later hBX) SS.out.2)
  replace BB := Lib.hid (BB.out.trans (But.of_below hBX))
  clear hBX
  go_wp2_with fail
  refine (CT.out w4 SS.out.1).mono ?_
  rintro z w5 ⟨rfl, hp, hb⟩
  replace Kr := Lib.hid ((hb.block _ (Array.getElem?_eq_some_iff.1 Kr.out).1 Nr.out).trans Kr.out)
  replace SS := Lib.hid (And.intro hp SS.out.2)
  replace BB := Lib.hid (BB.out.trans hb)
  clear hp hb
  go_wp2_with fail
  refine (CM.out w5 SS.out.1).mono ?_
  rintro z w6 ⟨rfl, hp, hb⟩
  replace Kr := Lib.hid ((hb.block _ (Array.getElem?_eq_some_iff.1 Kr.out).1 Nr.out).trans Kr.out)
  replace SS := Lib.hid (And.intro hp SS.out.2)
  replace BB := Lib.hid (BB.out.trans hb)
  clear hp hb
  go_wp2_with fail
  refine (CP.out w6 SS.out.1).mono ?_
  rintro z w7 ⟨rfl, hp, hb⟩
  replace Kr := Lib.hid ((hb.block _ (Array.getElem?_eq_some_iff.1 Kr.out).1 Nr.out).trans Kr.out)
  replace SS := Lib.hid (And.intro hp HK1.out)
  replace BB := Lib.hid (BB.out.trans hb)
  clear hp hb
  go_wp2_with fail
  have Va8 := Lib.hid (show w.heap.size < w7.heap.size from (Array.getElem?_eq_some_iff.1 Kr.out).1)
  refine (CX.out (k + 1) w7 SS.out.1 SS.out.2).mono ?_
  intro z w8 hc
  rcases hc with ⟨k8, a8, s8, hr, hkk, hp, hb, hz, hR⟩ | ⟨k8, e8, t8, hr, hp, hb, hz⟩
  rotate_left
  · subst hz
    have HN := Lib.hid (And.intro hp (And.intro (BB.out.trans hb) (show G = .no e8 t8 by rw [← HG.out]; simp only [hr])))
    clear hr hp hb
    unfold WrongIs
    go_wp2_with fail
    refine leaves_cons (f := 162) (args := #[.pointer (some ⟨p.pb, 0, none⟩)]) (by simp) (by simp [go_sem]) ?_
    refine (done_any p.pb p.tb p.tf p.tc k8 d p.ts _ _ HN.out.1 (by have := HD.out; omega)).mono ?_
    rintro e u w9 ⟨rfl, rfl, hP, hB⟩
    exact .no k8 e8 t8 HN.out.2.2 hP (HN.out.2.1.trans hB) rfl
  replace Kr := Lib.hid ((hb.block _ (Array.getElem?_eq_some_iff.1 Kr.out).1 Nr.out).trans Kr.out)
  obtain ⟨qa8, ca8⟩ := s8
  obtain rfl : z = .returned (.agg #[.int .i64 a8.op, .int .u64 (a8.word : Int), .string (str a8.name), .slice qa8 a8.args.len ca8]) := hz
  have Fa8 := Lib.hid (show Fresh w7.heap.size w8.heap.size w8 (fun W N => a8.Ok W N qa8) from hR)
  have Ga8 := Lib.hid SS.out.1.lt_pb
  have Za8 := Lib.hid (Nat.le_refl w8.heap.size)
  have Ya8 := Lib.hid (show w.heap.size ≤ w7.heap.size from BB.out.size)
  have R8 := Lib.hid hr
  replace SS := Lib.hid (And.intro hp hkk)
  replace BB := Lib.hid (BB.out.trans hb)
  clear hr hkk hp hb hR
  have z0 := cell_blk Kr.out (j := 0) rfl
  have z1 := cell_blk Kr.out (j := 1) rfl
  have z2 := cell_blk Kr.out (j := 2) rfl
  have z3 := cell_blk Kr.out (j := 3) rfl
  have hf : ∀ j, w8.frozen? ⟨w.heap.size, j, none⟩ = false := fun j => by simp [World.frozen?, Kr.out]
  have f0 := hf 0
  have f1 := hf 1
  have f2 := hf 2
  have f3 := hf 3
  clear hf
  have hR := set4 Kr.out (.int .i64 a8.op) (.int .u64 (a8.word : Int)) (.string (str a8.name)) (.slice qa8 a8.args.len ca8)
  have hSF : Ps ((((w8.setCell ⟨w.heap.size, 0, none⟩ (.int .i64 a8.op)).setCell ⟨w.heap.size, 1, none⟩ (.int .u64 (a8.word : Int))).setCell ⟨w.heap.size, 2, none⟩ (.string (str a8.name))).setCell ⟨w.heap.size, 3, none⟩ (.slice qa8 a8.args.len ca8)) p.pb p.tb p.tf p.tc p.ts k8 (d + 1) := (((SS.out.1.other (p := ⟨w.heap.size, 0, none⟩) Nr.out Nr2.out _).other (p := ⟨w.heap.size, 1, none⟩) Nr.out Nr2.out _).other (p := ⟨w.heap.size, 2, none⟩) Nr.out Nr2.out _).other (p := ⟨w.heap.size, 3, none⟩) Nr.out Nr2.out _
  have hBF : But p.pb w ((((w8.setCell ⟨w.heap.size, 0, none⟩ (.int .i64 a8.op)).setCell ⟨w.heap.size, 1, none⟩ (.int .u64 (a8.word : Int))).setCell ⟨w.heap.size, 2, none⟩ (.string (str a8.name))).setCell ⟨w.heap.size, 3, none⟩ (.slice qa8 a8.args.len ca8)) := (((BB.out.putNew (p := ⟨w.heap.size, 0, none⟩) (Nat.le_refl _) _).putNew (p := ⟨w.heap.size, 1, none⟩) (Nat.le_refl _) _).putNew (p := ⟨w.heap.size, 2, none⟩) (Nat.le_refl _) _).putNew (p := ⟨w.heap.size, 3, none⟩) (Nat.le_refl _) _
  have hFr : Fresh w.heap.size ((((w8.setCell ⟨w.heap.size, 0, none⟩ (.int .i64 a8.op)).setCell ⟨w.heap.size, 1, none⟩ (.int .u64 (a8.word : Int))).setCell ⟨w.heap.size, 2, none⟩ (.string (str a8.name))).setCell ⟨w.heap.size, 3, none⟩ (.slice qa8 a8.args.len ca8)).heap.size ((((w8.setCell ⟨w.heap.size, 0, none⟩ (.int .i64 a8.op)).setCell ⟨w.heap.size, 1, none⟩ (.int .u64 (a8.word : Int))).setCell ⟨w.heap.size, 2, none⟩ (.string (str a8.name))).setCell ⟨w.heap.size, 3, none⟩ (.slice qa8 a8.args.len ca8)) (fun W N => Ex.Ok W N a8 qa8) := by
    rw [size4]
    exact (Fa8.out.set4 Va8.out Za8.out _ _ _ _).fin Ya8.out Za8.out (fun W h => Ex.Ok.up h Za8.out)
  have HF := Lib.hid (And.intro hR (And.intro hSF (And.intro hBF hFr)))
  clear hR hSF hBF hFr
  go_wp2_with fail
  generalize (((w8.setCell ⟨w.heap.size, 0, none⟩ (.int .i64 a8.op)).setCell ⟨w.heap.size, 1, none⟩ (.int .u64 (a8.word : Int))).setCell ⟨w.heap.size, 2, none⟩ (.string (str a8.name))).setCell ⟨w.heap.size, 3, none⟩ (.slice qa8 a8.args.len ca8) = F at *
  refine leaves_cons (f := 162) (args := #[.pointer (some ⟨p.pb, 0, none⟩)]) (by simp) (by simp [go_sem]) ?_
  refine (done_any p.pb p.tb p.tf p.tc k8 d p.ts _ _ HF.out.2.1 (by have := HD.out; omega)).mono ?_
  rintro e u w9 ⟨rfl, rfl, hP, hB⟩
  have hF := (hB.block _ (Array.getElem?_eq_some_iff.1 HF.out.1).1 Nr.out).trans HF.out.1
  have y0 := cell_blk hF (j := 0) rfl
  have y1 := cell_blk hF (j := 1) rfl
  have y2 := cell_blk hF (j := 2) rfl
  have y3 := cell_blk hF (j := 3) rfl
  refine ⟨.agg #[.int .i64 a8.op, .int .u64 (a8.word : Int), .string (str a8.name), .slice qa8 a8.args.len ca8], ?_, .ok k8 a8 (qa8, ca8) (by rw [← HG.out]; first | rfl | simp only [R8.out] | trace_state) SS.out.2 hP (HF.out.2.2.1.trans hB) rfl ?_⟩
  · simp [results, Tryz.results100, go_sem, y0, y1, y2, y3]
  · exact (HF.out.2.2.2.but hB PB.out (Nat.le_refl _)).fin (Nat.le_refl _) hB.size (fun W h => Ex.Ok.up h hB.size)

set_option maxRecDepth 100000 in
set_option maxHeartbeats 3200000 in
theorem expr_pick (n : Nat) (p : Pp) (k d : Nat) (w : World) (h : Ps w p.pb p.tb p.tf p.tc p.ts k d) (hk : k < p.ts.length) (hE : Ends p.ts) (_hW : Words p.ts) (hd : d < 64) (HX : ExprC p n (d + 1)) (hb : beginsE (hdT (p.ts.drop k)) = true) (h3 : (hdT (p.ts.drop k)).kind ≠ 3) (gA : ¬ ((hdT (p.ts.drop k)).kind = 1 ∧ (hdT (p.ts.drop (k + 1))).text = [91])) (gT : (hdT (p.ts.drop k)).text ≠ [126]) (gM : (hdT (p.ts.drop k)).text ≠ [45]) (gP : (hdT (p.ts.drop k)).text ≠ [40]) (gK : (hdT (p.ts.drop k)).text = [112, 105, 99, 107]) :
    Calls Tryz.prog 100 #[.pointer (some ⟨p.pb, 0, none⟩)] w (Post RExpr (pickP n (p.ts.drop (k + 1))) p d w) := by
  have hpb := h.lt_pb
  obtain ⟨t, ht⟩ := tok_at hk
  have hh := drop_hd ht
  rw [hh] at hb h3
  have hfl := fld0 (t.kind : Int) (t.word : Int) (t.line : Int) (t.col : Int) (str t.text)
  have q3 : ((t.kind : Int) == 3) = decide (t.kind = 3) := by by_cases h : t.kind = 3 <;> simp [h]; omega
  have CE := Lib.hid (fun (w : World) (h : Ps w p.pb p.tb p.tf p.tc p.ts k d) => isExpr_any p.pb p.tb p.tf p.tc k d p.ts t w h ht)
  have CB := Lib.hid (fun (w : World) (h : Ps w p.pb p.tb p.tf p.tc p.ts k d) => begin_yes p.pb p.tb p.tf p.tc k d p.ts w h hd)
  have CH := Lib.hid (fun (w : World) (h : Ps w p.pb p.tb p.tf p.tc p.ts k (d + 1)) => here_any p.pb p.tb p.tf p.tc k (d + 1) p.ts t w h ht)
  have CA := Lib.hid (fun (w : World) (h : Ps w p.pb p.tb p.tf p.tc p.ts k (d + 1)) => ahead_p [91] p k (d + 1) w h hk hE)
  have HD := Lib.hid (hd)
  have H3 := Lib.hid (show t.kind ≠ 3 from h3)
  have CT := Lib.hid (fun (w : World) (h : Ps w p.pb p.tb p.tf p.tc p.ts k (d + 1)) => take_no [126] p k (d + 1) w h hk gT)
  have CM := Lib.hid (fun (w : World) (h : Ps w p.pb p.tb p.tf p.tc p.ts k (d + 1)) => take_no [45] p k (d + 1) w h hk gM)
  have CP := Lib.hid (fun (w : World) (h : Ps w p.pb p.tb p.tf p.tc p.ts k (d + 1)) => take_no [40] p k (d + 1) w h hk gP)
  have CK := Lib.hid (fun (w : World) (h : Ps w p.pb p.tb p.tf p.tc p.ts k (d + 1)) => take_yes [112, 105, 99, 107] p k (d + 1) w h hk gK)
  have HK1 := Lib.hid (hd_next hE hk (.inl (by rw [gK]; decide)))
  have CX := Lib.hid (fun (k : Nat) (w : World) (h : Ps w p.pb p.tb p.tf p.tc p.ts k (d + 1)) (hk : k < p.ts.length) => pick_p n p k (d + 1) w h hk hE HX)
  obtain ⟨W0, hW0⟩ : ∃ W0, w.alloc (.cells #[.int .i64 0, .int .u64 0, .string ⟨#[]⟩, .slice none 0 0] 39) = W0 := ⟨_, rfl⟩
  have hB0 : Below w.heap.size w W0 := by rw [← hW0]; exact (Below.refl _ _).alloc (Nat.le_refl _) _
  have Kr := Lib.hid (show W0.heap[w.heap.size]? = some (.cells #[.int .i64 0, .int .u64 0, .string ⟨#[]⟩, .slice none 0 0] 39 (0, 0)) by rw [← hW0]; exact heap_alloc_new w _)
  have Nr := Lib.hid (Nat.ne_of_gt hpb)
  have Nr2 := Lib.hid (Nat.ne_of_gt h.lt)
  have BB := Lib.hid (But.of_below (g := p.pb) hB0)
  have SS := Lib.hid (And.intro (h.later hB0) hk)
  clear hB0
  have PB := Lib.hid hpb
  unfold Tok.val at CH
  rw [hb] at CE
  rw [decide_eq_false gA] at CA
  clear h hk hE hpb hh ht hb _hW hd HX h3 gA gT gM gP gK
  generalize hG : (pickP n (p.ts.drop (k + 1))) = G
  have HG := Lib.hid hG
  clear hG
  go_enter_defers Tryz.func100, Tryz.ntmps100
  go_wp2_with fail
  try rw [hW0]
  clear hW0
  refine (CE.out W0 SS.out.1).mono ?_
  rintro z w1 ⟨rfl, hBX⟩
  replace Kr := Lib.hid ((hBX.block _ (Array.getElem?_eq_some_iff.1 Kr.out).1).trans Kr.out)
  replace SS := Lib.hid (And.intro (SS.out.1.later hBX) SS.out.2)
  replace BB := Lib.hid (BB.out.trans (But.of_below hBX))
  clear hBX
  go_wp2_with fail
  refine (CB.out w1 SS.out.1).mono ?_
  rintro z w2 ⟨rfl, hp, hb⟩
  replace Kr := Lib.hid ((hb.block _ (Array.getElem?_eq_some_iff.1 Kr.out).1 Nr.out).trans Kr.out)
  replace SS := Lib.hid (And.intro hp SS.out.2)
  replace BB := Lib.hid (BB.out.trans hb)
  clear hp hb
  go_wp2_with fail
  refine (CH.out w2 SS.out.1).mono ?_
  rintro z w3 ⟨rfl, hBX⟩
  replace Kr := Lib.hid ((hBX.block _ (Array.getElem?_eq_some_iff.1 Kr.out).1).trans Kr.out)
  replace SS := Lib.hid (And.intro (SS.out.1.later hBX) SS.out.2)
  replace BB := Lib.hid (BB.out.trans (But.of_below hBX))
  clear hBX
  rw [show decide (t.kind = 3) = false from decide_eq_false H3.out] at q3
  go_wp2_with fail
  refine (CA.out w3 SS.out.1).mono ?_
  rintro z w4 ⟨rfl, hBX⟩
  replace Kr := Lib.hid ((hBX.block _ (Array.getElem?_eq_some_iff.1 Kr.out).1).trans Kr.out)
  replace SS := Lib.hid (And.intro (SS.out.1.later hBX) SS.out.2)
  replace BB := Lib.hid (BB.out.trans (But.of_below hBX))
  clear hBX
  go_wp2_with fail
  refine (CT.out w4 SS.out.1).mono ?_
  rintro z w5 ⟨rfl, hp, hb⟩
  replace Kr := Lib.hid ((hb.block _ (Array.getElem?_eq_some_iff.1 Kr.out).1 Nr.out).trans Kr.out)
  replace SS := Lib.hid (And.intro hp SS.out.2)
  replace BB := Lib.hid (BB.out.trans hb)
  clear hp hb
  go_wp2_with fail
  refine (CM.out w5 SS.out.1).mono ?_
  rintro z w6 ⟨rfl, hp, hb⟩
  replace Kr := Lib.hid ((hb.block _ (Array.getElem?_eq_some_iff.1 Kr.out).1 Nr.out).trans Kr.out)
  replace SS := Lib.hid (And.intro hp SS.out.2)
  replace BB := Lib.hid (BB.out.trans hb)
  clear hp hb
  go_wp2_with fail
  refine (CP.out w6 SS.out.1).mono ?_
  rintro z w7 ⟨rfl, hp, hb⟩
  replace Kr := Lib.hid ((hb.block _ (Array.getElem?_eq_some_iff.1 Kr.out).1 Nr.out).trans Kr.out)
  replace SS := Lib.hid (And.intro hp SS.out.2)
  replace BB := Lib.hid (BB.out.trans hb)
  clear hp hb
  go_wp2_with fail
  refine (CK.out w7 SS.out.1).mono ?_
  rintro z w8 ⟨rfl, hp, hb⟩
  replace Kr := Lib.hid ((hb.block _ (Array.getElem?_eq_some_iff.1 Kr.out).1 Nr.out).trans Kr.out)
  replace SS := Lib.hid (And.intro hp HK1.out)
  replace BB := Lib.hid (BB.out.trans hb)
  clear hp hb
  go_wp2_with fail
  have Va9 := Lib.hid (show w.heap.size < w8.heap.size from (Array.getElem?_eq_some_iff.1 Kr.out).1)
  refine (CX.out (k + 1) w8 SS.out.1 SS.out.2).mono ?_
  intro z w9 hc
  rcases hc with ⟨k9, a9, s9, hr, hkk, hp, hb, hz, hR⟩ | ⟨k9, e9, t9, hr, hp, hb, hz⟩
  rotate_left
  · subst hz
    have HN := Lib.hid (And.intro hp (And.intro (BB.out.trans hb) (show G = .no e9 t9 by rw [← HG.out]; simp only [hr])))
    clear hr hp hb
    unfold WrongIs
    go_wp2_with fail
    refine leaves_cons (f := 162) (args := #[.pointer (some ⟨p.pb, 0, none⟩)]) (by simp) (by simp [go_sem]) ?_
    refine (done_any p.pb p.tb p.tf p.tc k9 d p.ts _ _ HN.out.1 (by have := HD.out; omega)).mono ?_
    rintro e u w9 ⟨rfl, rfl, hP, hB⟩
    exact .no k9 e9 t9 HN.out.2.2 hP (HN.out.2.1.trans hB) rfl
  replace Kr := Lib.hid ((hb.block _ (Array.getElem?_eq_some_iff.1 Kr.out).1 Nr.out).trans Kr.out)
  obtain ⟨qa9, ca9⟩ := s9
  obtain rfl : z = .returned (.agg #[.int .i64 a9.op, .int .u64 (a9.word : Int), .string (str a9.name), .slice qa9 a9.args.len ca9]) := hz
  have Fa9 := Lib.hid (show Fresh w8.heap.size w9.heap.size w9 (fun W N => a9.Ok W N qa9) from hR)
  have Ga9 := Lib.hid SS.out.1.lt_pb
  have Za9 := Lib.hid (Nat.le_refl w9.heap.size)
  have Ya9 := Lib.hid (show w.heap.size ≤ w8.heap.size from BB.out.size)
  have R9 := Lib.hid hr
  replace SS := Lib.hid (And.intro hp hkk)
  replace BB := Lib.hid (BB.out.trans hb)
  clear hr hkk hp hb hR
  have z0 := cell_blk Kr.out (j := 0) rfl
  have z1 := cell_blk Kr.out (j := 1) rfl
  have z2 := cell_blk Kr.out (j := 2) rfl
  have z3 := cell_blk Kr.out (j := 3) rfl
  have hf : ∀ j, w9.frozen? ⟨w.heap.size, j, none⟩ = false := fun j => by simp [World.frozen?, Kr.out]
  have f0 := hf 0
  have f1 := hf 1
  have f2 := hf 2
  have f3 := hf 3
  clear hf
  have hR := set4 Kr.out (.int .i64 a9.op) (.int .u64 (a9.word : Int)) (.string (str a9.name)) (.slice qa9 a9.args.len ca9)
  have hSF : Ps ((((w9.setCell ⟨w.heap.size, 0, none⟩ (.int .i64 a9.op)).setCell ⟨w.heap.size, 1, none⟩ (.int .u64 (a9.word : Int))).setCell ⟨w.heap.size, 2, none⟩ (.string (str a9.name))).setCell ⟨w.heap.size, 3, none⟩ (.slice qa9 a9.args.len ca9)) p.pb p.tb p.tf p.tc p.ts k9 (d + 1) := (((SS.out.1.other (p := ⟨w.heap.size, 0, none⟩) Nr.out Nr2.out _).other (p := ⟨w.heap.size, 1, none⟩) Nr.out Nr2.out _).other (p := ⟨w.heap.size, 2, none⟩) Nr.out Nr2.out _).other (p := ⟨w.heap.size, 3, none⟩) Nr.out Nr2.out _
  have hBF : But p.pb w ((((w9.setCell ⟨w.heap.size, 0, none⟩ (.int .i64 a9.op)).setCell ⟨w.heap.size, 1, none⟩ (.int .u64 (a9.word : Int))).setCell ⟨w.heap.size, 2, none⟩ (.string (str a9.name))).setCell ⟨w.heap.size, 3, none⟩ (.slice qa9 a9.args.len ca9)) := (((BB.out.putNew (p := ⟨w.heap.size, 0, none⟩) (Nat.le_refl _) _).putNew (p := ⟨w.heap.size, 1, none⟩) (Nat.le_refl _) _).putNew (p := ⟨w.heap.size, 2, none⟩) (Nat.le_refl _) _).putNew (p := ⟨w.heap.size, 3, none⟩) (Nat.le_refl _) _
  have hFr : Fresh w.heap.size ((((w9.setCell ⟨w.heap.size, 0, none⟩ (.int .i64 a9.op)).setCell ⟨w.heap.size, 1, none⟩ (.int .u64 (a9.word : Int))).setCell ⟨w.heap.size, 2, none⟩ (.string (str a9.name))).setCell ⟨w.heap.size, 3, none⟩ (.slice qa9 a9.args.len ca9)).heap.size ((((w9.setCell ⟨w.heap.size, 0, none⟩ (.int .i64 a9.op)).setCell ⟨w.heap.size, 1, none⟩ (.int .u64 (a9.word : Int))).setCell ⟨w.heap.size, 2, none⟩ (.string (str a9.name))).setCell ⟨w.heap.size, 3, none⟩ (.slice qa9 a9.args.len ca9)) (fun W N => Ex.Ok W N a9 qa9) := by
    rw [size4]
    exact (Fa9.out.set4 Va9.out Za9.out _ _ _ _).fin Ya9.out Za9.out (fun W h => Ex.Ok.up h Za9.out)
  have HF := Lib.hid (And.intro hR (And.intro hSF (And.intro hBF hFr)))
  clear hR hSF hBF hFr
  go_wp2_with fail
  generalize (((w9.setCell ⟨w.heap.size, 0, none⟩ (.int .i64 a9.op)).setCell ⟨w.heap.size, 1, none⟩ (.int .u64 (a9.word : Int))).setCell ⟨w.heap.size, 2, none⟩ (.string (str a9.name))).setCell ⟨w.heap.size, 3, none⟩ (.slice qa9 a9.args.len ca9) = F at *
  refine leaves_cons (f := 162) (args := #[.pointer (some ⟨p.pb, 0, none⟩)]) (by simp) (by simp [go_sem]) ?_
  refine (done_any p.pb p.tb p.tf p.tc k9 d p.ts _ _ HF.out.2.1 (by have := HD.out; omega)).mono ?_
  rintro e u w9 ⟨rfl, rfl, hP, hB⟩
  have hF := (hB.block _ (Array.getElem?_eq_some_iff.1 HF.out.1).1 Nr.out).trans HF.out.1
  have y0 := cell_blk hF (j := 0) rfl
  have y1 := cell_blk hF (j := 1) rfl
  have y2 := cell_blk hF (j := 2) rfl
  have y3 := cell_blk hF (j := 3) rfl
  refine ⟨.agg #[.int .i64 a9.op, .int .u64 (a9.word : Int), .string (str a9.name), .slice qa9 a9.args.len ca9], ?_, .ok k9 a9 (qa9, ca9) (by rw [← HG.out]; first | rfl | simp only [R9.out] | trace_state) SS.out.2 hP (HF.out.2.2.1.trans hB) rfl ?_⟩
  · simp [results, Tryz.results100, go_sem, y0, y1, y2, y3]
  · exact (HF.out.2.2.2.but hB PB.out (Nat.le_refl _)).fin (Nat.le_refl _) hB.size (fun W h => Ex.Ok.up h hB.size)

set_option maxRecDepth 100000 in
set_option maxHeartbeats 3200000 in
theorem expr_var (n : Nat) (p : Pp) (k d : Nat) (w : World) (h : Ps w p.pb p.tb p.tf p.tc p.ts k d) (hk : k < p.ts.length) (hE : Ends p.ts) (_hW : Words p.ts) (hd : d < 64) (_HX : ExprC p n (d + 1)) (hb : beginsE (hdT (p.ts.drop k)) = true) (h3 : (hdT (p.ts.drop k)).kind ≠ 3) (gA : ¬ ((hdT (p.ts.drop k)).kind = 1 ∧ (hdT (p.ts.drop (k + 1))).text = [91])) (gT : (hdT (p.ts.drop k)).text ≠ [126]) (gM : (hdT (p.ts.drop k)).text ≠ [45]) (gP : (hdT (p.ts.drop k)).text ≠ [40]) (gK : (hdT (p.ts.drop k)).text ≠ [112, 105, 99, 107]) :
    Calls Tryz.prog 100 #[.pointer (some ⟨p.pb, 0, none⟩)] w (Post RExpr ((nameP (p.ts.drop k)).bind fun s r => .ok (Ex.mk 2 0 s .nil) r) p d w) := by
  have hpb := h.lt_pb
  obtain ⟨t, ht⟩ := tok_at hk
  have hh := drop_hd ht
  rw [hh] at hb h3
  have hfl := fld0 (t.kind : Int) (t.word : Int) (t.line : Int) (t.col : Int) (str t.text)
  have q3 : ((t.kind : Int) == 3) = decide (t.kind = 3) := by by_cases h : t.kind = 3 <;> simp [h]; omega
  have CE := Lib.hid (fun (w : World) (h : Ps w p.pb p.tb p.tf p.tc p.ts k d) => isExpr_any p.pb p.tb p.tf p.tc k d p.ts t w h ht)
  have CB := Lib.hid (fun (w : World) (h : Ps w p.pb p.tb p.tf p.tc p.ts k d) => begin_yes p.pb p.tb p.tf p.tc k d p.ts w h hd)
  have CH := Lib.hid (fun (w : World) (h : Ps w p.pb p.tb p.tf p.tc p.ts k (d + 1)) => here_any p.pb p.tb p.tf p.tc k (d + 1) p.ts t w h ht)
  have CA := Lib.hid (fun (w : World) (h : Ps w p.pb p.tb p.tf p.tc p.ts k (d + 1)) => ahead_p [91] p k (d + 1) w h hk hE)
  have HD := Lib.hid (hd)
  have H3 := Lib.hid (show t.kind ≠ 3 from h3)
  have CT := Lib.hid (fun (w : World) (h : Ps w p.pb p.tb p.tf p.tc p.ts k (d + 1)) => take_no [126] p k (d + 1) w h hk gT)
  have CM := Lib.hid (fun (w : World) (h : Ps w p.pb p.tb p.tf p.tc p.ts k (d + 1)) => take_no [45] p k (d + 1) w h hk gM)
  have CP := Lib.hid (fun (w : World) (h : Ps w p.pb p.tb p.tf p.tc p.ts k (d + 1)) => take_no [40] p k (d + 1) w h hk gP)
  have CK := Lib.hid (fun (w : World) (h : Ps w p.pb p.tb p.tf p.tc p.ts k (d + 1)) => take_no [112, 105, 99, 107] p k (d + 1) w h hk gK)
  have CN := Lib.hid (fun (k : Nat) (w : World) (h : Ps w p.pb p.tb p.tf p.tc p.ts k (d + 1)) (hk : k < p.ts.length) => name_p p k (d + 1) w h hk hE)
  obtain ⟨W0, hW0⟩ : ∃ W0, w.alloc (.cells #[.int .i64 0, .int .u64 0, .string ⟨#[]⟩, .slice none 0 0] 39) = W0 := ⟨_, rfl⟩
  have hB0 : Below w.heap.size w W0 := by rw [← hW0]; exact (Below.refl _ _).alloc (Nat.le_refl _) _
  have Kr := Lib.hid (show W0.heap[w.heap.size]? = some (.cells #[.int .i64 0, .int .u64 0, .string ⟨#[]⟩, .slice none 0 0] 39 (0, 0)) by rw [← hW0]; exact heap_alloc_new w _)
  have Nr := Lib.hid (Nat.ne_of_gt hpb)
  have Nr2 := Lib.hid (Nat.ne_of_gt h.lt)
  have BB := Lib.hid (But.of_below (g := p.pb) hB0)
  have SS := Lib.hid (And.intro (h.later hB0) hk)
  clear hB0
  have PB := Lib.hid hpb
  unfold Tok.val at CH
  rw [hb] at CE
  rw [decide_eq_false gA] at CA
  clear h hk hE hpb hh ht hb _hW hd _HX h3 gA gT gM gP gK
  generalize hG : ((nameP (p.ts.drop k)).bind fun s r => .ok (Ex.mk 2 0 s .nil) r) = G
  have HG := Lib.hid hG
  clear hG
  go_enter_defers Tryz.func100, Tryz.ntmps100
  go_wp2_with fail
  try rw [hW0]
  clear hW0
  refine (CE.out W0 SS.out.1).mono ?_
  rintro z w1 ⟨rfl, hBX⟩
  replace Kr := Lib.hid ((hBX.block _ (Array.getElem?_eq_some_iff.1 Kr.out).1).trans Kr.out)
  replace SS := Lib.hid (And.intro (SS.out.1.later hBX) SS.out.2)
  replace BB := Lib.hid (BB.out.trans (But.of_below hBX))
  clear hBX
  go_wp2_with fail
  refine (CB.out w1 SS.out.1).mono ?_
  rintro z w2 ⟨rfl, hp, hb⟩
  replace Kr := Lib.hid ((hb.block _ (Array.getElem?_eq_some_iff.1 Kr.out).1 Nr.out).trans Kr.out)
  replace SS := Lib.hid (And.intro hp SS.out.2)
  replace BB := Lib.hid (BB.out.trans hb)
  clear hp hb
  go_wp2_with fail
  refine (CH.out w2 SS.out.1).mono ?_
  rintro z w3 ⟨rfl, hBX⟩
  replace Kr := Lib.hid ((hBX.block _ (Array.getElem?_eq_some_iff.1 Kr.out).1).trans Kr.out)
  replace SS := Lib.hid (And.intro (SS.out.1.later hBX) SS.out.2)
  replace BB := Lib.hid (BB.out.trans (But.of_below hBX))
  clear hBX
  rw [show decide (t.kind = 3) = false from decide_eq_false H3.out] at q3
  go_wp2_with fail
  refine (CA.out w3 SS.out.1).mono ?_
  rintro z w4 ⟨rfl, hBX⟩
  replace Kr := Lib.hid ((hBX.block _ (Array.getElem?_eq_some_iff.1 Kr.out).1).trans Kr.out)
  replace SS := Lib.hid (And.intro (SS.out.1.later hBX) SS.out.2)
  replace BB := Lib.hid (BB.out.trans (But.of_below hBX))
  clear hBX
  go_wp2_with fail
  refine (CT.out w4 SS.out.1).mono ?_
  rintro z w5 ⟨rfl, hp, hb⟩
  replace Kr := Lib.hid ((hb.block _ (Array.getElem?_eq_some_iff.1 Kr.out).1 Nr.out).trans Kr.out)
  replace SS := Lib.hid (And.intro hp SS.out.2)
  replace BB := Lib.hid (BB.out.trans hb)
  clear hp hb
  go_wp2_with fail
  refine (CM.out w5 SS.out.1).mono ?_
  rintro z w6 ⟨rfl, hp, hb⟩
  replace Kr := Lib.hid ((hb.block _ (Array.getElem?_eq_some_iff.1 Kr.out).1 Nr.out).trans Kr.out)
  replace SS := Lib.hid (And.intro hp SS.out.2)
  replace BB := Lib.hid (BB.out.trans hb)
  clear hp hb
  go_wp2_with fail
  refine (CP.out w6 SS.out.1).mono ?_
  rintro z w7 ⟨rfl, hp, hb⟩
  replace Kr := Lib.hid ((hb.block _ (Array.getElem?_eq_some_iff.1 Kr.out).1 Nr.out).trans Kr.out)
  replace SS := Lib.hid (And.intro hp SS.out.2)
  replace BB := Lib.hid (BB.out.trans hb)
  clear hp hb
  go_wp2_with fail
  refine (CK.out w7 SS.out.1).mono ?_
  rintro z w8 ⟨rfl, hp, hb⟩
  replace Kr := Lib.hid ((hb.block _ (Array.getElem?_eq_some_iff.1 Kr.out).1 Nr.out).trans Kr.out)
  replace SS := Lib.hid (And.intro hp SS.out.2)
  replace BB := Lib.hid (BB.out.trans hb)
  clear hp hb
  go_wp2_with fail
  have Va9 := Lib.hid (show w.heap.size < w8.heap.size from (Array.getElem?_eq_some_iff.1 Kr.out).1)
  refine (CN.out k w8 SS.out.1 SS.out.2).mono ?_
  intro z w9 hc
  rcases hc with ⟨k9, a9, s9, hr, hkk, hp, hb, hz, hR⟩ | ⟨k9, e9, t9, hr, hp, hb, hz⟩
  rotate_left
  · subst hz
    have HN := Lib.hid (And.intro hp (And.intro (BB.out.trans hb) (show G = .no e9 t9 by rw [← HG.out]; simp only [hr, Res.bind_no])))
    clear hr hp hb
    unfold WrongIs
    go_wp2_with fail
    refine leaves_cons (f := 162) (args := #[.pointer (some ⟨p.pb, 0, none⟩)]) (by simp) (by simp [go_sem]) ?_
    refine (done_any p.pb p.tb p.tf p.tc k9 d p.ts _ _ HN.out.1 (by have := HD.out; omega)).mono ?_
    rintro e u w9 ⟨rfl, rfl, hP, hB⟩
    exact .no k9 e9 t9 HN.out.2.2 hP (HN.out.2.1.trans hB) rfl
  replace Kr := Lib.hid ((hb.block _ (Array.getElem?_eq_some_iff.1 Kr.out).1 Nr.out).trans Kr.out)
  obtain rfl : z = .returned (.string (str a9)) := hz
  have R9 := Lib.hid hr
  replace SS := Lib.hid (And.intro hp hkk)
  replace BB := Lib.hid (BB.out.trans hb)
  clear hr hkk hp hb hR
  have z0 := cell_blk Kr.out (j := 0) rfl
  have z1 := cell_blk Kr.out (j := 1) rfl
  have z2 := cell_blk Kr.out (j := 2) rfl
  have z3 := cell_blk Kr.out (j := 3) rfl
  have hf : ∀ j, w9.frozen? ⟨w.heap.size, j, none⟩ = false := fun j => by simp [World.frozen?, Kr.out]
  have f0 := hf 0
  have f1 := hf 1
  have f2 := hf 2
  have f3 := hf 3
  clear hf
  have hR := set4 Kr.out (.int .i64 2) (.int .u64 0) (.string (str a9)) (.slice none 0 0)
  have hSF : Ps ((((w9.setCell ⟨w.heap.size, 0, none⟩ (.int .i64 2)).setCell ⟨w.heap.size, 1, none⟩ (.int .u64 0)).setCell ⟨w.heap.size, 2, none⟩ (.string (str a9))).setCell ⟨w.heap.size, 3, none⟩ (.slice none 0 0)) p.pb p.tb p.tf p.tc p.ts k9 (d + 1) := (((SS.out.1.other (p := ⟨w.heap.size, 0, none⟩) Nr.out Nr2.out _).other (p := ⟨w.heap.size, 1, none⟩) Nr.out Nr2.out _).other (p := ⟨w.heap.size, 2, none⟩) Nr.out Nr2.out _).other (p := ⟨w.heap.size, 3, none⟩) Nr.out Nr2.out _
  have hBF : But p.pb w ((((w9.setCell ⟨w.heap.size, 0, none⟩ (.int .i64 2)).setCell ⟨w.heap.size, 1, none⟩ (.int .u64 0)).setCell ⟨w.heap.size, 2, none⟩ (.string (str a9))).setCell ⟨w.heap.size, 3, none⟩ (.slice none 0 0)) := (((BB.out.putNew (p := ⟨w.heap.size, 0, none⟩) (Nat.le_refl _) _).putNew (p := ⟨w.heap.size, 1, none⟩) (Nat.le_refl _) _).putNew (p := ⟨w.heap.size, 2, none⟩) (Nat.le_refl _) _).putNew (p := ⟨w.heap.size, 3, none⟩) (Nat.le_refl _) _
  have hFr : Fresh w.heap.size ((((w9.setCell ⟨w.heap.size, 0, none⟩ (.int .i64 2)).setCell ⟨w.heap.size, 1, none⟩ (.int .u64 0)).setCell ⟨w.heap.size, 2, none⟩ (.string (str a9))).setCell ⟨w.heap.size, 3, none⟩ (.slice none 0 0)).heap.size ((((w9.setCell ⟨w.heap.size, 0, none⟩ (.int .i64 2)).setCell ⟨w.heap.size, 1, none⟩ (.int .u64 0)).setCell ⟨w.heap.size, 2, none⟩ (.string (str a9))).setCell ⟨w.heap.size, 3, none⟩ (.slice none 0 0)) (fun W N => Ex.Ok W N (.mk 2 0 a9 .nil) none) := by
    exact fun W _ => ⟨Exs.In.nil _ _ _, show (0 : Nat) < 18446744073709551616 by decide⟩
  have HF := Lib.hid (And.intro hR (And.intro hSF (And.intro hBF hFr)))
  clear hR hSF hBF hFr
  go_wp2_with fail
  generalize (((w9.setCell ⟨w.heap.size, 0, none⟩ (.int .i64 2)).setCell ⟨w.heap.size, 1, none⟩ (.int .u64 0)).setCell ⟨w.heap.size, 2, none⟩ (.string (str a9))).setCell ⟨w.heap.size, 3, none⟩ (.slice none 0 0) = F at *
  refine leaves_cons (f := 162) (args := #[.pointer (some ⟨p.pb, 0, none⟩)]) (by simp) (by simp [go_sem]) ?_
  refine (done_any p.pb p.tb p.tf p.tc k9 d p.ts _ _ HF.out.2.1 (by have := HD.out; omega)).mono ?_
  rintro e u w9 ⟨rfl, rfl, hP, hB⟩
  have hF := (hB.block _ (Array.getElem?_eq_some_iff.1 HF.out.1).1 Nr.out).trans HF.out.1
  have y0 := cell_blk hF (j := 0) rfl
  have y1 := cell_blk hF (j := 1) rfl
  have y2 := cell_blk hF (j := 2) rfl
  have y3 := cell_blk hF (j := 3) rfl
  refine ⟨.agg #[.int .i64 2, .int .u64 0, .string (str a9), .slice none 0 0], ?_, .ok k9 (.mk 2 0 a9 .nil) (none, 0) (by rw [← HG.out]; first | rfl | simp only [R9.out, Res.bind_ok] | trace_state) SS.out.2 hP (HF.out.2.2.1.trans hB) rfl ?_⟩
  · simp [results, Tryz.results100, go_sem, y0, y1, y2, y3]
  · exact (HF.out.2.2.2.but hB PB.out (Nat.le_refl _)).fin (Nat.le_refl _) hB.size (fun W h => Ex.Ok.up h hB.size)
end Go.Proofs.YtchbnkepmeelkaaGreatDoor
