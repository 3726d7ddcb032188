/- Rounds. -/
import Derived.Test.YtchbnkepmeelkaaGreatDoorPI
import Derived.Test.YtchbnkepmeelkaaGreatDoorPJ
namespace Go.Proofs.YtchbnkepmeelkaaGreatDoor
open Go.RowKit
set_option maxRecDepth 100000 in
set_option maxHeartbeats 3200000 in
theorem rounds_p (n : Nat) (p : Pp) (k d : Nat) (w : World) (h : Ps w p.pb p.tb p.tf p.tc p.ts k d) (hk : k < p.ts.length) (hE : Ends p.ts) (hW : Words p.ts) (HB : BlockC p n d) :
    Calls Tryz.prog 173 #[.pointer (some ⟨p.pb, 0, none⟩)] w (Post RStmt (roundsP n (p.ts.drop k)) p d w) := by
  have hpb := h.lt_pb
  have CB := Lib.hid (HB)
  have CN := Lib.hid (fun (k : Nat) (w : World) (h : Ps w p.pb p.tb p.tf p.tc p.ts k d) (hk : k < p.ts.length) => name_p p k d w h hk hE)
  have CU := Lib.hid (fun (k : Nat) (w : World) (h : Ps w p.pb p.tb p.tf p.tc p.ts k d) (hk : k < p.ts.length) => number_p p k d w h hk hE hW)
  obtain ⟨W0, hW0⟩ : ∃ W0, w.alloc (.cells #[.int .i64 0, .string ⟨#[]⟩, .slice none 0 0, .int .i64 0, .int .u64 0, .string ⟨#[]⟩, .slice none 0 0, .int .i64 0, .int .u64 0, .string ⟨#[]⟩, .slice none 0 0, .slice none 0 0, .int .u64 0, .int .u64 0, .slice none 0 0, .slice none 0 0] 69) = W0 := ⟨_, rfl⟩
  have hB0 : Below w.heap.size w W0 := by rw [← hW0]; exact (Below.refl _ _).alloc (Nat.le_refl _) _
  have Kr := Lib.hid (show W0.heap[w.heap.size]? = some (.cells #[.int .i64 0, .string ⟨#[]⟩, .slice none 0 0, .int .i64 0, .int .u64 0, .string ⟨#[]⟩, .slice none 0 0, .int .i64 0, .int .u64 0, .string ⟨#[]⟩, .slice none 0 0, .slice none 0 0, .int .u64 0, .int .u64 0, .slice none 0 0, .slice none 0 0] 69 (0, 0)) by rw [← hW0]; exact heap_alloc_new w _)
  have Nr := Lib.hid (Nat.ne_of_gt hpb)
  have Nr2 := Lib.hid (Nat.ne_of_gt h.lt)
  have BB := Lib.hid (But.of_below (g := p.pb) hB0)
  have SS := Lib.hid (And.intro (h.later hB0) hk)
  clear hB0
  have PB := Lib.hid hpb
  clear h hk hE hpb
  generalize hG : (roundsP n (p.ts.drop k)) = G
  unfold roundsP at hG
  have HG := Lib.hid hG
  clear hG
  go_enter Tryz.func173, Tryz.ntmps173
  go_wp2_with fail
  try rw [hW0]
  clear hW0
  have Va1 := Lib.hid (show w.heap.size < W0.heap.size from (Array.getElem?_eq_some_iff.1 Kr.out).1)
  refine (CN.out k W0 SS.out.1 SS.out.2).mono ?_
  intro z w1 hc
  rcases hc with ⟨k1, a1, s1, hr, hkk, hp, hb, hz, hR⟩ | ⟨k1, e1, t1, hr, hp, hb, hz⟩
  rotate_left
  · subst hz
    have HN := Lib.hid (show Post RStmt G p d w (WrongIs (e1 : Int) t1) w1 from .no k1 e1 t1 (by rw [← HG.out]; simp only [hr, Res.bind_no]) hp (BB.out.trans hb) rfl)
    clear hr hp hb
    unfold WrongIs
    go_wp2_with fail
    exact ⟨rfl, HN.out⟩
  replace Kr := Lib.hid ((hb.block _ (Array.getElem?_eq_some_iff.1 Kr.out).1 Nr.out).trans Kr.out)
  obtain rfl : z = .returned (.string (str a1)) := hz
  have R1 := Lib.hid hr
  replace SS := Lib.hid (And.intro hp hkk)
  replace BB := Lib.hid (BB.out.trans hb)
  clear hr hkk hp hb hR
  obtain ⟨Ae, hAe⟩ : ∃ A, w1.alloc (.cells #[.int .i64 5, .string (str a1), .slice none 0 0, .int .i64 0, .int .u64 0, .string ⟨#[]⟩, .slice none 0 0, .int .i64 0, .int .u64 0, .string ⟨#[]⟩, .slice none 0 0, .slice none 0 0, .int .u64 0, .int .u64 0, .slice none 0 0, .slice none 0 0] 69) = A := ⟨_, rfl⟩
  have VV := Lib.hid (show w.heap.size < w1.heap.size from (Array.getElem?_eq_some_iff.1 Kr.out).1)
  have hBA : Below w1.heap.size w1 Ae := by rw [← hAe]; exact (Below.refl _ _).alloc (Nat.le_refl _) _
  replace Kr := Lib.hid ((hBA.block _ (Array.getElem?_eq_some_iff.1 Kr.out).1).trans Kr.out)
  have Ke := Lib.hid (show Ae.heap[w1.heap.size]? = some (.cells #[.int .i64 5, .string (str a1), .slice none 0 0, .int .i64 0, .int .u64 0, .string ⟨#[]⟩, .slice none 0 0, .int .i64 0, .int .u64 0, .string ⟨#[]⟩, .slice none 0 0, .slice none 0 0, .int .u64 0, .int .u64 0, .slice none 0 0, .slice none 0 0] 69 (0, 0)) by rw [← hAe]; exact heap_alloc_new w1 _)
  have Ne := Lib.hid (Nat.ne_of_gt SS.out.1.lt_pb)
  have Te := Lib.hid (Nat.ne_of_gt SS.out.1.lt)
  have Me := Lib.hid (show w.heap.size ≤ w1.heap.size from BB.out.size)
  have Ve := Lib.hid (show w.heap.size < w1.heap.size from VV.out)
  replace SS := Lib.hid (And.intro (SS.out.1.later hBA) SS.out.2)
  replace BB := Lib.hid (BB.out.trans (But.of_below hBA))
  clear hBA
  have HAe := Lib.hid hAe
  clear hAe
  go_wp2_with (refine wpl_store_new rfl 69 _ _ rfl _ _ _ rfl rfl rfl infoSt rfl ?_)
  rw [HAe.out]
  clear HAe
  have Va2 := Lib.hid (show w.heap.size < Ae.heap.size from (Array.getElem?_eq_some_iff.1 Kr.out).1)
  have Uea2 := Lib.hid (show w1.heap.size < Ae.heap.size from (Array.getElem?_eq_some_iff.1 Ke.out).1)
  refine (CU.out k1 Ae SS.out.1 SS.out.2).mono ?_
  intro z w2 hc
  rcases hc with ⟨k2, a2, s2, hr, hkk, hp, hb, hz, hR⟩ | ⟨k2, e2, t2, hr, hp, hb, hz⟩
  rotate_left
  · subst hz
    have HN := Lib.hid (show Post RStmt G p d w (WrongIs (e2 : Int) t2) w2 from .no k2 e2 t2 (by rw [← HG.out]; simp only [R1.out, hr, Res.bind_ok, Res.bind_no]) hp (BB.out.trans hb) rfl)
    clear hr hp hb
    unfold WrongIs
    go_wp2_with fail
    exact ⟨rfl, HN.out⟩
  replace Kr := Lib.hid ((hb.block _ (Array.getElem?_eq_some_iff.1 Kr.out).1 Nr.out).trans Kr.out)
  replace Ke := Lib.hid ((hb.block _ (Array.getElem?_eq_some_iff.1 Ke.out).1 Ne.out).trans Ke.out)
  have HQ2 := Lib.hid (show a2 < 18446744073709551616 from hR _ (Agr.refl (Nat.le_refl _)))
  obtain rfl : z = .returned (.int .u64 (a2 : Int)) := hz
  have R2 := Lib.hid hr
  replace SS := Lib.hid (And.intro hp hkk)
  replace BB := Lib.hid (BB.out.trans hb)
  clear hr hkk hp hb hR
  have u3 := cell_blk Ke.out (j := 12) rfl
  have v3 : w2.frozen? ⟨w1.heap.size, 12, none⟩ = false := by simp [World.frozen?, Ke.out]
  obtain ⟨E3, hE3⟩ : ∃ E, w2.setCell ⟨w1.heap.size, 12, none⟩ (.int .u64 (a2 : Int)) = E := ⟨_, rfl⟩
  have hEo : ∀ j, j ≠ w1.heap.size → E3.heap[j]? = w2.heap[j]? := fun j hj => by rw [← hE3]; exact Below.heap_setCell w2 _ _ _ hj
  have hEz : E3.heap.size = w2.heap.size := by rw [← hE3]; simp [World.setCell]
  have hEk : E3.heap[w1.heap.size]? = some (.cells #[.int .i64 5, .string (str a1), .slice none 0 0, .int .i64 0, .int .u64 0, .string ⟨#[]⟩, .slice none 0 0, .int .i64 0, .int .u64 0, .string ⟨#[]⟩, .slice none 0 0, .slice none 0 0, .int .u64 (a2 : Int), .int .u64 0, .slice none 0 0, .slice none 0 0] 69 (0, 0)) := by rw [← hE3, setCell_eq_setRow _ _ _ _ 69 (0, 0) _ Ke.out]; exact setRow_heap _ _ _ _ 69 (0, 0) Ke.out
  replace Kr := Lib.hid ((hEo _ (Nat.ne_of_lt Ve.out)).trans Kr.out)
  replace Ke := Lib.hid hEk
  have hSo := SS.out.1.other (p := ⟨w1.heap.size, 12, none⟩) Ne.out Te.out (.int .u64 (a2 : Int))
  have hBo := BB.out.putNew (p := ⟨w1.heap.size, 12, none⟩) Me.out (.int .u64 (a2 : Int))
  rw [hE3] at hSo hBo
  replace SS := Lib.hid (And.intro hSo SS.out.2)
  replace BB := Lib.hid hBo
  clear hEo hEz hEk hSo hBo
  go_wp2_with fail
  try rw [hE3]
  clear hE3 u3 v3
  have Va4 := Lib.hid (show w.heap.size < E3.heap.size from (Array.getElem?_eq_some_iff.1 Kr.out).1)
  have Uea4 := Lib.hid (show w1.heap.size < E3.heap.size from (Array.getElem?_eq_some_iff.1 Ke.out).1)
  refine (CU.out k2 E3 SS.out.1 SS.out.2).mono ?_
  intro z w4 hc
  rcases hc with ⟨k4, a4, s4, hr, hkk, hp, hb, hz, hR⟩ | ⟨k4, e4, t4, hr, hp, hb, hz⟩
  rotate_left
  · subst hz
    have HN := Lib.hid (show Post RStmt G p d w (WrongIs (e4 : Int) t4) w4 from .no k4 e4 t4 (by rw [← HG.out]; simp only [R1.out, R2.out, hr, Res.bind_ok, Res.bind_no]) hp (BB.out.trans hb) rfl)
    clear hr hp hb
    unfold WrongIs
    go_wp2_with fail
    exact ⟨rfl, HN.out⟩
  replace Kr := Lib.hid ((hb.block _ (Array.getElem?_eq_some_iff.1 Kr.out).1 Nr.out).trans Kr.out)
  replace Ke := Lib.hid ((hb.block _ (Array.getElem?_eq_some_iff.1 Ke.out).1 Ne.out).trans Ke.out)
  have HQ4 := Lib.hid (show a4 < 18446744073709551616 from hR _ (Agr.refl (Nat.le_refl _)))
  obtain rfl : z = .returned (.int .u64 (a4 : Int)) := hz
  have R4 := Lib.hid hr
  replace SS := Lib.hid (And.intro hp hkk)
  replace BB := Lib.hid (BB.out.trans hb)
  clear hr hkk hp hb hR
  have u5 := cell_blk Ke.out (j := 13) rfl
  have v5 : w4.frozen? ⟨w1.heap.size, 13, none⟩ = false := by simp [World.frozen?, Ke.out]
  obtain ⟨E5, hE5⟩ : ∃ E, w4.setCell ⟨w1.heap.size, 13, none⟩ (.int .u64 (a4 : Int)) = E := ⟨_, rfl⟩
  have hEo : ∀ j, j ≠ w1.heap.size → E5.heap[j]? = w4.heap[j]? := fun j hj => by rw [← hE5]; exact Below.heap_setCell w4 _ _ _ hj
  have hEz : E5.heap.size = w4.heap.size := by rw [← hE5]; simp [World.setCell]
  have hEk : E5.heap[w1.heap.size]? = some (.cells #[.int .i64 5, .string (str a1), .slice none 0 0, .int .i64 0, .int .u64 0, .string ⟨#[]⟩, .slice none 0 0, .int .i64 0, .int .u64 0, .string ⟨#[]⟩, .slice none 0 0, .slice none 0 0, .int .u64 (a2 : Int), .int .u64 (a4 : Int), .slice none 0 0, .slice none 0 0] 69 (0, 0)) := by rw [← hE5, setCell_eq_setRow _ _ _ _ 69 (0, 0) _ Ke.out]; exact setRow_heap _ _ _ _ 69 (0, 0) Ke.out
  replace Kr := Lib.hid ((hEo _ (Nat.ne_of_lt Ve.out)).trans Kr.out)
  replace Ke := Lib.hid hEk
  have hSo := SS.out.1.other (p := ⟨w1.heap.size, 13, none⟩) Ne.out Te.out (.int .u64 (a4 : Int))
  have hBo := BB.out.putNew (p := ⟨w1.heap.size, 13, none⟩) Me.out (.int .u64 (a4 : Int))
  rw [hE5] at hSo hBo
  replace SS := Lib.hid (And.intro hSo SS.out.2)
  replace BB := Lib.hid hBo
  clear hEo hEz hEk hSo hBo
  go_wp2_with fail
  try rw [hE5]
  clear hE5 u5 v5
  have Va6 := Lib.hid (show w.heap.size < E5.heap.size from (Array.getElem?_eq_some_iff.1 Kr.out).1)
  have Uea6 := Lib.hid (show w1.heap.size < E5.heap.size from (Array.getElem?_eq_some_iff.1 Ke.out).1)
  refine (CB.out k4 E5 SS.out.1 SS.out.2).mono ?_
  intro z w6 hc
  rcases hc with ⟨k6, a6, s6, hr, hkk, hp, hb, hz, hR⟩ | ⟨k6, e6, t6, hr, hp, hb, hz⟩
  rotate_left
  · subst hz
    have HN := Lib.hid (show Post RStmt G p d w (WrongIs (e6 : Int) t6) w6 from .no k6 e6 t6 (by rw [← HG.out]; simp only [R1.out, R2.out, R4.out, hr, Res.bind_ok, Res.bind_no]) hp (BB.out.trans hb) rfl)
    clear hr hp hb
    unfold WrongIs
    go_wp2_with fail
    exact ⟨rfl, HN.out⟩
  replace Kr := Lib.hid ((hb.block _ (Array.getElem?_eq_some_iff.1 Kr.out).1 Nr.out).trans Kr.out)
  replace Ke := Lib.hid ((hb.block _ (Array.getElem?_eq_some_iff.1 Ke.out).1 Ne.out).trans Ke.out)
  obtain ⟨qa6, ca6⟩ := s6
  obtain rfl : z = .returned (.slice qa6 a6.len ca6) := hz
  have Fa6 := Lib.hid (show Fresh E5.heap.size w6.heap.size w6 (fun W N => a6.In W N qa6) from hR)
  have Ga6 := Lib.hid SS.out.1.lt_pb
  have Za6 := Lib.hid (Nat.le_refl w6.heap.size)
  have Ya6 := Lib.hid (show w.heap.size ≤ E5.heap.size from BB.out.size)
  have R6 := Lib.hid hr
  replace SS := Lib.hid (And.intro hp hkk)
  replace BB := Lib.hid (BB.out.trans hb)
  clear hr hkk hp hb hR
  have u7 := cell_blk Ke.out (j := 14) rfl
  have v7 : w6.frozen? ⟨w1.heap.size, 14, none⟩ = false := by simp [World.frozen?, Ke.out]
  obtain ⟨E7, hE7⟩ : ∃ E, w6.setCell ⟨w1.heap.size, 14, none⟩ (.slice qa6 a6.len ca6) = E := ⟨_, rfl⟩
  have hEo : ∀ j, j ≠ w1.heap.size → E7.heap[j]? = w6.heap[j]? := fun j hj => by rw [← hE7]; exact Below.heap_setCell w6 _ _ _ hj
  have hEz : E7.heap.size = w6.heap.size := by rw [← hE7]; simp [World.setCell]
  have hEk : E7.heap[w1.heap.size]? = some (.cells #[.int .i64 5, .string (str a1), .slice none 0 0, .int .i64 0, .int .u64 0, .string ⟨#[]⟩, .slice none 0 0, .int .i64 0, .int .u64 0, .string ⟨#[]⟩, .slice none 0 0, .slice none 0 0, .int .u64 (a2 : Int), .int .u64 (a4 : Int), .slice qa6 a6.len ca6, .slice none 0 0] 69 (0, 0)) := by rw [← hE7, setCell_eq_setRow _ _ _ _ 69 (0, 0) _ Ke.out]; exact setRow_heap _ _ _ _ 69 (0, 0) Ke.out
  replace Kr := Lib.hid ((hEo _ (Nat.ne_of_lt Ve.out)).trans Kr.out)
  replace Ke := Lib.hid hEk
  replace Fa6 := Lib.hid (Fa6.out.to (Agr.at hEz hEo (by first | exact Or.inl Uea6.out | exact Or.inr Uea6.out) Za6.out))
  replace Za6 := Lib.hid (Nat.le_trans Za6.out (Nat.le_of_eq hEz.symm))
  have hSo := SS.out.1.other (p := ⟨w1.heap.size, 14, none⟩) Ne.out Te.out (.slice qa6 a6.len ca6)
  have hBo := BB.out.putNew (p := ⟨w1.heap.size, 14, none⟩) Me.out (.slice qa6 a6.len ca6)
  rw [hE7] at hSo hBo
  replace SS := Lib.hid (And.intro hSo SS.out.2)
  replace BB := Lib.hid hBo
  clear hEo hEz hEk hSo hBo
  go_upto_region 5 with fail
  try rw [hE7]
  clear hE7 u7 v7
  have hrz := (Array.getElem?_eq_some_iff.1 Kr.out).1
  have HRz := Lib.hid hrz
  clear hrz
  go_wp2_with (first | (refine wpl_load rfl 69 _ rfl (w1.heap.size) 0 rfl #[.int .i64 5, .string (str a1), .slice none 0 0, .int .i64 0, .int .u64 0, .string ⟨#[]⟩, .slice none 0 0, .int .i64 0, .int .u64 0, .string ⟨#[]⟩, .slice none 0 0, .slice none 0 0, .int .u64 (a2 : Int), .int .u64 (a4 : Int), .slice qa6 a6.len ca6, .slice none 0 0] _ (range_block Ke.out) Tryz.underlying69 rfl infoSt ?_) | (refine wpl_put rfl _ _ _ rfl rfl w.heap.size 0 (.agg #[.int .i64 5, .string (str a1), .slice none 0 0, .int .i64 0, .int .u64 0, .string ⟨#[]⟩, .slice none 0 0, .int .i64 0, .int .u64 0, .string ⟨#[]⟩, .slice none 0 0, .slice none 0 0, .int .u64 (a2 : Int), .int .u64 (a4 : Int), .slice qa6 a6.len ca6, .slice none 0 0]) rfl rfl _ _ Kr.out (by exact Nat.le_of_ble_eq_true rfl) infoSt rfl ?_; intro wF hF hbF hzF))
  have hG : wF.heap[w.heap.size]? = some (.cells #[.int .i64 5, .string (str a1), .slice none 0 0, .int .i64 0, .int .u64 0, .string ⟨#[]⟩, .slice none 0 0, .int .i64 0, .int .u64 0, .string ⟨#[]⟩, .slice none 0 0, .slice none 0 0, .int .u64 (a2 : Int), .int .u64 (a4 : Int), .slice qa6 a6.len ca6, .slice none 0 0] 69 (0, 0)) := hF.trans (congrArg (fun a => some (Obj.cells a 69 (0, 0))) (putA_all (cur := #[.int .i64 0, .string ⟨#[]⟩, .slice none 0 0, .int .i64 0, .int .u64 0, .string ⟨#[]⟩, .slice none 0 0, .int .i64 0, .int .u64 0, .string ⟨#[]⟩, .slice none 0 0, .slice none 0 0, .int .u64 0, .int .u64 0, .slice none 0 0, .slice none 0 0]) (vs := #[.int .i64 5, .string (str a1), .slice none 0 0, .int .i64 0, .int .u64 0, .string ⟨#[]⟩, .slice none 0 0, .int .i64 0, .int .u64 0, .string ⟨#[]⟩, .slice none 0 0, .slice none 0 0, .int .u64 (a2 : Int), .int .u64 (a4 : Int), .slice qa6 a6.len ca6, .slice none 0 0]) rfl))
  clear hF
  refine bodyPost_ret (v := .agg #[.int .i64 5, .string (str a1), .slice none 0 0, .int .i64 0, .int .u64 0, .string ⟨#[]⟩, .slice none 0 0, .int .i64 0, .int .u64 0, .string ⟨#[]⟩, .slice none 0 0, .slice none 0 0, .int .u64 (a2 : Int), .int .u64 (a4 : Int), .slice qa6 a6.len ca6, .slice none 0 0]) ?_ rfl ?_
  · have y0 := cell_blk hG (j := 0) rfl
    have y1 := cell_blk hG (j := 1) rfl
    have y2 := cell_blk hG (j := 2) rfl
    have y3 := cell_blk hG (j := 3) rfl
    have y4 := cell_blk hG (j := 4) rfl
    have y5 := cell_blk hG (j := 5) rfl
    have y6 := cell_blk hG (j := 6) rfl
    have y7 := cell_blk hG (j := 7) rfl
    have y8 := cell_blk hG (j := 8) rfl
    have y9 := cell_blk hG (j := 9) rfl
    have y10 := cell_blk hG (j := 10) rfl
    have y11 := cell_blk hG (j := 11) rfl
    have y12 := cell_blk hG (j := 12) rfl
    have y13 := cell_blk hG (j := 13) rfl
    have y14 := cell_blk hG (j := 14) rfl
    have y15 := cell_blk hG (j := 15) rfl
    simp [results, Tryz.results173, go_sem, y0, y1, y2, y3, y4, y5, y6, y7, y8, y9, y10, y11, y12, y13, y14, y15]
  · refine .ok k6 (.mk 5 a1 [] Z0 Z0 .nil a2 a4 a6 .nil) ⟨none, none, none, none, qa6, none, 0, 0, 0, 0, ca6, 0⟩ (by rw [← HG.out]; first | rfl | simp only [R1.out, R2.out, R4.out, R6.out, Res.bind_ok] | trace_state) SS.out.2 (SS.out.1.aside hbF Nr.out Nr2.out) (BB.out.fin hbF (Nat.le_refl _)) rfl ?_
    intro W hW
    have oa6 := ((Fa6.out.asd hbF (by first | exact Or.inl Va6.out | exact Or.inr Va6.out) Za6.out).fin Ya6.out (Nat.le_trans Za6.out hbF.size) (fun W h => Sts.In.up h (Nat.le_trans Za6.out hbF.size))) W hW
    exact ⟨names_nil _ _ _, zero_ok _ _, zero_ok _ _, Exs.In.nil _ _ _, oa6, sts_nil _ _, HQ2.out, HQ4.out⟩
end Go.Proofs.YtchbnkepmeelkaaGreatDoor
