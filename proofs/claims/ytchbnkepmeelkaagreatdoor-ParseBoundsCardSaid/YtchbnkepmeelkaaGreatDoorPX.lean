/- Parameters within parentheses; variables; regions. -/
import Derived.Test.YtchbnkepmeelkaaGreatDoorPU
namespace Go.Proofs.YtchbnkepmeelkaaGreatDoor
open Go.RowKit
set_option maxRecDepth 100000 in
set_option maxHeartbeats 3200000 in
theorem region_p (p : Pp) (k d : Nat) (w : World) (h : Ps w p.pb p.tb p.tf p.tc p.ts k d) (hk : k < p.ts.length) (hE : Ends p.ts) :
    Calls Tryz.prog 88 #[.pointer (some ⟨p.pb, 0, none⟩)] w (Post RRgn (regionP (p.ts.drop k)) p d w) := by
  have hpb := h.lt_pb
  have CR := Lib.hid (fun (k : Nat) (w : World) (h : Ps w p.pb p.tb p.tf p.tc p.ts k d) (hk : k < p.ts.length) => want_p wRegion p k d w h hk hE (by decide))
  have CN := Lib.hid (fun (k : Nat) (w : World) (h : Ps w p.pb p.tb p.tf p.tc p.ts k d) (hk : k < p.ts.length) => name_p p k d w h hk hE)
  have CZ := Lib.hid (fun (k : Nat) (w : World) (h : Ps w p.pb p.tb p.tf p.tc p.ts k d) (hk : k < p.ts.length) => size_p p k d w h hk hE)
  have CT := Lib.hid (fun (k : Nat) (w : World) (h : Ps w p.pb p.tb p.tf p.tc p.ts k d) (hk : k < p.ts.length) => take_p wSecret (by decide) p k d w h hk hE)
  have CW := Lib.hid (fun (k : Nat) (w : World) (h : Ps w p.pb p.tb p.tf p.tc p.ts k d) (hk : k < p.ts.length) => want_p [59] p k d w h hk hE (by decide))
  obtain ⟨W0, hW0⟩ : ∃ W0, w.alloc (.cells #[.string ⟨#[]⟩, .int .i64 0, .int .i64 0, .bool false] 78) = W0 := ⟨_, rfl⟩
  have hB0 : Below w.heap.size w W0 := by rw [← hW0]; exact (Below.refl _ _).alloc (Nat.le_refl _) _
  have Kr := Lib.hid (show W0.heap[w.heap.size]? = some (.cells #[.string ⟨#[]⟩, .int .i64 0, .int .i64 0, .bool false] 78 (0, 0)) by rw [← hW0]; exact heap_alloc_new w _)
  have Nr := Lib.hid (Nat.ne_of_gt hpb)
  have Nr2 := Lib.hid (Nat.ne_of_gt h.lt)
  have BB := Lib.hid (But.of_below (g := p.pb) hB0)
  have SS := Lib.hid (And.intro (h.later hB0) hk)
  clear hB0
  have PB := Lib.hid hpb
  clear h hk hE hpb
  generalize hG : (regionP (p.ts.drop k)) = G
  unfold regionP at hG
  have HG := Lib.hid hG
  clear hG
  go_enter Tryz.func88, Tryz.ntmps88
  go_wp2_with fail
  try rw [hW0]
  clear hW0
  obtain ⟨Av, hAv⟩ : ∃ A, W0.alloc (.cells #[.string ⟨#[]⟩, .int .i64 0, .int .i64 0, .bool false] 78) = A := ⟨_, rfl⟩
  have VV := Lib.hid (show w.heap.size < W0.heap.size from (Array.getElem?_eq_some_iff.1 Kr.out).1)
  have hBA : Below W0.heap.size W0 Av := by rw [← hAv]; exact (Below.refl _ _).alloc (Nat.le_refl _) _
  replace Kr := Lib.hid ((hBA.block _ (Array.getElem?_eq_some_iff.1 Kr.out).1).trans Kr.out)
  have Kv := Lib.hid (show Av.heap[W0.heap.size]? = some (.cells #[.string ⟨#[]⟩, .int .i64 0, .int .i64 0, .bool false] 78 (0, 0)) by rw [← hAv]; exact heap_alloc_new W0 _)
  have Nv := Lib.hid (Nat.ne_of_gt SS.out.1.lt_pb)
  have Tv := Lib.hid (Nat.ne_of_gt SS.out.1.lt)
  have Mv := Lib.hid (show w.heap.size ≤ W0.heap.size from BB.out.size)
  have Vv := Lib.hid (show w.heap.size < W0.heap.size from VV.out)
  replace SS := Lib.hid (And.intro (SS.out.1.later hBA) SS.out.2)
  replace BB := Lib.hid (BB.out.trans (But.of_below hBA))
  clear hBA
  have HAv := Lib.hid hAv
  clear hAv
  go_wp2_with fail
  try rw [HAv.out]
  clear HAv
  refine (CR.out k Av SS.out.1 SS.out.2).mono ?_
  intro z w1 hc
  rcases hc with ⟨k1, a1, s1, hr, hkk, hp, hb, hz, hR⟩ | ⟨k1, e1, t1, hr, hp, hb, hz⟩
  rotate_left
  · subst hz
    have HN := Lib.hid (show Post RRgn G p d w (WrongIs (e1 : Int) t1) w1 from .no k1 e1 t1 (by rw [← HG.out]; simp only [hr, Res.bind_no]) hp (BB.out.trans hb) rfl)
    clear hr hp hb
    unfold WrongIs
    go_wp2_with fail
    exact ⟨rfl, HN.out⟩
  replace Kr := Lib.hid ((hb.block _ (Array.getElem?_eq_some_iff.1 Kr.out).1 Nr.out).trans Kr.out)
  replace Kv := Lib.hid ((hb.block _ (Array.getElem?_eq_some_iff.1 Kv.out).1 Nv.out).trans Kv.out)
  obtain rfl : z = .returned (.tuple #[]) := hz
  have R1 := Lib.hid hr
  replace SS := Lib.hid (And.intro hp hkk)
  replace BB := Lib.hid (BB.out.trans hb)
  clear hr hkk hp hb hR
  go_wp2_with fail
  have Va2 := Lib.hid (show w.heap.size < w1.heap.size from (Array.getElem?_eq_some_iff.1 Kr.out).1)
  have Uva2 := Lib.hid (show W0.heap.size < w1.heap.size from (Array.getElem?_eq_some_iff.1 Kv.out).1)
  refine (CN.out k1 w1 SS.out.1 SS.out.2).mono ?_
  intro z w2 hc
  rcases hc with ⟨k2, a2, s2, hr, hkk, hp, hb, hz, hR⟩ | ⟨k2, e2, t2, hr, hp, hb, hz⟩
  rotate_left
  · subst hz
    have HN := Lib.hid (show Post RRgn G p d w (WrongIs (e2 : Int) t2) w2 from .no k2 e2 t2 (by rw [← HG.out]; simp only [R1.out, hr, Res.bind_ok, Res.bind_no]) hp (BB.out.trans hb) rfl)
    clear hr hp hb
    unfold WrongIs
    go_wp2_with fail
    exact ⟨rfl, HN.out⟩
  replace Kr := Lib.hid ((hb.block _ (Array.getElem?_eq_some_iff.1 Kr.out).1 Nr.out).trans Kr.out)
  replace Kv := Lib.hid ((hb.block _ (Array.getElem?_eq_some_iff.1 Kv.out).1 Nv.out).trans Kv.out)
  obtain rfl : z = .returned (.string (str a2)) := hz
  have R2 := Lib.hid hr
  replace SS := Lib.hid (And.intro hp hkk)
  replace BB := Lib.hid (BB.out.trans hb)
  clear hr hkk hp hb hR
  have u3 := cell_blk Kv.out (j := 0) rfl
  have v3 : w2.frozen? ⟨W0.heap.size, 0, none⟩ = false := by simp [World.frozen?, Kv.out]
  obtain ⟨E3, hE3⟩ : ∃ E, w2.setCell ⟨W0.heap.size, 0, none⟩ (.string (str a2)) = E := ⟨_, rfl⟩
  have hEo : ∀ j, j ≠ W0.heap.size → E3.heap[j]? = w2.heap[j]? := fun j hj => by rw [← hE3]; exact Below.heap_setCell w2 _ _ _ hj
  have hEz : E3.heap.size = w2.heap.size := by rw [← hE3]; simp [World.setCell]
  have hEk : E3.heap[W0.heap.size]? = some (.cells #[.string (str a2), .int .i64 0, .int .i64 0, .bool false] 78 (0, 0)) := by rw [← hE3, setCell_eq_setRow _ _ _ _ 78 (0, 0) _ Kv.out]; exact setRow_heap _ _ _ _ 78 (0, 0) Kv.out
  replace Kr := Lib.hid ((hEo _ (Nat.ne_of_lt Vv.out)).trans Kr.out)
  replace Kv := Lib.hid hEk
  have hSo := SS.out.1.other (p := ⟨W0.heap.size, 0, none⟩) Nv.out Tv.out (.string (str a2))
  have hBo := BB.out.putNew (p := ⟨W0.heap.size, 0, none⟩) Mv.out (.string (str a2))
  rw [hE3] at hSo hBo
  replace SS := Lib.hid (And.intro hSo SS.out.2)
  replace BB := Lib.hid hBo
  clear hEo hEz hEk hSo hBo
  go_wp2_with fail
  try rw [hE3]
  clear hE3 u3 v3
  have Va4 := Lib.hid (show w.heap.size < E3.heap.size from (Array.getElem?_eq_some_iff.1 Kr.out).1)
  have Uva4 := Lib.hid (show W0.heap.size < E3.heap.size from (Array.getElem?_eq_some_iff.1 Kv.out).1)
  refine (CZ.out k2 E3 SS.out.1 SS.out.2).mono ?_
  intro z w4 hc
  rcases hc with ⟨k4, a4, s4, hr, hkk, hp, hb, hz, hR⟩ | ⟨k4, e4, t4, hr, hp, hb, hz⟩
  rotate_left
  · subst hz
    have HN := Lib.hid (show Post RRgn G p d w (WrongIs (e4 : Int) t4) w4 from .no k4 e4 t4 (by rw [← HG.out]; simp only [R1.out, R2.out, hr, Res.bind_ok, Res.bind_no]) hp (BB.out.trans hb) rfl)
    clear hr hp hb
    unfold WrongIs
    go_wp2_with fail
    exact ⟨rfl, HN.out⟩
  replace Kr := Lib.hid ((hb.block _ (Array.getElem?_eq_some_iff.1 Kr.out).1 Nr.out).trans Kr.out)
  replace Kv := Lib.hid ((hb.block _ (Array.getElem?_eq_some_iff.1 Kv.out).1 Nv.out).trans Kv.out)
  obtain rfl : z = .returned (.int .i64 (a4 : Int)) := hz
  have R4 := Lib.hid hr
  replace SS := Lib.hid (And.intro hp hkk)
  replace BB := Lib.hid (BB.out.trans hb)
  clear hr hkk hp hb hR
  have u5 := cell_blk Kv.out (j := 1) rfl
  have v5 : w4.frozen? ⟨W0.heap.size, 1, none⟩ = false := by simp [World.frozen?, Kv.out]
  obtain ⟨E5, hE5⟩ : ∃ E, w4.setCell ⟨W0.heap.size, 1, none⟩ (.int .i64 (a4 : Int)) = E := ⟨_, rfl⟩
  have hEo : ∀ j, j ≠ W0.heap.size → E5.heap[j]? = w4.heap[j]? := fun j hj => by rw [← hE5]; exact Below.heap_setCell w4 _ _ _ hj
  have hEz : E5.heap.size = w4.heap.size := by rw [← hE5]; simp [World.setCell]
  have hEk : E5.heap[W0.heap.size]? = some (.cells #[.string (str a2), .int .i64 (a4 : Int), .int .i64 0, .bool false] 78 (0, 0)) := by rw [← hE5, setCell_eq_setRow _ _ _ _ 78 (0, 0) _ Kv.out]; exact setRow_heap _ _ _ _ 78 (0, 0) Kv.out
  replace Kr := Lib.hid ((hEo _ (Nat.ne_of_lt Vv.out)).trans Kr.out)
  replace Kv := Lib.hid hEk
  have hSo := SS.out.1.other (p := ⟨W0.heap.size, 1, none⟩) Nv.out Tv.out (.int .i64 (a4 : Int))
  have hBo := BB.out.putNew (p := ⟨W0.heap.size, 1, none⟩) Mv.out (.int .i64 (a4 : Int))
  rw [hE5] at hSo hBo
  replace SS := Lib.hid (And.intro hSo SS.out.2)
  replace BB := Lib.hid hBo
  clear hEo hEz hEk hSo hBo
  go_wp2_with fail
  try rw [hE5]
  clear hE5 u5 v5
  have Va6 := Lib.hid (show w.heap.size < E5.heap.size from (Array.getElem?_eq_some_iff.1 Kr.out).1)
  have Uva6 := Lib.hid (show W0.heap.size < E5.heap.size from (Array.getElem?_eq_some_iff.1 Kv.out).1)
  refine (CZ.out k4 E5 SS.out.1 SS.out.2).mono ?_
  intro z w6 hc
  rcases hc with ⟨k6, a6, s6, hr, hkk, hp, hb, hz, hR⟩ | ⟨k6, e6, t6, hr, hp, hb, hz⟩
  rotate_left
  · subst hz
    have HN := Lib.hid (show Post RRgn G p d w (WrongIs (e6 : Int) t6) w6 from .no k6 e6 t6 (by rw [← HG.out]; simp only [R1.out, R2.out, R4.out, hr, Res.bind_ok, Res.bind_no]) hp (BB.out.trans hb) rfl)
    clear hr hp hb
    unfold WrongIs
    go_wp2_with fail
    exact ⟨rfl, HN.out⟩
  replace Kr := Lib.hid ((hb.block _ (Array.getElem?_eq_some_iff.1 Kr.out).1 Nr.out).trans Kr.out)
  replace Kv := Lib.hid ((hb.block _ (Array.getElem?_eq_some_iff.1 Kv.out).1 Nv.out).trans Kv.out)
  obtain rfl : z = .returned (.int .i64 (a6 : Int)) := hz
  have R6 := Lib.hid hr
  replace SS := Lib.hid (And.intro hp hkk)
  replace BB := Lib.hid (BB.out.trans hb)
  clear hr hkk hp hb hR
  have u7 := cell_blk Kv.out (j := 2) rfl
  have v7 : w6.frozen? ⟨W0.heap.size, 2, none⟩ = false := by simp [World.frozen?, Kv.out]
  obtain ⟨E7, hE7⟩ : ∃ E, w6.setCell ⟨W0.heap.size, 2, none⟩ (.int .i64 (a6 : Int)) = E := ⟨_, rfl⟩
  have hEo : ∀ j, j ≠ W0.heap.size → E7.heap[j]? = w6.heap[j]? := fun j hj => by rw [← hE7]; exact Below.heap_setCell w6 _ _ _ hj
  have hEz : E7.heap.size = w6.heap.size := by rw [← hE7]; simp [World.setCell]
  have hEk : E7.heap[W0.heap.size]? = some (.cells #[.string (str a2), .int .i64 (a4 : Int), .int .i64 (a6 : Int), .bool false] 78 (0, 0)) := by rw [← hE7, setCell_eq_setRow _ _ _ _ 78 (0, 0) _ Kv.out]; exact setRow_heap _ _ _ _ 78 (0, 0) Kv.out
  replace Kr := Lib.hid ((hEo _ (Nat.ne_of_lt Vv.out)).trans Kr.out)
  replace Kv := Lib.hid hEk
  have hSo := SS.out.1.other (p := ⟨W0.heap.size, 2, none⟩) Nv.out Tv.out (.int .i64 (a6 : Int))
  have hBo := BB.out.putNew (p := ⟨W0.heap.size, 2, none⟩) Mv.out (.int .i64 (a6 : Int))
  rw [hE7] at hSo hBo
  replace SS := Lib.hid (And.intro hSo SS.out.2)
  replace BB := Lib.hid hBo
  clear hEo hEz hEk hSo hBo
  go_wp2_with fail
  try rw [hE7]
  clear hE7 u7 v7
  refine (CT.out k6 E7 SS.out.1 SS.out.2).mono ?_
  rintro z w8 ⟨k8, b8, hr, rfl, hp, hb, hkk⟩
  replace Kr := Lib.hid ((hb.block _ (Array.getElem?_eq_some_iff.1 Kr.out).1 Nr.out).trans Kr.out)
  replace Kv := Lib.hid ((hb.block _ (Array.getElem?_eq_some_iff.1 Kv.out).1 Nv.out).trans Kv.out)
  have R8 := Lib.hid hr
  replace SS := Lib.hid (And.intro hp hkk)
  replace BB := Lib.hid (BB.out.trans hb)
  clear hr hkk hp hb
  have u9 := cell_blk Kv.out (j := 3) rfl
  have v9 : w8.frozen? ⟨W0.heap.size, 3, none⟩ = false := by simp [World.frozen?, Kv.out]
  obtain ⟨E9, hE9⟩ : ∃ E, w8.setCell ⟨W0.heap.size, 3, none⟩ (.bool b8) = E := ⟨_, rfl⟩
  have hEo : ∀ j, j ≠ W0.heap.size → E9.heap[j]? = w8.heap[j]? := fun j hj => by rw [← hE9]; exact Below.heap_setCell w8 _ _ _ hj
  have hEz : E9.heap.size = w8.heap.size := by rw [← hE9]; simp [World.setCell]
  have hEk : E9.heap[W0.heap.size]? = some (.cells #[.string (str a2), .int .i64 (a4 : Int), .int .i64 (a6 : Int), .bool b8] 78 (0, 0)) := by rw [← hE9, setCell_eq_setRow _ _ _ _ 78 (0, 0) _ Kv.out]; exact setRow_heap _ _ _ _ 78 (0, 0) Kv.out
  replace Kr := Lib.hid ((hEo _ (Nat.ne_of_lt Vv.out)).trans Kr.out)
  replace Kv := Lib.hid hEk
  have hSo := SS.out.1.other (p := ⟨W0.heap.size, 3, none⟩) Nv.out Tv.out (.bool b8)
  have hBo := BB.out.putNew (p := ⟨W0.heap.size, 3, none⟩) Mv.out (.bool b8)
  rw [hE9] at hSo hBo
  replace SS := Lib.hid (And.intro hSo SS.out.2)
  replace BB := Lib.hid hBo
  clear hEo hEz hEk hSo hBo
  go_wp2_with fail
  try rw [hE9]
  clear hE9 u9 v9
  refine (CW.out k8 E9 SS.out.1 SS.out.2).mono ?_
  intro z w10 hc
  rcases hc with ⟨k10, a10, s10, hr, hkk, hp, hb, hz, hR⟩ | ⟨k10, e10, t10, hr, hp, hb, hz⟩
  rotate_left
  · subst hz
    have HN := Lib.hid (show Post RRgn G p d w (WrongIs (e10 : Int) t10) w10 from .no k10 e10 t10 (by rw [← HG.out]; simp only [R1.out, R2.out, R4.out, R6.out, R8.out, hr, Res.bind_ok, Res.bind_no]) hp (BB.out.trans hb) rfl)
    clear hr hp hb
    unfold WrongIs
    go_wp2_with fail
    exact ⟨rfl, HN.out⟩
  replace Kr := Lib.hid ((hb.block _ (Array.getElem?_eq_some_iff.1 Kr.out).1 Nr.out).trans Kr.out)
  replace Kv := Lib.hid ((hb.block _ (Array.getElem?_eq_some_iff.1 Kv.out).1 Nv.out).trans Kv.out)
  obtain rfl : z = .returned (.tuple #[]) := hz
  have R10 := Lib.hid hr
  replace SS := Lib.hid (And.intro hp hkk)
  replace BB := Lib.hid (BB.out.trans hb)
  clear hr hkk hp hb hR
  have l0 := cell_blk Kv.out (j := 0) rfl
  have l1 := cell_blk Kv.out (j := 1) rfl
  have l2 := cell_blk Kv.out (j := 2) rfl
  have l3 := cell_blk Kv.out (j := 3) rfl
  have z0 := cell_blk Kr.out (j := 0) rfl
  have z1 := cell_blk Kr.out (j := 1) rfl
  have z2 := cell_blk Kr.out (j := 2) rfl
  have z3 := cell_blk Kr.out (j := 3) rfl
  have hf : ∀ j, w10.frozen? ⟨w.heap.size, j, none⟩ = false := fun j => by simp [World.frozen?, Kr.out]
  have f0 := hf 0
  have f1 := hf 1
  have f2 := hf 2
  have f3 := hf 3
  clear hf
  have HR := Lib.hid (set4 Kr.out (.string (str a2)) (.int .i64 (a4 : Int)) (.int .i64 (a6 : Int)) (.bool b8))
  go_wp2_with fail
  have hF := HR.out
  refine bodyPost_ret (v := .agg #[.string (str a2), .int .i64 (a4 : Int), .int .i64 (a6 : Int), .bool b8]) ?_ rfl ?_
  · have y0 := cell_blk hF (j := 0) rfl
    have y1 := cell_blk hF (j := 1) rfl
    have y2 := cell_blk hF (j := 2) rfl
    have y3 := cell_blk hF (j := 3) rfl
    generalize (((w10.setCell ⟨w.heap.size, 0, none⟩ (.string (str a2))).setCell ⟨w.heap.size, 1, none⟩ (.int .i64 (a4 : Int))).setCell ⟨w.heap.size, 2, none⟩ (.int .i64 (a6 : Int))).setCell ⟨w.heap.size, 3, none⟩ (.bool b8) = F at *
    simp [results, Tryz.results88, go_sem, y0, y1, y2, y3]
  · have hn1 : w.heap.size ≠ p.pb := Nr.out
    have hn2 : w.heap.size ≠ p.tb := Nr2.out
    refine .ok k10 ⟨a2, a4, a6, b8⟩ () (by rw [← HG.out]; first | rfl | simp only [R1.out, R2.out, R4.out, R6.out, R8.out, R10.out, Res.bind_ok] | trace_state) SS.out.2 ?_ ?_ rfl ?_
    · exact (((SS.out.1.other (p := ⟨w.heap.size, 0, none⟩) hn1 hn2 _).other (p := ⟨w.heap.size, 1, none⟩) hn1 hn2 _).other (p := ⟨w.heap.size, 2, none⟩) hn1 hn2 _).other (p := ⟨w.heap.size, 3, none⟩) hn1 hn2 _
    · exact (((BB.out.putNew (p := ⟨w.heap.size, 0, none⟩) (Nat.le_refl _) _).putNew (p := ⟨w.heap.size, 1, none⟩) (Nat.le_refl _) _).putNew (p := ⟨w.heap.size, 2, none⟩) (Nat.le_refl _) _).putNew (p := ⟨w.heap.size, 3, none⟩) (Nat.le_refl _) _
    · exact fun _ _ => trivial
end Go.Proofs.YtchbnkepmeelkaaGreatDoor
