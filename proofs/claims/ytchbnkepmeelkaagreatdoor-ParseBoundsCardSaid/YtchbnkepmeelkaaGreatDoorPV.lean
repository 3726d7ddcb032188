/- Parameters within parentheses; variables; regions. -/
import Derived.Test.YtchbnkepmeelkaaGreatDoorPU
namespace Go.Proofs.YtchbnkepmeelkaaGreatDoor
open Go.RowKit
set_option maxRecDepth 100000 in
set_option maxHeartbeats 3200000 in
theorem variable_1 (p : Pp) (k d : Nat) (w : World) (h : Ps w p.pb p.tb p.tf p.tc p.ts k d) (hk : k < p.ts.length) (hE : Ends p.ts) (g0 : (hdT (p.ts.drop k)).text = wVar) :
    Calls Tryz.prog 156 #[.pointer (some ⟨p.pb, 0, none⟩)] w (Post RVar (varOfP 1 (p.ts.drop (k + 1))) p d w) := by
  have hpb := h.lt_pb
  have CN := Lib.hid (fun (k : Nat) (w : World) (h : Ps w p.pb p.tb p.tf p.tc p.ts k d) (hk : k < p.ts.length) => name_p p k d w h hk hE)
  have CW := Lib.hid (fun (k : Nat) (w : World) (h : Ps w p.pb p.tb p.tf p.tc p.ts k d) (hk : k < p.ts.length) => want_p [59] p k d w h hk hE (by decide))
  have T0 := Lib.hid (fun (w : World) (h : Ps w p.pb p.tb p.tf p.tc p.ts k d) => take_yes wVar p k d w h hk g0)
  have HK1 := Lib.hid (hd_next hE hk (.inl (by rw [g0]; decide)))
  obtain ⟨W0, hW0⟩ : ∃ W0, w.alloc (.cells #[.string ⟨#[]⟩, .int .i64 0, .int .i64 0, .bool false] 108) = W0 := ⟨_, rfl⟩
  have hB0 : Below w.heap.size w W0 := by rw [← hW0]; exact (Below.refl _ _).alloc (Nat.le_refl _) _
  have Kr := Lib.hid (show W0.heap[w.heap.size]? = some (.cells #[.string ⟨#[]⟩, .int .i64 0, .int .i64 0, .bool false] 108 (0, 0)) by rw [← hW0]; exact heap_alloc_new w _)
  have Nr := Lib.hid (Nat.ne_of_gt hpb)
  have Nr2 := Lib.hid (Nat.ne_of_gt h.lt)
  have BB := Lib.hid (But.of_below (g := p.pb) hB0)
  have SS := Lib.hid (And.intro (h.later hB0) hk)
  clear hB0
  have PB := Lib.hid hpb
  clear h hk hE hpb g0
  generalize hG : (varOfP 1 (p.ts.drop (k + 1))) = G
  unfold varOfP at hG
  have HG := Lib.hid hG
  clear hG
  go_enter Tryz.func156, Tryz.ntmps156
  go_wp2_with fail
  try rw [hW0]
  clear hW0
  obtain ⟨Av, hAv⟩ : ∃ A, W0.alloc (.cells #[.string ⟨#[]⟩, .int .i64 0, .int .i64 0, .bool false] 108) = A := ⟨_, rfl⟩
  have VV := Lib.hid (show w.heap.size < W0.heap.size from (Array.getElem?_eq_some_iff.1 Kr.out).1)
  have hBA : Below W0.heap.size W0 Av := by rw [← hAv]; exact (Below.refl _ _).alloc (Nat.le_refl _) _
  replace Kr := Lib.hid ((hBA.block _ (Array.getElem?_eq_some_iff.1 Kr.out).1).trans Kr.out)
  have Kv := Lib.hid (show Av.heap[W0.heap.size]? = some (.cells #[.string ⟨#[]⟩, .int .i64 0, .int .i64 0, .bool false] 108 (0, 0)) by rw [← hAv]; exact heap_alloc_new W0 _)
  have Nv := Lib.hid (Nat.ne_of_gt SS.out.1.lt_pb)
  have Tv := Lib.hid (Nat.ne_of_gt SS.out.1.lt)
  have Mv := Lib.hid (show w.heap.size ≤ W0.heap.size from BB.out.size)
  have Vv := Lib.hid (show w.heap.size < W0.heap.size from VV.out)
  replace SS := Lib.hid (And.intro (SS.out.1.later hBA) SS.out.2)
  replace BB := Lib.hid (BB.out.trans (But.of_below hBA))
  clear hBA
  have HAv := Lib.hid hAv
  clear hAv
  go_wp2_with fail
  try rw [HAv.out]
  clear HAv
  refine (T0.out Av SS.out.1).mono ?_
  rintro z w1 ⟨rfl, hp, hb⟩
  replace Kr := Lib.hid ((hb.block _ (Array.getElem?_eq_some_iff.1 Kr.out).1 Nr.out).trans Kr.out)
  replace Kv := Lib.hid ((hb.block _ (Array.getElem?_eq_some_iff.1 Kv.out).1 Nv.out).trans Kv.out)
  replace SS := Lib.hid (And.intro hp HK1.out)
  replace BB := Lib.hid (BB.out.trans hb)
  clear hp hb
  have u2 := cell_blk Kv.out (j := 1) rfl
  have v2 : w1.frozen? ⟨W0.heap.size, 1, none⟩ = false := by simp [World.frozen?, Kv.out]
  obtain ⟨E2, hE2⟩ : ∃ E, w1.setCell ⟨W0.heap.size, 1, none⟩ (.int .i64 1) = E := ⟨_, rfl⟩
  have hEo : ∀ j, j ≠ W0.heap.size → E2.heap[j]? = w1.heap[j]? := fun j hj => by rw [← hE2]; exact Below.heap_setCell w1 _ _ _ hj
  have hEz : E2.heap.size = w1.heap.size := by rw [← hE2]; simp [World.setCell]
  have hEk : E2.heap[W0.heap.size]? = some (.cells #[.string ⟨#[]⟩, .int .i64 1, .int .i64 0, .bool false] 108 (0, 0)) := by rw [← hE2, setCell_eq_setRow _ _ _ _ 108 (0, 0) _ Kv.out]; exact setRow_heap _ _ _ _ 108 (0, 0) Kv.out
  replace Kr := Lib.hid ((hEo _ (Nat.ne_of_lt Vv.out)).trans Kr.out)
  replace Kv := Lib.hid hEk
  have hSo := SS.out.1.other (p := ⟨W0.heap.size, 1, none⟩) Nv.out Tv.out (.int .i64 1)
  have hBo := BB.out.putNew (p := ⟨W0.heap.size, 1, none⟩) Mv.out (.int .i64 1)
  rw [hE2] at hSo hBo
  replace SS := Lib.hid (And.intro hSo SS.out.2)
  replace BB := Lib.hid hBo
  clear hEo hEz hEk hSo hBo
  go_wp2_with fail
  try rw [hE2]
  clear hE2 u2 v2
  have Va3 := Lib.hid (show w.heap.size < E2.heap.size from (Array.getElem?_eq_some_iff.1 Kr.out).1)
  have Uva3 := Lib.hid (show W0.heap.size < E2.heap.size from (Array.getElem?_eq_some_iff.1 Kv.out).1)
  refine (CN.out (k + 1) E2 SS.out.1 SS.out.2).mono ?_
  intro z w3 hc
  rcases hc with ⟨k3, a3, s3, hr, hkk, hp, hb, hz, hR⟩ | ⟨k3, e3, t3, hr, hp, hb, hz⟩
  rotate_left
  · subst hz
    have HN := Lib.hid (show Post RVar G p d w (WrongIs (e3 : Int) t3) w3 from .no k3 e3 t3 (by rw [← HG.out]; simp only [hr, Res.bind_no]) hp (BB.out.trans hb) rfl)
    clear hr hp hb
    unfold WrongIs
    go_wp2_with fail
    exact ⟨rfl, HN.out⟩
  replace Kr := Lib.hid ((hb.block _ (Array.getElem?_eq_some_iff.1 Kr.out).1 Nr.out).trans Kr.out)
  replace Kv := Lib.hid ((hb.block _ (Array.getElem?_eq_some_iff.1 Kv.out).1 Nv.out).trans Kv.out)
  obtain rfl : z = .returned (.string (str a3)) := hz
  have R3 := Lib.hid hr
  replace SS := Lib.hid (And.intro hp hkk)
  replace BB := Lib.hid (BB.out.trans hb)
  clear hr hkk hp hb hR
  have u4 := cell_blk Kv.out (j := 0) rfl
  have v4 : w3.frozen? ⟨W0.heap.size, 0, none⟩ = false := by simp [World.frozen?, Kv.out]
  obtain ⟨E4, hE4⟩ : ∃ E, w3.setCell ⟨W0.heap.size, 0, none⟩ (.string (str a3)) = E := ⟨_, rfl⟩
  have hEo : ∀ j, j ≠ W0.heap.size → E4.heap[j]? = w3.heap[j]? := fun j hj => by rw [← hE4]; exact Below.heap_setCell w3 _ _ _ hj
  have hEz : E4.heap.size = w3.heap.size := by rw [← hE4]; simp [World.setCell]
  have hEk : E4.heap[W0.heap.size]? = some (.cells #[.string (str a3), .int .i64 1, .int .i64 0, .bool false] 108 (0, 0)) := by rw [← hE4, setCell_eq_setRow _ _ _ _ 108 (0, 0) _ Kv.out]; exact setRow_heap _ _ _ _ 108 (0, 0) Kv.out
  replace Kr := Lib.hid ((hEo _ (Nat.ne_of_lt Vv.out)).trans Kr.out)
  replace Kv := Lib.hid hEk
  have hSo := SS.out.1.other (p := ⟨W0.heap.size, 0, none⟩) Nv.out Tv.out (.string (str a3))
  have hBo := BB.out.putNew (p := ⟨W0.heap.size, 0, none⟩) Mv.out (.string (str a3))
  rw [hE4] at hSo hBo
  replace SS := Lib.hid (And.intro hSo SS.out.2)
  replace BB := Lib.hid hBo
  clear hEo hEz hEk hSo hBo
  go_upto_region 9 with fail
  try rw [hE4]
  clear hE4 u4 v4
  have lk := cell_blk Kv.out (j := 1) rfl
  go_wp2_with fail
  refine (CW.out k3 E4 SS.out.1 SS.out.2).mono ?_
  intro z w5 hc
  rcases hc with ⟨k5, a5, s5, hr, hkk, hp, hb, hz, hR⟩ | ⟨k5, e5, t5, hr, hp, hb, hz⟩
  rotate_left
  · subst hz
    have HN := Lib.hid (show Post RVar G p d w (WrongIs (e5 : Int) t5) w5 from .no k5 e5 t5 (by rw [← HG.out]; simp only [R3.out, ↓reduceIte, hr, Res.bind_ok, Res.bind_no]) hp (BB.out.trans hb) rfl)
    clear hr hp hb
    unfold WrongIs
    go_wp2_with fail
    exact ⟨rfl, HN.out⟩
  replace Kr := Lib.hid ((hb.block _ (Array.getElem?_eq_some_iff.1 Kr.out).1 Nr.out).trans Kr.out)
  replace Kv := Lib.hid ((hb.block _ (Array.getElem?_eq_some_iff.1 Kv.out).1 Nv.out).trans Kv.out)
  obtain rfl : z = .returned (.tuple #[]) := hz
  have R5 := Lib.hid hr
  replace SS := Lib.hid (And.intro hp hkk)
  replace BB := Lib.hid (BB.out.trans hb)
  clear hr hkk hp hb hR
  clear lk
  have l0 := cell_blk Kv.out (j := 0) rfl
  have l1 := cell_blk Kv.out (j := 1) rfl
  have l2 := cell_blk Kv.out (j := 2) rfl
  have l3 := cell_blk Kv.out (j := 3) rfl
  have z0 := cell_blk Kr.out (j := 0) rfl
  have z1 := cell_blk Kr.out (j := 1) rfl
  have z2 := cell_blk Kr.out (j := 2) rfl
  have z3 := cell_blk Kr.out (j := 3) rfl
  have hf : ∀ j, w5.frozen? ⟨w.heap.size, j, none⟩ = false := fun j => by simp [World.frozen?, Kr.out]
  have f0 := hf 0
  have f1 := hf 1
  have f2 := hf 2
  have f3 := hf 3
  clear hf
  have HR := Lib.hid (set4 Kr.out (.string (str a3)) (.int .i64 1) (.int .i64 0) (.bool false))
  go_wp2_with fail
  have hF := HR.out
  refine bodyPost_ret (v := .agg #[.string (str a3), .int .i64 1, .int .i64 0, .bool false]) ?_ rfl ?_
  · have y0 := cell_blk hF (j := 0) rfl
    have y1 := cell_blk hF (j := 1) rfl
    have y2 := cell_blk hF (j := 2) rfl
    have y3 := cell_blk hF (j := 3) rfl
    generalize (((w5.setCell ⟨w.heap.size, 0, none⟩ (.string (str a3))).setCell ⟨w.heap.size, 1, none⟩ (.int .i64 1)).setCell ⟨w.heap.size, 2, none⟩ (.int .i64 0)).setCell ⟨w.heap.size, 3, none⟩ (.bool false) = F at *
    simp [results, Tryz.results156, go_sem, y0, y1, y2, y3]
  · have hn1 : w.heap.size ≠ p.pb := Nr.out
    have hn2 : w.heap.size ≠ p.tb := Nr2.out
    refine .ok k5 ⟨a3, 1, 0, false⟩ () (by rw [← HG.out]; first | rfl | simp only [R3.out, R5.out, ↓reduceIte, Res.bind_ok] | trace_state) SS.out.2 ?_ ?_ rfl ?_
    · exact (((SS.out.1.other (p := ⟨w.heap.size, 0, none⟩) hn1 hn2 _).other (p := ⟨w.heap.size, 1, none⟩) hn1 hn2 _).other (p := ⟨w.heap.size, 2, none⟩) hn1 hn2 _).other (p := ⟨w.heap.size, 3, none⟩) hn1 hn2 _
    · exact (((BB.out.putNew (p := ⟨w.heap.size, 0, none⟩) (Nat.le_refl _) _).putNew (p := ⟨w.heap.size, 1, none⟩) (Nat.le_refl _) _).putNew (p := ⟨w.heap.size, 2, none⟩) (Nat.le_refl _) _).putNew (p := ⟨w.heap.size, 3, none⟩) (Nat.le_refl _) _
    · exact fun _ _ => trivial
set_option maxRecDepth 100000 in
set_option maxHeartbeats 3200000 in
theorem variable_2 (p : Pp) (k d : Nat) (w : World) (h : Ps w p.pb p.tb p.tf p.tc p.ts k d) (hk : k < p.ts.length) (hE : Ends p.ts) (g0 : (hdT (p.ts.drop k)).text ≠ wVar) (g1 : (hdT (p.ts.drop k)).text = wArray) :
    Calls Tryz.prog 156 #[.pointer (some ⟨p.pb, 0, none⟩)] w (Post RVar (varOfP 2 (p.ts.drop (k + 1))) p d w) := by
  have hpb := h.lt_pb
  have CN := Lib.hid (fun (k : Nat) (w : World) (h : Ps w p.pb p.tb p.tf p.tc p.ts k d) (hk : k < p.ts.length) => name_p p k d w h hk hE)
  have CW := Lib.hid (fun (k : Nat) (w : World) (h : Ps w p.pb p.tb p.tf p.tc p.ts k d) (hk : k < p.ts.length) => want_p [59] p k d w h hk hE (by decide))
  have CT := Lib.hid (fun (k : Nat) (w : World) (h : Ps w p.pb p.tb p.tf p.tc p.ts k d) (hk : k < p.ts.length) => take_p wSecret (by decide) p k d w h hk hE)
  have CZ := Lib.hid (fun (k : Nat) (w : World) (h : Ps w p.pb p.tb p.tf p.tc p.ts k d) (hk : k < p.ts.length) => size_p p k d w h hk hE)
  have T0 := Lib.hid (fun (w : World) (h : Ps w p.pb p.tb p.tf p.tc p.ts k d) => take_no wVar p k d w h hk g0)
  have T1 := Lib.hid (fun (w : World) (h : Ps w p.pb p.tb p.tf p.tc p.ts k d) => take_yes wArray p k d w h hk g1)
  have HK1 := Lib.hid (hd_next hE hk (.inl (by rw [g1]; decide)))
  obtain ⟨W0, hW0⟩ : ∃ W0, w.alloc (.cells #[.string ⟨#[]⟩, .int .i64 0, .int .i64 0, .bool false] 108) = W0 := ⟨_, rfl⟩
  have hB0 : Below w.heap.size w W0 := by rw [← hW0]; exact (Below.refl _ _).alloc (Nat.le_refl _) _
  have Kr := Lib.hid (show W0.heap[w.heap.size]? = some (.cells #[.string ⟨#[]⟩, .int .i64 0, .int .i64 0, .bool false] 108 (0, 0)) by rw [← hW0]; exact heap_alloc_new w _)
  have Nr := Lib.hid (Nat.ne_of_gt hpb)
  have Nr2 := Lib.hid (Nat.ne_of_gt h.lt)
  have BB := Lib.hid (But.of_below (g := p.pb) hB0)
  have SS := Lib.hid (And.intro (h.later hB0) hk)
  clear hB0
  have PB := Lib.hid hpb
  clear h hk hE hpb g0 g1
  generalize hG : (varOfP 2 (p.ts.drop (k + 1))) = G
  unfold varOfP at hG
  have HG := Lib.hid hG
  clear hG
  go_enter Tryz.func156, Tryz.ntmps156
  go_wp2_with fail
  try rw [hW0]
  clear hW0
  obtain ⟨Av, hAv⟩ : ∃ A, W0.alloc (.cells #[.string ⟨#[]⟩, .int .i64 0, .int .i64 0, .bool false] 108) = A := ⟨_, rfl⟩
  have VV := Lib.hid (show w.heap.size < W0.heap.size from (Array.getElem?_eq_some_iff.1 Kr.out).1)
  have hBA : Below W0.heap.size W0 Av := by rw [← hAv]; exact (Below.refl _ _).alloc (Nat.le_refl _) _
  replace Kr := Lib.hid ((hBA.block _ (Array.getElem?_eq_some_iff.1 Kr.out).1).trans Kr.out)
  have Kv := Lib.hid (show Av.heap[W0.heap.size]? = some (.cells #[.string ⟨#[]⟩, .int .i64 0, .int .i64 0, .bool false] 108 (0, 0)) by rw [← hAv]; exact heap_alloc_new W0 _)
  have Nv := Lib.hid (Nat.ne_of_gt SS.out.1.lt_pb)
  have Tv := Lib.hid (Nat.ne_of_gt SS.out.1.lt)
  have Mv := Lib.hid (show w.heap.size ≤ W0.heap.size from BB.out.size)
  have Vv := Lib.hid (show w.heap.size < W0.heap.size from VV.out)
  replace SS := Lib.hid (And.intro (SS.out.1.later hBA) SS.out.2)
  replace BB := Lib.hid (BB.out.trans (But.of_below hBA))
  clear hBA
  have HAv := Lib.hid hAv
  clear hAv
  go_wp2_with fail
  try rw [HAv.out]
  clear HAv
  refine (T0.out Av SS.out.1).mono ?_
  rintro z w1 ⟨rfl, hp, hb⟩
  replace Kr := Lib.hid ((hb.block _ (Array.getElem?_eq_some_iff.1 Kr.out).1 Nr.out).trans Kr.out)
  replace Kv := Lib.hid ((hb.block _ (Array.getElem?_eq_some_iff.1 Kv.out).1 Nv.out).trans Kv.out)
  replace SS := Lib.hid (And.intro hp SS.out.2)
  replace BB := Lib.hid (BB.out.trans hb)
  clear hp hb
  go_wp2_with fail
  refine (T1.out w1 SS.out.1).mono ?_
  rintro z w2 ⟨rfl, hp, hb⟩
  replace Kr := Lib.hid ((hb.block _ (Array.getElem?_eq_some_iff.1 Kr.out).1 Nr.out).trans Kr.out)
  replace Kv := Lib.hid ((hb.block _ (Array.getElem?_eq_some_iff.1 Kv.out).1 Nv.out).trans Kv.out)
  replace SS := Lib.hid (And.intro hp HK1.out)
  replace BB := Lib.hid (BB.out.trans hb)
  clear hp hb
  have u3 := cell_blk Kv.out (j := 1) rfl
  have v3 : w2.frozen? ⟨W0.heap.size, 1, none⟩ = false := by simp [World.frozen?, Kv.out]
  obtain ⟨E3, hE3⟩ : ∃ E, w2.setCell ⟨W0.heap.size, 1, none⟩ (.int .i64 2) = E := ⟨_, rfl⟩
  have hEo : ∀ j, j ≠ W0.heap.size → E3.heap[j]? = w2.heap[j]? := fun j hj => by rw [← hE3]; exact Below.heap_setCell w2 _ _ _ hj
  have hEz : E3.heap.size = w2.heap.size := by rw [← hE3]; simp [World.setCell]
  have hEk : E3.heap[W0.heap.size]? = some (.cells #[.string ⟨#[]⟩, .int .i64 2, .int .i64 0, .bool false] 108 (0, 0)) := by rw [← hE3, setCell_eq_setRow _ _ _ _ 108 (0, 0) _ Kv.out]; exact setRow_heap _ _ _ _ 108 (0, 0) Kv.out
  replace Kr := Lib.hid ((hEo _ (Nat.ne_of_lt Vv.out)).trans Kr.out)
  replace Kv := Lib.hid hEk
  have hSo := SS.out.1.other (p := ⟨W0.heap.size, 1, none⟩) Nv.out Tv.out (.int .i64 2)
  have hBo := BB.out.putNew (p := ⟨W0.heap.size, 1, none⟩) Mv.out (.int .i64 2)
  rw [hE3] at hSo hBo
  replace SS := Lib.hid (And.intro hSo SS.out.2)
  replace BB := Lib.hid hBo
  clear hEo hEz hEk hSo hBo
  go_wp2_with fail
  try rw [hE3]
  clear hE3 u3 v3
  have Va4 := Lib.hid (show w.heap.size < E3.heap.size from (Array.getElem?_eq_some_iff.1 Kr.out).1)
  have Uva4 := Lib.hid (show W0.heap.size < E3.heap.size from (Array.getElem?_eq_some_iff.1 Kv.out).1)
  refine (CN.out (k + 1) E3 SS.out.1 SS.out.2).mono ?_
  intro z w4 hc
  rcases hc with ⟨k4, a4, s4, hr, hkk, hp, hb, hz, hR⟩ | ⟨k4, e4, t4, hr, hp, hb, hz⟩
  rotate_left
  · subst hz
    have HN := Lib.hid (show Post RVar G p d w (WrongIs (e4 : Int) t4) w4 from .no k4 e4 t4 (by rw [← HG.out]; simp only [hr, Res.bind_no]) hp (BB.out.trans hb) rfl)
    clear hr hp hb
    unfold WrongIs
    go_wp2_with fail
    exact ⟨rfl, HN.out⟩
  replace Kr := Lib.hid ((hb.block _ (Array.getElem?_eq_some_iff.1 Kr.out).1 Nr.out).trans Kr.out)
  replace Kv := Lib.hid ((hb.block _ (Array.getElem?_eq_some_iff.1 Kv.out).1 Nv.out).trans Kv.out)
  obtain rfl : z = .returned (.string (str a4)) := hz
  have R4 := Lib.hid hr
  replace SS := Lib.hid (And.intro hp hkk)
  replace BB := Lib.hid (BB.out.trans hb)
  clear hr hkk hp hb hR
  have u5 := cell_blk Kv.out (j := 0) rfl
  have v5 : w4.frozen? ⟨W0.heap.size, 0, none⟩ = false := by simp [World.frozen?, Kv.out]
  obtain ⟨E5, hE5⟩ : ∃ E, w4.setCell ⟨W0.heap.size, 0, none⟩ (.string (str a4)) = E := ⟨_, rfl⟩
  have hEo : ∀ j, j ≠ W0.heap.size → E5.heap[j]? = w4.heap[j]? := fun j hj => by rw [← hE5]; exact Below.heap_setCell w4 _ _ _ hj
  have hEz : E5.heap.size = w4.heap.size := by rw [← hE5]; simp [World.setCell]
  have hEk : E5.heap[W0.heap.size]? = some (.cells #[.string (str a4), .int .i64 2, .int .i64 0, .bool false] 108 (0, 0)) := by rw [← hE5, setCell_eq_setRow _ _ _ _ 108 (0, 0) _ Kv.out]; exact setRow_heap _ _ _ _ 108 (0, 0) Kv.out
  replace Kr := Lib.hid ((hEo _ (Nat.ne_of_lt Vv.out)).trans Kr.out)
  replace Kv := Lib.hid hEk
  have hSo := SS.out.1.other (p := ⟨W0.heap.size, 0, none⟩) Nv.out Tv.out (.string (str a4))
  have hBo := BB.out.putNew (p := ⟨W0.heap.size, 0, none⟩) Mv.out (.string (str a4))
  rw [hE5] at hSo hBo
  replace SS := Lib.hid (And.intro hSo SS.out.2)
  replace BB := Lib.hid hBo
  clear hEo hEz hEk hSo hBo
  go_upto_region 9 with fail
  try rw [hE5]
  clear hE5 u5 v5
  have lk := cell_blk Kv.out (j := 1) rfl
  go_wp2_with fail
  have Va6 := Lib.hid (show w.heap.size < E5.heap.size from (Array.getElem?_eq_some_iff.1 Kr.out).1)
  have Uva6 := Lib.hid (show W0.heap.size < E5.heap.size from (Array.getElem?_eq_some_iff.1 Kv.out).1)
  refine (CZ.out k4 E5 SS.out.1 SS.out.2).mono ?_
  intro z w6 hc
  rcases hc with ⟨k6, a6, s6, hr, hkk, hp, hb, hz, hR⟩ | ⟨k6, e6, t6, hr, hp, hb, hz⟩
  rotate_left
  · subst hz
    have HN := Lib.hid (show Post RVar G p d w (WrongIs (e6 : Int) t6) w6 from .no k6 e6 t6 (by rw [← HG.out]; simp only [R4.out, if_neg (show ¬ (2 : Int) = 1 by decide), hr, Res.bind_ok, Res.bind_no]) hp (BB.out.trans hb) rfl)
    clear hr hp hb
    unfold WrongIs
    go_wp2_with fail
    exact ⟨rfl, HN.out⟩
  replace Kr := Lib.hid ((hb.block _ (Array.getElem?_eq_some_iff.1 Kr.out).1 Nr.out).trans Kr.out)
  replace Kv := Lib.hid ((hb.block _ (Array.getElem?_eq_some_iff.1 Kv.out).1 Nv.out).trans Kv.out)
  obtain rfl : z = .returned (.int .i64 (a6 : Int)) := hz
  have R6 := Lib.hid hr
  replace SS := Lib.hid (And.intro hp hkk)
  replace BB := Lib.hid (BB.out.trans hb)
  clear hr hkk hp hb hR
  clear lk
  have u7 := cell_blk Kv.out (j := 2) rfl
  have v7 : w6.frozen? ⟨W0.heap.size, 2, none⟩ = false := by simp [World.frozen?, Kv.out]
  obtain ⟨E7, hE7⟩ : ∃ E, w6.setCell ⟨W0.heap.size, 2, none⟩ (.int .i64 (a6 : Int)) = E := ⟨_, rfl⟩
  have hEo : ∀ j, j ≠ W0.heap.size → E7.heap[j]? = w6.heap[j]? := fun j hj => by rw [← hE7]; exact Below.heap_setCell w6 _ _ _ hj
  have hEz : E7.heap.size = w6.heap.size := by rw [← hE7]; simp [World.setCell]
  have hEk : E7.heap[W0.heap.size]? = some (.cells #[.string (str a4), .int .i64 2, .int .i64 (a6 : Int), .bool false] 108 (0, 0)) := by rw [← hE7, setCell_eq_setRow _ _ _ _ 108 (0, 0) _ Kv.out]; exact setRow_heap _ _ _ _ 108 (0, 0) Kv.out
  replace Kr := Lib.hid ((hEo _ (Nat.ne_of_lt Vv.out)).trans Kr.out)
  replace Kv := Lib.hid hEk
  have hSo := SS.out.1.other (p := ⟨W0.heap.size, 2, none⟩) Nv.out Tv.out (.int .i64 (a6 : Int))
  have hBo := BB.out.putNew (p := ⟨W0.heap.size, 2, none⟩) Mv.out (.int .i64 (a6 : Int))
  rw [hE7] at hSo hBo
  replace SS := Lib.hid (And.intro hSo SS.out.2)
  replace BB := Lib.hid hBo
  clear hEo hEz hEk hSo hBo
  go_wp2_with fail
  try rw [hE7]
  clear hE7 u7 v7
  refine (CT.out k6 E7 SS.out.1 SS.out.2).mono ?_
  rintro z w8 ⟨k8, b8, hr, rfl, hp, hb, hkk⟩
  replace Kr := Lib.hid ((hb.block _ (Array.getElem?_eq_some_iff.1 Kr.out).1 Nr.out).trans Kr.out)
  replace Kv := Lib.hid ((hb.block _ (Array.getElem?_eq_some_iff.1 Kv.out).1 Nv.out).trans Kv.out)
  have R8 := Lib.hid hr
  replace SS := Lib.hid (And.intro hp hkk)
  replace BB := Lib.hid (BB.out.trans hb)
  clear hr hkk hp hb
  have u9 := cell_blk Kv.out (j := 3) rfl
  have v9 : w8.frozen? ⟨W0.heap.size, 3, none⟩ = false := by simp [World.frozen?, Kv.out]
  obtain ⟨E9, hE9⟩ : ∃ E, w8.setCell ⟨W0.heap.size, 3, none⟩ (.bool b8) = E := ⟨_, rfl⟩
  have hEo : ∀ j, j ≠ W0.heap.size → E9.heap[j]? = w8.heap[j]? := fun j hj => by rw [← hE9]; exact Below.heap_setCell w8 _ _ _ hj
  have hEz : E9.heap.size = w8.heap.size := by rw [← hE9]; simp [World.setCell]
  have hEk : E9.heap[W0.heap.size]? = some (.cells #[.string (str a4), .int .i64 2, .int .i64 (a6 : Int), .bool b8] 108 (0, 0)) := by rw [← hE9, setCell_eq_setRow _ _ _ _ 108 (0, 0) _ Kv.out]; exact setRow_heap _ _ _ _ 108 (0, 0) Kv.out
  replace Kr := Lib.hid ((hEo _ (Nat.ne_of_lt Vv.out)).trans Kr.out)
  replace Kv := Lib.hid hEk
  have hSo := SS.out.1.other (p := ⟨W0.heap.size, 3, none⟩) Nv.out Tv.out (.bool b8)
  have hBo := BB.out.putNew (p := ⟨W0.heap.size, 3, none⟩) Mv.out (.bool b8)
  rw [hE9] at hSo hBo
  replace SS := Lib.hid (And.intro hSo SS.out.2)
  replace BB := Lib.hid hBo
  clear hEo hEz hEk hSo hBo
  go_wp2_with fail
  try rw [hE9]
  clear hE9 u9 v9
  refine (CW.out k8 E9 SS.out.1 SS.out.2).mono ?_
  intro z w10 hc
  rcases hc with ⟨k10, a10, s10, hr, hkk, hp, hb, hz, hR⟩ | ⟨k10, e10, t10, hr, hp, hb, hz⟩
  rotate_left
  · subst hz
    have HN := Lib.hid (show Post RVar G p d w (WrongIs (e10 : Int) t10) w10 from .no k10 e10 t10 (by rw [← HG.out]; simp only [R4.out, R6.out, R8.out, if_neg (show ¬ (2 : Int) = 1 by decide), hr, Res.bind_ok, Res.bind_no]) hp (BB.out.trans hb) rfl)
    clear hr hp hb
    unfold WrongIs
    go_wp2_with fail
    exact ⟨rfl, HN.out⟩
  replace Kr := Lib.hid ((hb.block _ (Array.getElem?_eq_some_iff.1 Kr.out).1 Nr.out).trans Kr.out)
  replace Kv := Lib.hid ((hb.block _ (Array.getElem?_eq_some_iff.1 Kv.out).1 Nv.out).trans Kv.out)
  obtain rfl : z = .returned (.tuple #[]) := hz
  have R10 := Lib.hid hr
  replace SS := Lib.hid (And.intro hp hkk)
  replace BB := Lib.hid (BB.out.trans hb)
  clear hr hkk hp hb hR
  have l0 := cell_blk Kv.out (j := 0) rfl
  have l1 := cell_blk Kv.out (j := 1) rfl
  have l2 := cell_blk Kv.out (j := 2) rfl
  have l3 := cell_blk Kv.out (j := 3) rfl
  have z0 := cell_blk Kr.out (j := 0) rfl
  have z1 := cell_blk Kr.out (j := 1) rfl
  have z2 := cell_blk Kr.out (j := 2) rfl
  have z3 := cell_blk Kr.out (j := 3) rfl
  have hf : ∀ j, w10.frozen? ⟨w.heap.size, j, none⟩ = false := fun j => by simp [World.frozen?, Kr.out]
  have f0 := hf 0
  have f1 := hf 1
  have f2 := hf 2
  have f3 := hf 3
  clear hf
  have HR := Lib.hid (set4 Kr.out (.string (str a4)) (.int .i64 2) (.int .i64 (a6 : Int)) (.bool b8))
  go_wp2_with fail
  have hF := HR.out
  refine bodyPost_ret (v := .agg #[.string (str a4), .int .i64 2, .int .i64 (a6 : Int), .bool b8]) ?_ rfl ?_
  · have y0 := cell_blk hF (j := 0) rfl
    have y1 := cell_blk hF (j := 1) rfl
    have y2 := cell_blk hF (j := 2) rfl
    have y3 := cell_blk hF (j := 3) rfl
    generalize (((w10.setCell ⟨w.heap.size, 0, none⟩ (.string (str a4))).setCell ⟨w.heap.size, 1, none⟩ (.int .i64 2)).setCell ⟨w.heap.size, 2, none⟩ (.int .i64 (a6 : Int))).setCell ⟨w.heap.size, 3, none⟩ (.bool b8) = F at *
    simp [results, Tryz.results156, go_sem, y0, y1, y2, y3]
  · have hn1 : w.heap.size ≠ p.pb := Nr.out
    have hn2 : w.heap.size ≠ p.tb := Nr2.out
    refine .ok k10 ⟨a4, 2, a6, b8⟩ () (by rw [← HG.out]; first | rfl | simp only [R4.out, R6.out, R8.out, R10.out, if_neg (show ¬ (2 : Int) = 1 by decide), Res.bind_ok] | trace_state) SS.out.2 ?_ ?_ rfl ?_
    · exact (((SS.out.1.other (p := ⟨w.heap.size, 0, none⟩) hn1 hn2 _).other (p := ⟨w.heap.size, 1, none⟩) hn1 hn2 _).other (p := ⟨w.heap.size, 2, none⟩) hn1 hn2 _).other (p := ⟨w.heap.size, 3, none⟩) hn1 hn2 _
    · exact (((BB.out.putNew (p := ⟨w.heap.size, 0, none⟩) (Nat.le_refl _) _).putNew (p := ⟨w.heap.size, 1, none⟩) (Nat.le_refl _) _).putNew (p := ⟨w.heap.size, 2, none⟩) (Nat.le_refl _) _).putNew (p := ⟨w.heap.size, 3, none⟩) (Nat.le_refl _) _
    · exact fun _ _ => trivial
set_option maxRecDepth 100000 in
set_option maxHeartbeats 3200000 in
theorem variable_3 (p : Pp) (k d : Nat) (w : World) (h : Ps w p.pb p.tb p.tf p.tc p.ts k d) (hk : k < p.ts.length) (hE : Ends p.ts) (g0 : (hdT (p.ts.drop k)).text ≠ wVar) (g1 : (hdT (p.ts.drop k)).text ≠ wArray) (g2 : (hdT (p.ts.drop k)).text = wStack) :
    Calls Tryz.prog 156 #[.pointer (some ⟨p.pb, 0, none⟩)] w (Post RVar (varOfP 3 (p.ts.drop (k + 1))) p d w) := by
  have hpb := h.lt_pb
  have CN := Lib.hid (fun (k : Nat) (w : World) (h : Ps w p.pb p.tb p.tf p.tc p.ts k d) (hk : k < p.ts.length) => name_p p k d w h hk hE)
  have CW := Lib.hid (fun (k : Nat) (w : World) (h : Ps w p.pb p.tb p.tf p.tc p.ts k d) (hk : k < p.ts.length) => want_p [59] p k d w h hk hE (by decide))
  have CT := Lib.hid (fun (k : Nat) (w : World) (h : Ps w p.pb p.tb p.tf p.tc p.ts k d) (hk : k < p.ts.length) => take_p wSecret (by decide) p k d w h hk hE)
  have CZ := Lib.hid (fun (k : Nat) (w : World) (h : Ps w p.pb p.tb p.tf p.tc p.ts k d) (hk : k < p.ts.length) => size_p p k d w h hk hE)
  have T0 := Lib.hid (fun (w : World) (h : Ps w p.pb p.tb p.tf p.tc p.ts k d) => take_no wVar p k d w h hk g0)
  have T1 := Lib.hid (fun (w : World) (h : Ps w p.pb p.tb p.tf p.tc p.ts k d) => take_no wArray p k d w h hk g1)
  have T2 := Lib.hid (fun (w : World) (h : Ps w p.pb p.tb p.tf p.tc p.ts k d) => take_yes wStack p k d w h hk g2)
  have HK1 := Lib.hid (hd_next hE hk (.inl (by rw [g2]; decide)))
  obtain ⟨W0, hW0⟩ : ∃ W0, w.alloc (.cells #[.string ⟨#[]⟩, .int .i64 0, .int .i64 0, .bool false] 108) = W0 := ⟨_, rfl⟩
  have hB0 : Below w.heap.size w W0 := by rw [← hW0]; exact (Below.refl _ _).alloc (Nat.le_refl _) _
  have Kr := Lib.hid (show W0.heap[w.heap.size]? = some (.cells #[.string ⟨#[]⟩, .int .i64 0, .int .i64 0, .bool false] 108 (0, 0)) by rw [← hW0]; exact heap_alloc_new w _)
  have Nr := Lib.hid (Nat.ne_of_gt hpb)
  have Nr2 := Lib.hid (Nat.ne_of_gt h.lt)
  have BB := Lib.hid (But.of_below (g := p.pb) hB0)
  have SS := Lib.hid (And.intro (h.later hB0) hk)
  clear hB0
  have PB := Lib.hid hpb
  clear h hk hE hpb g0 g1 g2
  generalize hG : (varOfP 3 (p.ts.drop (k + 1))) = G
  unfold varOfP at hG
  have HG := Lib.hid hG
  clear hG
  go_enter Tryz.func156, Tryz.ntmps156
  go_wp2_with fail
  try rw [hW0]
  clear hW0
  obtain ⟨Av, hAv⟩ : ∃ A, W0.alloc (.cells #[.string ⟨#[]⟩, .int .i64 0, .int .i64 0, .bool false] 108) = A := ⟨_, rfl⟩
  have VV := Lib.hid (show w.heap.size < W0.heap.size from (Array.getElem?_eq_some_iff.1 Kr.out).1)
  have hBA : Below W0.heap.size W0 Av := by rw [← hAv]; exact (Below.refl _ _).alloc (Nat.le_refl _) _
  replace Kr := Lib.hid ((hBA.block _ (Array.getElem?_eq_some_iff.1 Kr.out).1).trans Kr.out)
  have Kv := Lib.hid (show Av.heap[W0.heap.size]? = some (.cells #[.string ⟨#[]⟩, .int .i64 0, .int .i64 0, .bool false] 108 (0, 0)) by rw [← hAv]; exact heap_alloc_new W0 _)
  have Nv := Lib.hid (Nat.ne_of_gt SS.out.1.lt_pb)
  have Tv := Lib.hid (Nat.ne_of_gt SS.out.1.lt)
  have Mv := Lib.hid (show w.heap.size ≤ W0.heap.size from BB.out.size)
  have Vv := Lib.hid (show w.heap.size < W0.heap.size from VV.out)
  replace SS := Lib.hid (And.intro (SS.out.1.later hBA) SS.out.2)
  replace BB := Lib.hid (BB.out.trans (But.of_below hBA))
  clear hBA
  have HAv := Lib.hid hAv
  clear hAv
  go_wp2_with fail
  try rw [HAv.out]
  clear HAv
  refine (T0.out Av SS.out.1).mono ?_
  rintro z w1 ⟨rfl, hp, hb⟩
  replace Kr := Lib.hid ((hb.block _ (Array.getElem?_eq_some_iff.1 Kr.out).1 Nr.out).trans Kr.out)
  replace Kv := Lib.hid ((hb.block _ (Array.getElem?_eq_some_iff.1 Kv.out).1 Nv.out).trans Kv.out)
  replace SS := Lib.hid (And.intro hp SS.out.2)
  replace BB := Lib.hid (BB.out.trans hb)
  clear hp hb
  go_wp2_with fail
  refine (T1.out w1 SS.out.1).mono ?_
  rintro z w2 ⟨rfl, hp, hb⟩
  replace Kr := Lib.hid ((hb.block _ (Array.getElem?_eq_some_iff.1 Kr.out).1 Nr.out).trans Kr.out)
  replace Kv := Lib.hid ((hb.block _ (Array.getElem?_eq_some_iff.1 Kv.out).1 Nv.out).trans Kv.out)
  replace SS := Lib.hid (And.intro hp SS.out.2)
  replace BB := Lib.hid (BB.out.trans hb)
  clear hp hb
  go_wp2_with fail
  refine (T2.out w2 SS.out.1).mono ?_
  rintro z w3 ⟨rfl, hp, hb⟩
  replace Kr := Lib.hid ((hb.block _ (Array.getElem?_eq_some_iff.1 Kr.out).1 Nr.out).trans Kr.out)
  replace Kv := Lib.hid ((hb.block _ (Array.getElem?_eq_some_iff.1 Kv.out).1 Nv.out).trans Kv.out)
  replace SS := Lib.hid (And.intro hp HK1.out)
  replace BB := Lib.hid (BB.out.trans hb)
  clear hp hb
  have u4 := cell_blk Kv.out (j := 1) rfl
  have v4 : w3.frozen? ⟨W0.heap.size, 1, none⟩ = false := by simp [World.frozen?, Kv.out]
  obtain ⟨E4, hE4⟩ : ∃ E, w3.setCell ⟨W0.heap.size, 1, none⟩ (.int .i64 3) = E := ⟨_, rfl⟩
  have hEo : ∀ j, j ≠ W0.heap.size → E4.heap[j]? = w3.heap[j]? := fun j hj => by rw [← hE4]; exact Below.heap_setCell w3 _ _ _ hj
  have hEz : E4.heap.size = w3.heap.size := by rw [← hE4]; simp [World.setCell]
  have hEk : E4.heap[W0.heap.size]? = some (.cells #[.string ⟨#[]⟩, .int .i64 3, .int .i64 0, .bool false] 108 (0, 0)) := by rw [← hE4, setCell_eq_setRow _ _ _ _ 108 (0, 0) _ Kv.out]; exact setRow_heap _ _ _ _ 108 (0, 0) Kv.out
  replace Kr := Lib.hid ((hEo _ (Nat.ne_of_lt Vv.out)).trans Kr.out)
  replace Kv := Lib.hid hEk
  have hSo := SS.out.1.other (p := ⟨W0.heap.size, 1, none⟩) Nv.out Tv.out (.int .i64 3)
  have hBo := BB.out.putNew (p := ⟨W0.heap.size, 1, none⟩) Mv.out (.int .i64 3)
  rw [hE4] at hSo hBo
  replace SS := Lib.hid (And.intro hSo SS.out.2)
  replace BB := Lib.hid hBo
  clear hEo hEz hEk hSo hBo
  go_wp2_with fail
  try rw [hE4]
  clear hE4 u4 v4
  have Va5 := Lib.hid (show w.heap.size < E4.heap.size from (Array.getElem?_eq_some_iff.1 Kr.out).1)
  have Uva5 := Lib.hid (show W0.heap.size < E4.heap.size from (Array.getElem?_eq_some_iff.1 Kv.out).1)
  refine (CN.out (k + 1) E4 SS.out.1 SS.out.2).mono ?_
  intro z w5 hc
  rcases hc with ⟨k5, a5, s5, hr, hkk, hp, hb, hz, hR⟩ | ⟨k5, e5, t5, hr, hp, hb, hz⟩
  rotate_left
  · subst hz
    have HN := Lib.hid (show Post RVar G p d w (WrongIs (e5 : Int) t5) w5 from .no k5 e5 t5 (by rw [← HG.out]; simp only [hr, Res.bind_no]) hp (BB.out.trans hb) rfl)
    clear hr hp hb
    unfold WrongIs
    go_wp2_with fail
    exact ⟨rfl, HN.out⟩
  replace Kr := Lib.hid ((hb.block _ (Array.getElem?_eq_some_iff.1 Kr.out).1 Nr.out).trans Kr.out)
  replace Kv := Lib.hid ((hb.block _ (Array.getElem?_eq_some_iff.1 Kv.out).1 Nv.out).trans Kv.out)
  obtain rfl : z = .returned (.string (str a5)) := hz
  have R5 := Lib.hid hr
  replace SS := Lib.hid (And.intro hp hkk)
  replace BB := Lib.hid (BB.out.trans hb)
  clear hr hkk hp hb hR
  have u6 := cell_blk Kv.out (j := 0) rfl
  have v6 : w5.frozen? ⟨W0.heap.size, 0, none⟩ = false := by simp [World.frozen?, Kv.out]
  obtain ⟨E6, hE6⟩ : ∃ E, w5.setCell ⟨W0.heap.size, 0, none⟩ (.string (str a5)) = E := ⟨_, rfl⟩
  have hEo : ∀ j, j ≠ W0.heap.size → E6.heap[j]? = w5.heap[j]? := fun j hj => by rw [← hE6]; exact Below.heap_setCell w5 _ _ _ hj
  have hEz : E6.heap.size = w5.heap.size := by rw [← hE6]; simp [World.setCell]
  have hEk : E6.heap[W0.heap.size]? = some (.cells #[.string (str a5), .int .i64 3, .int .i64 0, .bool false] 108 (0, 0)) := by rw [← hE6, setCell_eq_setRow _ _ _ _ 108 (0, 0) _ Kv.out]; exact setRow_heap _ _ _ _ 108 (0, 0) Kv.out
  replace Kr := Lib.hid ((hEo _ (Nat.ne_of_lt Vv.out)).trans Kr.out)
  replace Kv := Lib.hid hEk
  have hSo := SS.out.1.other (p := ⟨W0.heap.size, 0, none⟩) Nv.out Tv.out (.string (str a5))
  have hBo := BB.out.putNew (p := ⟨W0.heap.size, 0, none⟩) Mv.out (.string (str a5))
  rw [hE6] at hSo hBo
  replace SS := Lib.hid (And.intro hSo SS.out.2)
  replace BB := Lib.hid hBo
  clear hEo hEz hEk hSo hBo
  go_upto_region 9 with fail
  try rw [hE6]
  clear hE6 u6 v6
  have lk := cell_blk Kv.out (j := 1) rfl
  go_wp2_with fail
  have Va7 := Lib.hid (show w.heap.size < E6.heap.size from (Array.getElem?_eq_some_iff.1 Kr.out).1)
  have Uva7 := Lib.hid (show W0.heap.size < E6.heap.size from (Array.getElem?_eq_some_iff.1 Kv.out).1)
  refine (CZ.out k5 E6 SS.out.1 SS.out.2).mono ?_
  intro z w7 hc
  rcases hc with ⟨k7, a7, s7, hr, hkk, hp, hb, hz, hR⟩ | ⟨k7, e7, t7, hr, hp, hb, hz⟩
  rotate_left
  · subst hz
    have HN := Lib.hid (show Post RVar G p d w (WrongIs (e7 : Int) t7) w7 from .no k7 e7 t7 (by rw [← HG.out]; simp only [R5.out, if_neg (show ¬ (3 : Int) = 1 by decide), hr, Res.bind_ok, Res.bind_no]) hp (BB.out.trans hb) rfl)
    clear hr hp hb
    unfold WrongIs
    go_wp2_with fail
    exact ⟨rfl, HN.out⟩
  replace Kr := Lib.hid ((hb.block _ (Array.getElem?_eq_some_iff.1 Kr.out).1 Nr.out).trans Kr.out)
  replace Kv := Lib.hid ((hb.block _ (Array.getElem?_eq_some_iff.1 Kv.out).1 Nv.out).trans Kv.out)
  obtain rfl : z = .returned (.int .i64 (a7 : Int)) := hz
  have R7 := Lib.hid hr
  replace SS := Lib.hid (And.intro hp hkk)
  replace BB := Lib.hid (BB.out.trans hb)
  clear hr hkk hp hb hR
  clear lk
  have u8 := cell_blk Kv.out (j := 2) rfl
  have v8 : w7.frozen? ⟨W0.heap.size, 2, none⟩ = false := by simp [World.frozen?, Kv.out]
  obtain ⟨E8, hE8⟩ : ∃ E, w7.setCell ⟨W0.heap.size, 2, none⟩ (.int .i64 (a7 : Int)) = E := ⟨_, rfl⟩
  have hEo : ∀ j, j ≠ W0.heap.size → E8.heap[j]? = w7.heap[j]? := fun j hj => by rw [← hE8]; exact Below.heap_setCell w7 _ _ _ hj
  have hEz : E8.heap.size = w7.heap.size := by rw [← hE8]; simp [World.setCell]
  have hEk : E8.heap[W0.heap.size]? = some (.cells #[.string (str a5), .int .i64 3, .int .i64 (a7 : Int), .bool false] 108 (0, 0)) := by rw [← hE8, setCell_eq_setRow _ _ _ _ 108 (0, 0) _ Kv.out]; exact setRow_heap _ _ _ _ 108 (0, 0) Kv.out
  replace Kr := Lib.hid ((hEo _ (Nat.ne_of_lt Vv.out)).trans Kr.out)
  replace Kv := Lib.hid hEk
  have hSo := SS.out.1.other (p := ⟨W0.heap.size, 2, none⟩) Nv.out Tv.out (.int .i64 (a7 : Int))
  have hBo := BB.out.putNew (p := ⟨W0.heap.size, 2, none⟩) Mv.out (.int .i64 (a7 : Int))
  rw [hE8] at hSo hBo
  replace SS := Lib.hid (And.intro hSo SS.out.2)
  replace BB := Lib.hid hBo
  clear hEo hEz hEk hSo hBo
  go_wp2_with fail
  try rw [hE8]
  clear hE8 u8 v8
  refine (CT.out k7 E8 SS.out.1 SS.out.2).mono ?_
  rintro z w9 ⟨k9, b9, hr, rfl, hp, hb, hkk⟩
  replace Kr := Lib.hid ((hb.block _ (Array.getElem?_eq_some_iff.1 Kr.out).1 Nr.out).trans Kr.out)
  replace Kv := Lib.hid ((hb.block _ (Array.getElem?_eq_some_iff.1 Kv.out).1 Nv.out).trans Kv.out)
  have R9 := Lib.hid hr
  replace SS := Lib.hid (And.intro hp hkk)
  replace BB := Lib.hid (BB.out.trans hb)
  clear hr hkk hp hb
  have u10 := cell_blk Kv.out (j := 3) rfl
  have v10 : w9.frozen? ⟨W0.heap.size, 3, none⟩ = false := by simp [World.frozen?, Kv.out]
  obtain ⟨E10, hE10⟩ : ∃ E, w9.setCell ⟨W0.heap.size, 3, none⟩ (.bool b9) = E := ⟨_, rfl⟩
  have hEo : ∀ j, j ≠ W0.heap.size → E10.heap[j]? = w9.heap[j]? := fun j hj => by rw [← hE10]; exact Below.heap_setCell w9 _ _ _ hj
  have hEz : E10.heap.size = w9.heap.size := by rw [← hE10]; simp [World.setCell]
  have hEk : E10.heap[W0.heap.size]? = some (.cells #[.string (str a5), .int .i64 3, .int .i64 (a7 : Int), .bool b9] 108 (0, 0)) := by rw [← hE10, setCell_eq_setRow _ _ _ _ 108 (0, 0) _ Kv.out]; exact setRow_heap _ _ _ _ 108 (0, 0) Kv.out
  replace Kr := Lib.hid ((hEo _ (Nat.ne_of_lt Vv.out)).trans Kr.out)
  replace Kv := Lib.hid hEk
  have hSo := SS.out.1.other (p := ⟨W0.heap.size, 3, none⟩) Nv.out Tv.out (.bool b9)
  have hBo := BB.out.putNew (p := ⟨W0.heap.size, 3, none⟩) Mv.out (.bool b9)
  rw [hE10] at hSo hBo
  replace SS := Lib.hid (And.intro hSo SS.out.2)
  replace BB := Lib.hid hBo
  clear hEo hEz hEk hSo hBo
  go_wp2_with fail
  try rw [hE10]
  clear hE10 u10 v10
  refine (CW.out k9 E10 SS.out.1 SS.out.2).mono ?_
  intro z w11 hc
  rcases hc with ⟨k11, a11, s11, hr, hkk, hp, hb, hz, hR⟩ | ⟨k11, e11, t11, hr, hp, hb, hz⟩
  rotate_left
  · subst hz
    have HN := Lib.hid (show Post RVar G p d w (WrongIs (e11 : Int) t11) w11 from .no k11 e11 t11 (by rw [← HG.out]; simp only [R5.out, R7.out, R9.out, if_neg (show ¬ (3 : Int) = 1 by decide), hr, Res.bind_ok, Res.bind_no]) hp (BB.out.trans hb) rfl)
    clear hr hp hb
    unfold WrongIs
    go_wp2_with fail
    exact ⟨rfl, HN.out⟩
  replace Kr := Lib.hid ((hb.block _ (Array.getElem?_eq_some_iff.1 Kr.out).1 Nr.out).trans Kr.out)
  replace Kv := Lib.hid ((hb.block _ (Array.getElem?_eq_some_iff.1 Kv.out).1 Nv.out).trans Kv.out)
  obtain rfl : z = .returned (.tuple #[]) := hz
  have R11 := Lib.hid hr
  replace SS := Lib.hid (And.intro hp hkk)
  replace BB := Lib.hid (BB.out.trans hb)
  clear hr hkk hp hb hR
  have l0 := cell_blk Kv.out (j := 0) rfl
  have l1 := cell_blk Kv.out (j := 1) rfl
  have l2 := cell_blk Kv.out (j := 2) rfl
  have l3 := cell_blk Kv.out (j := 3) rfl
  have z0 := cell_blk Kr.out (j := 0) rfl
  have z1 := cell_blk Kr.out (j := 1) rfl
  have z2 := cell_blk Kr.out (j := 2) rfl
  have z3 := cell_blk Kr.out (j := 3) rfl
  have hf : ∀ j, w11.frozen? ⟨w.heap.size, j, none⟩ = false := fun j => by simp [World.frozen?, Kr.out]
  have f0 := hf 0
  have f1 := hf 1
  have f2 := hf 2
  have f3 := hf 3
  clear hf
  have HR := Lib.hid (set4 Kr.out (.string (str a5)) (.int .i64 3) (.int .i64 (a7 : Int)) (.bool b9))
  go_wp2_with fail
  have hF := HR.out
  refine bodyPost_ret (v := .agg #[.string (str a5), .int .i64 3, .int .i64 (a7 : Int), .bool b9]) ?_ rfl ?_
  · have y0 := cell_blk hF (j := 0) rfl
    have y1 := cell_blk hF (j := 1) rfl
    have y2 := cell_blk hF (j := 2) rfl
    have y3 := cell_blk hF (j := 3) rfl
    generalize (((w11.setCell ⟨w.heap.size, 0, none⟩ (.string (str a5))).setCell ⟨w.heap.size, 1, none⟩ (.int .i64 3)).setCell ⟨w.heap.size, 2, none⟩ (.int .i64 (a7 : Int))).setCell ⟨w.heap.size, 3, none⟩ (.bool b9) = F at *
    simp [results, Tryz.results156, go_sem, y0, y1, y2, y3]
  · have hn1 : w.heap.size ≠ p.pb := Nr.out
    have hn2 : w.heap.size ≠ p.tb := Nr2.out
    refine .ok k11 ⟨a5, 3, a7, b9⟩ () (by rw [← HG.out]; first | rfl | simp only [R5.out, R7.out, R9.out, R11.out, if_neg (show ¬ (3 : Int) = 1 by decide), Res.bind_ok] | trace_state) SS.out.2 ?_ ?_ rfl ?_
    · exact (((SS.out.1.other (p := ⟨w.heap.size, 0, none⟩) hn1 hn2 _).other (p := ⟨w.heap.size, 1, none⟩) hn1 hn2 _).other (p := ⟨w.heap.size, 2, none⟩) hn1 hn2 _).other (p := ⟨w.heap.size, 3, none⟩) hn1 hn2 _
    · exact (((BB.out.putNew (p := ⟨w.heap.size, 0, none⟩) (Nat.le_refl _) _).putNew (p := ⟨w.heap.size, 1, none⟩) (Nat.le_refl _) _).putNew (p := ⟨w.heap.size, 2, none⟩) (Nat.le_refl _) _).putNew (p := ⟨w.heap.size, 3, none⟩) (Nat.le_refl _) _
    · exact fun _ _ => trivial
end Go.Proofs.YtchbnkepmeelkaaGreatDoor
