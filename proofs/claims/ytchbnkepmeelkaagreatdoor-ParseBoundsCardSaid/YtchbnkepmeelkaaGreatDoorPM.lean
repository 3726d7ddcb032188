/- A word of an array is set. -/
import Derived.Test.YtchbnkepmeelkaaGreatDoorPI
import Derived.Test.YtchbnkepmeelkaaGreatDoorPJ
namespace Go.Proofs.YtchbnkepmeelkaaGreatDoor
open Go.RowKit

def putP2 (n : Nat) (l : List Tok) : Res St := (nameP l).bind fun nm r => (placeP n r).bind fun a r => (wantP [61] r).bind fun _ r => (exprP n r).bind fun e r => (wantP [59] r).bind fun _ r => .ok (St.mk 2 nm [] e a .nil 0 0 .nil .nil) r
set_option maxRecDepth 100000 in
set_option maxHeartbeats 3200000 in
theorem put_p (n : Nat) (p : Pp) (k d : Nat) (w : World) (h : Ps w p.pb p.tb p.tf p.tc p.ts k d) (hk : k < p.ts.length) (hE : Ends p.ts) (HX : ExprC p n d) :
    Calls Tryz.prog 174 #[.pointer (some ⟨p.pb, 0, none⟩)] w (Post RStmt (putP2 n (p.ts.drop k)) p d w) := by
  have hpb := h.lt_pb
  have CX := Lib.hid (HX)
  have CN := Lib.hid (fun (k : Nat) (w : World) (h : Ps w p.pb p.tb p.tf p.tc p.ts k d) (hk : k < p.ts.length) => name_p p k d w h hk hE)
  have CP := Lib.hid (fun (k : Nat) (w : World) (h : Ps w p.pb p.tb p.tf p.tc p.ts k d) (hk : k < p.ts.length) => place_p n p k d w h hk hE HX)
  have CQ := Lib.hid (fun (k : Nat) (w : World) (h : Ps w p.pb p.tb p.tf p.tc p.ts k d) (hk : k < p.ts.length) => want_p [61] p k d w h hk hE (by decide))
  have CS := Lib.hid (fun (k : Nat) (w : World) (h : Ps w p.pb p.tb p.tf p.tc p.ts k d) (hk : k < p.ts.length) => want_p [59] p k d w h hk hE (by decide))
  obtain ⟨W0, hW0⟩ : ∃ W0, w.alloc (.cells #[.int .i64 0, .string ⟨#[]⟩, .slice none 0 0, .int .i64 0, .int .u64 0, .string ⟨#[]⟩, .slice none 0 0, .int .i64 0, .int .u64 0, .string ⟨#[]⟩, .slice none 0 0, .slice none 0 0, .int .u64 0, .int .u64 0, .slice none 0 0, .slice none 0 0] 69) = W0 := ⟨_, rfl⟩
  have hB0 : Below w.heap.size w W0 := by rw [← hW0]; exact (Below.refl _ _).alloc (Nat.le_refl _) _
  have Kr := Lib.hid (show W0.heap[w.heap.size]? = some (.cells #[.int .i64 0, .string ⟨#[]⟩, .slice none 0 0, .int .i64 0, .int .u64 0, .string ⟨#[]⟩, .slice none 0 0, .int .i64 0, .int .u64 0, .string ⟨#[]⟩, .slice none 0 0, .slice none 0 0, .int .u64 0, .int .u64 0, .slice none 0 0, .slice none 0 0] 69 (0, 0)) by rw [← hW0]; exact heap_alloc_new w _)
  have Nr := Lib.hid (Nat.ne_of_gt hpb)
  have Nr2 := Lib.hid (Nat.ne_of_gt h.lt)
  have BB := Lib.hid (But.of_below (g := p.pb) hB0)
  have SS := Lib.hid (And.intro (h.later hB0) hk)
  clear hB0
  have PB := Lib.hid hpb
  clear h hk hE hpb
  generalize hG : (putP2 n (p.ts.drop k)) = G
  unfold putP2 at hG
  have HG := Lib.hid hG
  clear hG
  go_enter Tryz.func174, Tryz.ntmps174
  go_wp2_with fail
  try rw [hW0]
  clear hW0
  have Va1 := Lib.hid (show w.heap.size < W0.heap.size from (Array.getElem?_eq_some_iff.1 Kr.out).1)
  refine (CN.out k W0 SS.out.1 SS.out.2).mono ?_
  intro z w1 hc
  rcases hc with ⟨k1, a1, s1, hr, hkk, hp, hb, hz, hR⟩ | ⟨k1, e1, t1, hr, hp, hb, hz⟩
  rotate_left
  · subst hz
    have HN := Lib.hid (show Post RStmt G p d w (WrongIs (e1 : Int) t1) w1 from .no k1 e1 t1 (by rw [← HG.out]; simp only [hr, Res.bind_no]) hp (BB.out.trans hb) rfl)
    clear hr hp hb
    unfold WrongIs
    go_wp2_with fail
    exact ⟨rfl, HN.out⟩
  replace Kr := Lib.hid ((hb.block _ (Array.getElem?_eq_some_iff.1 Kr.out).1 Nr.out).trans Kr.out)
  obtain rfl : z = .returned (.string (str a1)) := hz
  have R1 := Lib.hid hr
  replace SS := Lib.hid (And.intro hp hkk)
  replace BB := Lib.hid (BB.out.trans hb)
  clear hr hkk hp hb hR
  obtain ⟨Ae, hAe⟩ : ∃ A, w1.alloc (.cells #[.int .i64 2, .string (str a1), .slice none 0 0, .int .i64 0, .int .u64 0, .string ⟨#[]⟩, .slice none 0 0, .int .i64 0, .int .u64 0, .string ⟨#[]⟩, .slice none 0 0, .slice none 0 0, .int .u64 0, .int .u64 0, .slice none 0 0, .slice none 0 0] 69) = A := ⟨_, rfl⟩
  have VV := Lib.hid (show w.heap.size < w1.heap.size from (Array.getElem?_eq_some_iff.1 Kr.out).1)
  have hBA : Below w1.heap.size w1 Ae := by rw [← hAe]; exact (Below.refl _ _).alloc (Nat.le_refl _) _
  replace Kr := Lib.hid ((hBA.block _ (Array.getElem?_eq_some_iff.1 Kr.out).1).trans Kr.out)
  have Ke := Lib.hid (show Ae.heap[w1.heap.size]? = some (.cells #[.int .i64 2, .string (str a1), .slice none 0 0, .int .i64 0, .int .u64 0, .string ⟨#[]⟩, .slice none 0 0, .int .i64 0, .int .u64 0, .string ⟨#[]⟩, .slice none 0 0, .slice none 0 0, .int .u64 0, .int .u64 0, .slice none 0 0, .slice none 0 0] 69 (0, 0)) by rw [← hAe]; exact heap_alloc_new w1 _)
  have Ne := Lib.hid (Nat.ne_of_gt SS.out.1.lt_pb)
  have Te := Lib.hid (Nat.ne_of_gt SS.out.1.lt)
  have Me := Lib.hid (show w.heap.size ≤ w1.heap.size from BB.out.size)
  have Ve := Lib.hid (show w.heap.size < w1.heap.size from VV.out)
  replace SS := Lib.hid (And.intro (SS.out.1.later hBA) SS.out.2)
  replace BB := Lib.hid (BB.out.trans (But.of_below hBA))
  clear hBA
  have HAe := Lib.hid hAe
  clear hAe
  go_wp2_with (refine wpl_store_new rfl 69 _ _ rfl _ _ _ rfl rfl rfl infoSt rfl ?_)
  rw [HAe.out]
  clear HAe
  have Va2 := Lib.hid (show w.heap.size < Ae.heap.size from (Array.getElem?_eq_some_iff.1 Kr.out).1)
  have Uea2 := Lib.hid (show w1.heap.size < Ae.heap.size from (Array.getElem?_eq_some_iff.1 Ke.out).1)
  refine (CP.out k1 Ae SS.out.1 SS.out.2).mono ?_
  intro z w2 hc
  rcases hc with ⟨k2, a2, s2, hr, hkk, hp, hb, hz, hR⟩ | ⟨k2, e2, t2, hr, hp, hb, hz⟩
  rotate_left
  · subst hz
    have HN := Lib.hid (show Post RStmt G p d w (WrongIs (e2 : Int) t2) w2 from .no k2 e2 t2 (by rw [← HG.out]; simp only [R1.out, hr, Res.bind_ok, Res.bind_no]) hp (BB.out.trans hb) rfl)
    clear hr hp hb
    unfold WrongIs
    go_wp2_with fail
    exact ⟨rfl, HN.out⟩
  replace Kr := Lib.hid ((hb.block _ (Array.getElem?_eq_some_iff.1 Kr.out).1 Nr.out).trans Kr.out)
  replace Ke := Lib.hid ((hb.block _ (Array.getElem?_eq_some_iff.1 Ke.out).1 Ne.out).trans Ke.out)
  obtain ⟨qa2, ca2⟩ := s2
  obtain rfl : z = .returned (.agg #[.int .i64 a2.op, .int .u64 (a2.word : Int), .string (str a2.name), .slice qa2 a2.args.len ca2]) := hz
  have Fa2 := Lib.hid (show Fresh Ae.heap.size w2.heap.size w2 (fun W N => a2.Ok W N qa2) from hR)
  have Ga2 := Lib.hid SS.out.1.lt_pb
  have Za2 := Lib.hid (Nat.le_refl w2.heap.size)
  have Ya2 := Lib.hid (show w.heap.size ≤ Ae.heap.size from BB.out.size)
  have R2 := Lib.hid hr
  replace SS := Lib.hid (And.intro hp hkk)
  replace BB := Lib.hid (BB.out.trans hb)
  clear hr hkk hp hb hR
  have u7z := cell_blk Ke.out (j := 7) rfl
  have v7z : w2.frozen? ⟨w1.heap.size, 7, none⟩ = false := by simp [World.frozen?, Ke.out]
  have u8z := cell_blk Ke.out (j := 8) rfl
  have v8z : w2.frozen? ⟨w1.heap.size, 8, none⟩ = false := by simp [World.frozen?, Ke.out]
  have u9z := cell_blk Ke.out (j := 9) rfl
  have v9z : w2.frozen? ⟨w1.heap.size, 9, none⟩ = false := by simp [World.frozen?, Ke.out]
  have u10z := cell_blk Ke.out (j := 10) rfl
  have v10z : w2.frozen? ⟨w1.heap.size, 10, none⟩ = false := by simp [World.frozen?, Ke.out]
  have u3 := cell_blk Ke.out (j := 7) rfl
  have v3 : w2.frozen? ⟨w1.heap.size, 7, none⟩ = false := by simp [World.frozen?, Ke.out]
  obtain ⟨E3, hE3⟩ : ∃ E, w2.setCell ⟨w1.heap.size, 7, none⟩ (.int .i64 a2.op) = E := ⟨_, rfl⟩
  have hEo : ∀ j, j ≠ w1.heap.size → E3.heap[j]? = w2.heap[j]? := fun j hj => by rw [← hE3]; exact Below.heap_setCell w2 _ _ _ hj
  have hEz : E3.heap.size = w2.heap.size := by rw [← hE3]; simp [World.setCell]
  have hEk : E3.heap[w1.heap.size]? = some (.cells #[.int .i64 2, .string (str a1), .slice none 0 0, .int .i64 0, .int .u64 0, .string ⟨#[]⟩, .slice none 0 0, .int .i64 a2.op, .int .u64 0, .string ⟨#[]⟩, .slice none 0 0, .slice none 0 0, .int .u64 0, .int .u64 0, .slice none 0 0, .slice none 0 0] 69 (0, 0)) := by rw [← hE3, setCell_eq_setRow _ _ _ _ 69 (0, 0) _ Ke.out]; exact setRow_heap _ _ _ _ 69 (0, 0) Ke.out
  replace Kr := Lib.hid ((hEo _ (Nat.ne_of_lt Ve.out)).trans Kr.out)
  replace Ke := Lib.hid hEk
  replace Fa2 := Lib.hid (Fa2.out.to (Agr.at hEz hEo (by first | exact Or.inl Uea2.out | exact Or.inr Uea2.out) Za2.out))
  replace Za2 := Lib.hid (Nat.le_trans Za2.out (Nat.le_of_eq hEz.symm))
  have hSo := SS.out.1.other (p := ⟨w1.heap.size, 7, none⟩) Ne.out Te.out (.int .i64 a2.op)
  have hBo := BB.out.putNew (p := ⟨w1.heap.size, 7, none⟩) Me.out (.int .i64 a2.op)
  rw [hE3] at hSo hBo
  replace SS := Lib.hid (And.intro hSo SS.out.2)
  replace BB := Lib.hid hBo
  clear hEo hEz hEk hSo hBo
  clear u3 v3
  have u4 := cell_blk Ke.out (j := 8) rfl
  have v4 : E3.frozen? ⟨w1.heap.size, 8, none⟩ = false := by simp [World.frozen?, Ke.out]
  obtain ⟨E4, hE4⟩ : ∃ E, E3.setCell ⟨w1.heap.size, 8, none⟩ (.int .u64 (a2.word : Int)) = E := ⟨_, rfl⟩
  have hEo : ∀ j, j ≠ w1.heap.size → E4.heap[j]? = E3.heap[j]? := fun j hj => by rw [← hE4]; exact Below.heap_setCell E3 _ _ _ hj
  have hEz : E4.heap.size = E3.heap.size := by rw [← hE4]; simp [World.setCell]
  have hEk : E4.heap[w1.heap.size]? = some (.cells #[.int .i64 2, .string (str a1), .slice none 0 0, .int .i64 0, .int .u64 0, .string ⟨#[]⟩, .slice none 0 0, .int .i64 a2.op, .int .u64 (a2.word : Int), .string ⟨#[]⟩, .slice none 0 0, .slice none 0 0, .int .u64 0, .int .u64 0, .slice none 0 0, .slice none 0 0] 69 (0, 0)) := by rw [← hE4, setCell_eq_setRow _ _ _ _ 69 (0, 0) _ Ke.out]; exact setRow_heap _ _ _ _ 69 (0, 0) Ke.out
  replace Kr := Lib.hid ((hEo _ (Nat.ne_of_lt Ve.out)).trans Kr.out)
  replace Ke := Lib.hid hEk
  replace Fa2 := Lib.hid (Fa2.out.to (Agr.at hEz hEo (by first | exact Or.inl Uea2.out | exact Or.inr Uea2.out) Za2.out))
  replace Za2 := Lib.hid (Nat.le_trans Za2.out (Nat.le_of_eq hEz.symm))
  have hSo := SS.out.1.other (p := ⟨w1.heap.size, 8, none⟩) Ne.out Te.out (.int .u64 (a2.word : Int))
  have hBo := BB.out.putNew (p := ⟨w1.heap.size, 8, none⟩) Me.out (.int .u64 (a2.word : Int))
  rw [hE4] at hSo hBo
  replace SS := Lib.hid (And.intro hSo SS.out.2)
  replace BB := Lib.hid hBo
  clear hEo hEz hEk hSo hBo
  clear u4 v4
  have u5 := cell_blk Ke.out (j := 9) rfl
  have v5 : E4.frozen? ⟨w1.heap.size, 9, none⟩ = false := by simp [World.frozen?, Ke.out]
  obtain ⟨E5, hE5⟩ : ∃ E, E4.setCell ⟨w1.heap.size, 9, none⟩ (.string (str a2.name)) = E := ⟨_, rfl⟩
  have hEo : ∀ j, j ≠ w1.heap.size → E5.heap[j]? = E4.heap[j]? := fun j hj => by rw [← hE5]; exact Below.heap_setCell E4 _ _ _ hj
  have hEz : E5.heap.size = E4.heap.size := by rw [← hE5]; simp [World.setCell]
  have hEk : E5.heap[w1.heap.size]? = some (.cells #[.int .i64 2, .string (str a1), .slice none 0 0, .int .i64 0, .int .u64 0, .string ⟨#[]⟩, .slice none 0 0, .int .i64 a2.op, .int .u64 (a2.word : Int), .string (str a2.name), .slice none 0 0, .slice none 0 0, .int .u64 0, .int .u64 0, .slice none 0 0, .slice none 0 0] 69 (0, 0)) := by rw [← hE5, setCell_eq_setRow _ _ _ _ 69 (0, 0) _ Ke.out]; exact setRow_heap _ _ _ _ 69 (0, 0) Ke.out
  replace Kr := Lib.hid ((hEo _ (Nat.ne_of_lt Ve.out)).trans Kr.out)
  replace Ke := Lib.hid hEk
  replace Fa2 := Lib.hid (Fa2.out.to (Agr.at hEz hEo (by first | exact Or.inl Uea2.out | exact Or.inr Uea2.out) Za2.out))
  replace Za2 := Lib.hid (Nat.le_trans Za2.out (Nat.le_of_eq hEz.symm))
  have hSo := SS.out.1.other (p := ⟨w1.heap.size, 9, none⟩) Ne.out Te.out (.string (str a2.name))
  have hBo := BB.out.putNew (p := ⟨w1.heap.size, 9, none⟩) Me.out (.string (str a2.name))
  rw [hE5] at hSo hBo
  replace SS := Lib.hid (And.intro hSo SS.out.2)
  replace BB := Lib.hid hBo
  clear hEo hEz hEk hSo hBo
  clear u5 v5
  have u6 := cell_blk Ke.out (j := 10) rfl
  have v6 : E5.frozen? ⟨w1.heap.size, 10, none⟩ = false := by simp [World.frozen?, Ke.out]
  obtain ⟨E6, hE6⟩ : ∃ E, E5.setCell ⟨w1.heap.size, 10, none⟩ (.slice qa2 a2.args.len ca2) = E := ⟨_, rfl⟩
  have hEo : ∀ j, j ≠ w1.heap.size → E6.heap[j]? = E5.heap[j]? := fun j hj => by rw [← hE6]; exact Below.heap_setCell E5 _ _ _ hj
  have hEz : E6.heap.size = E5.heap.size := by rw [← hE6]; simp [World.setCell]
  have hEk : E6.heap[w1.heap.size]? = some (.cells #[.int .i64 2, .string (str a1), .slice none 0 0, .int .i64 0, .int .u64 0, .string ⟨#[]⟩, .slice none 0 0, .int .i64 a2.op, .int .u64 (a2.word : Int), .string (str a2.name), .slice qa2 a2.args.len ca2, .slice none 0 0, .int .u64 0, .int .u64 0, .slice none 0 0, .slice none 0 0] 69 (0, 0)) := by rw [← hE6, setCell_eq_setRow _ _ _ _ 69 (0, 0) _ Ke.out]; exact setRow_heap _ _ _ _ 69 (0, 0) Ke.out
  replace Kr := Lib.hid ((hEo _ (Nat.ne_of_lt Ve.out)).trans Kr.out)
  replace Ke := Lib.hid hEk
  replace Fa2 := Lib.hid (Fa2.out.to (Agr.at hEz hEo (by first | exact Or.inl Uea2.out | exact Or.inr Uea2.out) Za2.out))
  replace Za2 := Lib.hid (Nat.le_trans Za2.out (Nat.le_of_eq hEz.symm))
  have hSo := SS.out.1.other (p := ⟨w1.heap.size, 10, none⟩) Ne.out Te.out (.slice qa2 a2.args.len ca2)
  have hBo := BB.out.putNew (p := ⟨w1.heap.size, 10, none⟩) Me.out (.slice qa2 a2.args.len ca2)
  rw [hE6] at hSo hBo
  replace SS := Lib.hid (And.intro hSo SS.out.2)
  replace BB := Lib.hid hBo
  clear hEo hEz hEk hSo hBo
  clear u6 v6
  have HE3 := Lib.hid hE3
  clear hE3
  have HE4 := Lib.hid hE4
  clear hE4
  have HE5 := Lib.hid hE5
  clear hE5
  have HE6 := Lib.hid hE6
  clear hE6
  go_upto_region 3 with fail
  rw [HE3.out]
  rw [HE4.out]
  rw [HE5.out]
  rw [HE6.out]
  clear HE3 HE4 HE5 HE6 u7z v7z u8z v8z u9z v9z u10z v10z
  go_wp2_with fail
  refine (CQ.out k2 E6 SS.out.1 SS.out.2).mono ?_
  intro z w7 hc
  rcases hc with ⟨k7, a7, s7, hr, hkk, hp, hb, hz, hR⟩ | ⟨k7, e7, t7, hr, hp, hb, hz⟩
  rotate_left
  · subst hz
    have HN := Lib.hid (show Post RStmt G p d w (WrongIs (e7 : Int) t7) w7 from .no k7 e7 t7 (by rw [← HG.out]; simp only [R1.out, R2.out, hr, Res.bind_ok, Res.bind_no]) hp (BB.out.trans hb) rfl)
    clear hr hp hb
    unfold WrongIs
    go_wp2_with fail
    exact ⟨rfl, HN.out⟩
  replace Kr := Lib.hid ((hb.block _ (Array.getElem?_eq_some_iff.1 Kr.out).1 Nr.out).trans Kr.out)
  replace Ke := Lib.hid ((hb.block _ (Array.getElem?_eq_some_iff.1 Ke.out).1 Ne.out).trans Ke.out)
  replace Fa2 := Lib.hid (Fa2.out.but hb Ga2.out Za2.out)
  replace Za2 := Lib.hid (Nat.le_trans Za2.out hb.size)
  replace Ya2 := Lib.hid Ya2.out
  obtain rfl : z = .returned (.tuple #[]) := hz
  have R7 := Lib.hid hr
  replace SS := Lib.hid (And.intro hp hkk)
  replace BB := Lib.hid (BB.out.trans hb)
  clear hr hkk hp hb hR
  go_wp2_with fail
  have Va8 := Lib.hid (show w.heap.size < w7.heap.size from (Array.getElem?_eq_some_iff.1 Kr.out).1)
  have Uea8 := Lib.hid (show w1.heap.size < w7.heap.size from (Array.getElem?_eq_some_iff.1 Ke.out).1)
  refine (CX.out k7 w7 SS.out.1 SS.out.2).mono ?_
  intro z w8 hc
  rcases hc with ⟨k8, a8, s8, hr, hkk, hp, hb, hz, hR⟩ | ⟨k8, e8, t8, hr, hp, hb, hz⟩
  rotate_left
  · subst hz
    have HN := Lib.hid (show Post RStmt G p d w (WrongIs (e8 : Int) t8) w8 from .no k8 e8 t8 (by rw [← HG.out]; simp only [R1.out, R2.out, R7.out, hr, Res.bind_ok, Res.bind_no]) hp (BB.out.trans hb) rfl)
    clear hr hp hb
    unfold WrongIs
    go_wp2_with fail
    exact ⟨rfl, HN.out⟩
  replace Kr := Lib.hid ((hb.block _ (Array.getElem?_eq_some_iff.1 Kr.out).1 Nr.out).trans Kr.out)
  replace Ke := Lib.hid ((hb.block _ (Array.getElem?_eq_some_iff.1 Ke.out).1 Ne.out).trans Ke.out)
  replace Fa2 := Lib.hid (Fa2.out.but hb Ga2.out Za2.out)
  replace Za2 := Lib.hid (Nat.le_trans Za2.out hb.size)
  replace Ya2 := Lib.hid Ya2.out
  obtain ⟨qa8, ca8⟩ := s8
  obtain rfl : z = .returned (.agg #[.int .i64 a8.op, .int .u64 (a8.word : Int), .string (str a8.name), .slice qa8 a8.args.len ca8]) := hz
  have Fa8 := Lib.hid (show Fresh w7.heap.size w8.heap.size w8 (fun W N => a8.Ok W N qa8) from hR)
  have Ga8 := Lib.hid SS.out.1.lt_pb
  have Za8 := Lib.hid (Nat.le_refl w8.heap.size)
  have Ya8 := Lib.hid (show w.heap.size ≤ w7.heap.size from BB.out.size)
  have R8 := Lib.hid hr
  replace SS := Lib.hid (And.intro hp hkk)
  replace BB := Lib.hid (BB.out.trans hb)
  clear hr hkk hp hb hR
  have u3z := cell_blk Ke.out (j := 3) rfl
  have v3z : w8.frozen? ⟨w1.heap.size, 3, none⟩ = false := by simp [World.frozen?, Ke.out]
  have u4z := cell_blk Ke.out (j := 4) rfl
  have v4z : w8.frozen? ⟨w1.heap.size, 4, none⟩ = false := by simp [World.frozen?, Ke.out]
  have u5z := cell_blk Ke.out (j := 5) rfl
  have v5z : w8.frozen? ⟨w1.heap.size, 5, none⟩ = false := by simp [World.frozen?, Ke.out]
  have u6z := cell_blk Ke.out (j := 6) rfl
  have v6z : w8.frozen? ⟨w1.heap.size, 6, none⟩ = false := by simp [World.frozen?, Ke.out]
  have u9 := cell_blk Ke.out (j := 3) rfl
  have v9 : w8.frozen? ⟨w1.heap.size, 3, none⟩ = false := by simp [World.frozen?, Ke.out]
  obtain ⟨E9, hE9⟩ : ∃ E, w8.setCell ⟨w1.heap.size, 3, none⟩ (.int .i64 a8.op) = E := ⟨_, rfl⟩
  have hEo : ∀ j, j ≠ w1.heap.size → E9.heap[j]? = w8.heap[j]? := fun j hj => by rw [← hE9]; exact Below.heap_setCell w8 _ _ _ hj
  have hEz : E9.heap.size = w8.heap.size := by rw [← hE9]; simp [World.setCell]
  have hEk : E9.heap[w1.heap.size]? = some (.cells #[.int .i64 2, .string (str a1), .slice none 0 0, .int .i64 a8.op, .int .u64 0, .string ⟨#[]⟩, .slice none 0 0, .int .i64 a2.op, .int .u64 (a2.word : Int), .string (str a2.name), .slice qa2 a2.args.len ca2, .slice none 0 0, .int .u64 0, .int .u64 0, .slice none 0 0, .slice none 0 0] 69 (0, 0)) := by rw [← hE9, setCell_eq_setRow _ _ _ _ 69 (0, 0) _ Ke.out]; exact setRow_heap _ _ _ _ 69 (0, 0) Ke.out
  replace Kr := Lib.hid ((hEo _ (Nat.ne_of_lt Ve.out)).trans Kr.out)
  replace Ke := Lib.hid hEk
  replace Fa2 := Lib.hid (Fa2.out.to (Agr.at hEz hEo (by first | exact Or.inl Uea2.out | exact Or.inr Uea2.out) Za2.out))
  replace Za2 := Lib.hid (Nat.le_trans Za2.out (Nat.le_of_eq hEz.symm))
  replace Fa8 := Lib.hid (Fa8.out.to (Agr.at hEz hEo (by first | exact Or.inl Uea8.out | exact Or.inr Uea8.out) Za8.out))
  replace Za8 := Lib.hid (Nat.le_trans Za8.out (Nat.le_of_eq hEz.symm))
  have hSo := SS.out.1.other (p := ⟨w1.heap.size, 3, none⟩) Ne.out Te.out (.int .i64 a8.op)
  have hBo := BB.out.putNew (p := ⟨w1.heap.size, 3, none⟩) Me.out (.int .i64 a8.op)
  rw [hE9] at hSo hBo
  replace SS := Lib.hid (And.intro hSo SS.out.2)
  replace BB := Lib.hid hBo
  clear hEo hEz hEk hSo hBo
  clear u9 v9
  have u10 := cell_blk Ke.out (j := 4) rfl
  have v10 : E9.frozen? ⟨w1.heap.size, 4, none⟩ = false := by simp [World.frozen?, Ke.out]
  obtain ⟨E10, hE10⟩ : ∃ E, E9.setCell ⟨w1.heap.size, 4, none⟩ (.int .u64 (a8.word : Int)) = E := ⟨_, rfl⟩
  have hEo : ∀ j, j ≠ w1.heap.size → E10.heap[j]? = E9.heap[j]? := fun j hj => by rw [← hE10]; exact Below.heap_setCell E9 _ _ _ hj
  have hEz : E10.heap.size = E9.heap.size := by rw [← hE10]; simp [World.setCell]
  have hEk : E10.heap[w1.heap.size]? = some (.cells #[.int .i64 2, .string (str a1), .slice none 0 0, .int .i64 a8.op, .int .u64 (a8.word : Int), .string ⟨#[]⟩, .slice none 0 0, .int .i64 a2.op, .int .u64 (a2.word : Int), .string (str a2.name), .slice qa2 a2.args.len ca2, .slice none 0 0, .int .u64 0, .int .u64 0, .slice none 0 0, .slice none 0 0] 69 (0, 0)) := by rw [← hE10, setCell_eq_setRow _ _ _ _ 69 (0, 0) _ Ke.out]; exact setRow_heap _ _ _ _ 69 (0, 0) Ke.out
  replace Kr := Lib.hid ((hEo _ (Nat.ne_of_lt Ve.out)).trans Kr.out)
  replace Ke := Lib.hid hEk
  replace Fa2 := Lib.hid (Fa2.out.to (Agr.at hEz hEo (by first | exact Or.inl Uea2.out | exact Or.inr Uea2.out) Za2.out))
  replace Za2 := Lib.hid (Nat.le_trans Za2.out (Nat.le_of_eq hEz.symm))
  replace Fa8 := Lib.hid (Fa8.out.to (Agr.at hEz hEo (by first | exact Or.inl Uea8.out | exact Or.inr Uea8.out) Za8.out))
  replace Za8 := Lib.hid (Nat.le_trans Za8.out (Nat.le_of_eq hEz.symm))
  have hSo := SS.out.1.other (p := ⟨w1.heap.size, 4, none⟩) Ne.out Te.out (.int .u64 (a8.word : Int))
  have hBo := BB.out.putNew (p := ⟨w1.heap.size, 4, none⟩) Me.out (.int .u64 (a8.word : Int))
  rw [hE10] at hSo hBo
  replace SS := Lib.hid (And.intro hSo SS.out.2)
  replace BB := Lib.hid hBo
  clear hEo hEz hEk hSo hBo
  clear u10 v10
  have u11 := cell_blk Ke.out (j := 5) rfl
  have v11 : E10.frozen? ⟨w1.heap.size, 5, none⟩ = false := by simp [World.frozen?, Ke.out]
  obtain ⟨E11, hE11⟩ : ∃ E, E10.setCell ⟨w1.heap.size, 5, none⟩ (.string (str a8.name)) = E := ⟨_, rfl⟩
  have hEo : ∀ j, j ≠ w1.heap.size → E11.heap[j]? = E10.heap[j]? := fun j hj => by rw [← hE11]; exact Below.heap_setCell E10 _ _ _ hj
  have hEz : E11.heap.size = E10.heap.size := by rw [← hE11]; simp [World.setCell]
  have hEk : E11.heap[w1.heap.size]? = some (.cells #[.int .i64 2, .string (str a1), .slice none 0 0, .int .i64 a8.op, .int .u64 (a8.word : Int), .string (str a8.name), .slice none 0 0, .int .i64 a2.op, .int .u64 (a2.word : Int), .string (str a2.name), .slice qa2 a2.args.len ca2, .slice none 0 0, .int .u64 0, .int .u64 0, .slice none 0 0, .slice none 0 0] 69 (0, 0)) := by rw [← hE11, setCell_eq_setRow _ _ _ _ 69 (0, 0) _ Ke.out]; exact setRow_heap _ _ _ _ 69 (0, 0) Ke.out
  replace Kr := Lib.hid ((hEo _ (Nat.ne_of_lt Ve.out)).trans Kr.out)
  replace Ke := Lib.hid hEk
  replace Fa2 := Lib.hid (Fa2.out.to (Agr.at hEz hEo (by first | exact Or.inl Uea2.out | exact Or.inr Uea2.out) Za2.out))
  replace Za2 := Lib.hid (Nat.le_trans Za2.out (Nat.le_of_eq hEz.symm))
  replace Fa8 := Lib.hid (Fa8.out.to (Agr.at hEz hEo (by first | exact Or.inl Uea8.out | exact Or.inr Uea8.out) Za8.out))
  replace Za8 := Lib.hid (Nat.le_trans Za8.out (Nat.le_of_eq hEz.symm))
  have hSo := SS.out.1.other (p := ⟨w1.heap.size, 5, none⟩) Ne.out Te.out (.string (str a8.name))
  have hBo := BB.out.putNew (p := ⟨w1.heap.size, 5, none⟩) Me.out (.string (str a8.name))
  rw [hE11] at hSo hBo
  replace SS := Lib.hid (And.intro hSo SS.out.2)
  replace BB := Lib.hid hBo
  clear hEo hEz hEk hSo hBo
  clear u11 v11
  have u12 := cell_blk Ke.out (j := 6) rfl
  have v12 : E11.frozen? ⟨w1.heap.size, 6, none⟩ = false := by simp [World.frozen?, Ke.out]
  obtain ⟨E12, hE12⟩ : ∃ E, E11.setCell ⟨w1.heap.size, 6, none⟩ (.slice qa8 a8.args.len ca8) = E := ⟨_, rfl⟩
  have hEo : ∀ j, j ≠ w1.heap.size → E12.heap[j]? = E11.heap[j]? := fun j hj => by rw [← hE12]; exact Below.heap_setCell E11 _ _ _ hj
  have hEz : E12.heap.size = E11.heap.size := by rw [← hE12]; simp [World.setCell]
  have hEk : E12.heap[w1.heap.size]? = some (.cells #[.int .i64 2, .string (str a1), .slice none 0 0, .int .i64 a8.op, .int .u64 (a8.word : Int), .string (str a8.name), .slice qa8 a8.args.len ca8, .int .i64 a2.op, .int .u64 (a2.word : Int), .string (str a2.name), .slice qa2 a2.args.len ca2, .slice none 0 0, .int .u64 0, .int .u64 0, .slice none 0 0, .slice none 0 0] 69 (0, 0)) := by rw [← hE12, setCell_eq_setRow _ _ _ _ 69 (0, 0) _ Ke.out]; exact setRow_heap _ _ _ _ 69 (0, 0) Ke.out
  replace Kr := Lib.hid ((hEo _ (Nat.ne_of_lt Ve.out)).trans Kr.out)
  replace Ke := Lib.hid hEk
  replace Fa2 := Lib.hid (Fa2.out.to (Agr.at hEz hEo (by first | exact Or.inl Uea2.out | exact Or.inr Uea2.out) Za2.out))
  replace Za2 := Lib.hid (Nat.le_trans Za2.out (Nat.le_of_eq hEz.symm))
  replace Fa8 := Lib.hid (Fa8.out.to (Agr.at hEz hEo (by first | exact Or.inl Uea8.out | exact Or.inr Uea8.out) Za8.out))
  replace Za8 := Lib.hid (Nat.le_trans Za8.out (Nat.le_of_eq hEz.symm))
  have hSo := SS.out.1.other (p := ⟨w1.heap.size, 6, none⟩) Ne.out Te.out (.slice qa8 a8.args.len ca8)
  have hBo := BB.out.putNew (p := ⟨w1.heap.size, 6, none⟩) Me.out (.slice qa8 a8.args.len ca8)
  rw [hE12] at hSo hBo
  replace SS := Lib.hid (And.intro hSo SS.out.2)
  replace BB := Lib.hid hBo
  clear hEo hEz hEk hSo hBo
  clear u12 v12
  have HE9 := Lib.hid hE9
  clear hE9
  have HE10 := Lib.hid hE10
  clear hE10
  have HE11 := Lib.hid hE11
  clear hE11
  have HE12 := Lib.hid hE12
  clear hE12
  go_upto_region 5 with fail
  rw [HE9.out]
  rw [HE10.out]
  rw [HE11.out]
  rw [HE12.out]
  clear HE9 HE10 HE11 HE12 u3z v3z u4z v4z u5z v5z u6z v6z
  go_wp2_with fail
  refine (CS.out k8 E12 SS.out.1 SS.out.2).mono ?_
  intro z w13 hc
  rcases hc with ⟨k13, a13, s13, hr, hkk, hp, hb, hz, hR⟩ | ⟨k13, e13, t13, hr, hp, hb, hz⟩
  rotate_left
  · subst hz
    have HN := Lib.hid (show Post RStmt G p d w (WrongIs (e13 : Int) t13) w13 from .no k13 e13 t13 (by rw [← HG.out]; simp only [R1.out, R2.out, R7.out, R8.out, hr, Res.bind_ok, Res.bind_no]) hp (BB.out.trans hb) rfl)
    clear hr hp hb
    unfold WrongIs
    go_wp2_with fail
    exact ⟨rfl, HN.out⟩
  replace Kr := Lib.hid ((hb.block _ (Array.getElem?_eq_some_iff.1 Kr.out).1 Nr.out).trans Kr.out)
  replace Ke := Lib.hid ((hb.block _ (Array.getElem?_eq_some_iff.1 Ke.out).1 Ne.out).trans Ke.out)
  replace Fa2 := Lib.hid (Fa2.out.but hb Ga2.out Za2.out)
  replace Za2 := Lib.hid (Nat.le_trans Za2.out hb.size)
  replace Ya2 := Lib.hid Ya2.out
  replace Fa8 := Lib.hid (Fa8.out.but hb Ga8.out Za8.out)
  replace Za8 := Lib.hid (Nat.le_trans Za8.out hb.size)
  replace Ya8 := Lib.hid Ya8.out
  obtain rfl : z = .returned (.tuple #[]) := hz
  have R13 := Lib.hid hr
  replace SS := Lib.hid (And.intro hp hkk)
  replace BB := Lib.hid (BB.out.trans hb)
  clear hr hkk hp hb hR
  have hrz := (Array.getElem?_eq_some_iff.1 Kr.out).1
  have HRz := Lib.hid hrz
  clear hrz
  go_wp2_with (first | (refine wpl_load rfl 69 _ rfl (w1.heap.size) 0 rfl #[.int .i64 2, .string (str a1), .slice none 0 0, .int .i64 a8.op, .int .u64 (a8.word : Int), .string (str a8.name), .slice qa8 a8.args.len ca8, .int .i64 a2.op, .int .u64 (a2.word : Int), .string (str a2.name), .slice qa2 a2.args.len ca2, .slice none 0 0, .int .u64 0, .int .u64 0, .slice none 0 0, .slice none 0 0] _ (range_block Ke.out) Tryz.underlying69 rfl infoSt ?_) | (refine wpl_put rfl _ _ _ rfl rfl w.heap.size 0 (.agg #[.int .i64 2, .string (str a1), .slice none 0 0, .int .i64 a8.op, .int .u64 (a8.word : Int), .string (str a8.name), .slice qa8 a8.args.len ca8, .int .i64 a2.op, .int .u64 (a2.word : Int), .string (str a2.name), .slice qa2 a2.args.len ca2, .slice none 0 0, .int .u64 0, .int .u64 0, .slice none 0 0, .slice none 0 0]) rfl rfl _ _ Kr.out (by exact Nat.le_of_ble_eq_true rfl) infoSt rfl ?_; intro wF hF hbF hzF))
  have hG : wF.heap[w.heap.size]? = some (.cells #[.int .i64 2, .string (str a1), .slice none 0 0, .int .i64 a8.op, .int .u64 (a8.word : Int), .string (str a8.name), .slice qa8 a8.args.len ca8, .int .i64 a2.op, .int .u64 (a2.word : Int), .string (str a2.name), .slice qa2 a2.args.len ca2, .slice none 0 0, .int .u64 0, .int .u64 0, .slice none 0 0, .slice none 0 0] 69 (0, 0)) := hF.trans (congrArg (fun a => some (Obj.cells a 69 (0, 0))) (putA_all (cur := #[.int .i64 0, .string ⟨#[]⟩, .slice none 0 0, .int .i64 0, .int .u64 0, .string ⟨#[]⟩, .slice none 0 0, .int .i64 0, .int .u64 0, .string ⟨#[]⟩, .slice none 0 0, .slice none 0 0, .int .u64 0, .int .u64 0, .slice none 0 0, .slice none 0 0]) (vs := #[.int .i64 2, .string (str a1), .slice none 0 0, .int .i64 a8.op, .int .u64 (a8.word : Int), .string (str a8.name), .slice qa8 a8.args.len ca8, .int .i64 a2.op, .int .u64 (a2.word : Int), .string (str a2.name), .slice qa2 a2.args.len ca2, .slice none 0 0, .int .u64 0, .int .u64 0, .slice none 0 0, .slice none 0 0]) rfl))
  clear hF
  refine bodyPost_ret (v := .agg #[.int .i64 2, .string (str a1), .slice none 0 0, .int .i64 a8.op, .int .u64 (a8.word : Int), .string (str a8.name), .slice qa8 a8.args.len ca8, .int .i64 a2.op, .int .u64 (a2.word : Int), .string (str a2.name), .slice qa2 a2.args.len ca2, .slice none 0 0, .int .u64 0, .int .u64 0, .slice none 0 0, .slice none 0 0]) ?_ rfl ?_
  · have y0 := cell_blk hG (j := 0) rfl
    have y1 := cell_blk hG (j := 1) rfl
    have y2 := cell_blk hG (j := 2) rfl
    have y3 := cell_blk hG (j := 3) rfl
    have y4 := cell_blk hG (j := 4) rfl
    have y5 := cell_blk hG (j := 5) rfl
    have y6 := cell_blk hG (j := 6) rfl
    have y7 := cell_blk hG (j := 7) rfl
    have y8 := cell_blk hG (j := 8) rfl
    have y9 := cell_blk hG (j := 9) rfl
    have y10 := cell_blk hG (j := 10) rfl
    have y11 := cell_blk hG (j := 11) rfl
    have y12 := cell_blk hG (j := 12) rfl
    have y13 := cell_blk hG (j := 13) rfl
    have y14 := cell_blk hG (j := 14) rfl
    have y15 := cell_blk hG (j := 15) rfl
    simp [results, Tryz.results174, go_sem, y0, y1, y2, y3, y4, y5, y6, y7, y8, y9, y10, y11, y12, y13, y14, y15]
  · refine .ok k13 (.mk 2 a1 [] a8 a2 .nil 0 0 .nil .nil) ⟨none, qa8, qa2, none, none, none, 0, ca8, ca2, 0, 0, 0⟩ (by rw [← HG.out]; first | rfl | simp only [R1.out, R2.out, R7.out, R8.out, R13.out, Res.bind_ok] | trace_state) SS.out.2 (SS.out.1.aside hbF Nr.out Nr2.out) (BB.out.fin hbF (Nat.le_refl _)) rfl ?_
    intro W hW
    have oa2 := ((Fa2.out.asd hbF (by first | exact Or.inl Va2.out | exact Or.inr Va2.out) Za2.out).fin Ya2.out (Nat.le_trans Za2.out hbF.size) (fun W h => Ex.Ok.up h (Nat.le_trans Za2.out hbF.size))) W hW
    have oa8 := ((Fa8.out.asd hbF (by first | exact Or.inl Va8.out | exact Or.inr Va8.out) Za8.out).fin Ya8.out (Nat.le_trans Za8.out hbF.size) (fun W h => Ex.Ok.up h (Nat.le_trans Za8.out hbF.size))) W hW
    exact ⟨names_nil _ _ _, oa8, oa2, Exs.In.nil _ _ _, sts_nil _ _, sts_nil _ _, zero_u64, zero_u64⟩
end Go.Proofs.YtchbnkepmeelkaaGreatDoor
