/- KT1, KT2 as one. -/
import Derived.Test.YtchbnkepmeelkaaGreatDoorPS2
/- Parameters, variables, regions. -/
namespace Go.Proofs.YtchbnkepmeelkaaGreatDoor
open Go.RowKit

theorem take_p (s : List UInt8) (hs : s ≠ []) (p : Pp) (k d : Nat) (w : World) (h : Ps w p.pb p.tb p.tf p.tc p.ts k d) (hk : k < p.ts.length) (hE : Ends p.ts) :
    Calls Tryz.prog 152 #[.pointer (some ⟨p.pb, 0, none⟩), .string (str s)] w fun e w' => ∃ k' b, takeP s (p.ts.drop k) = (b, p.ts.drop k') ∧ e = .returned (.bool b) ∧ Ps w' p.pb p.tb p.tf p.tc p.ts k' d ∧ But p.pb w w' ∧ k' < p.ts.length := by
  unfold takeP
  by_cases ht : (hdT (p.ts.drop k)).text = s
  · refine (take_yes s p k d w h hk ht).mono ?_
    rintro z w' ⟨rfl, h1, h2⟩
    exact ⟨k + 1, true, by rw [if_pos ht, drop_tl], rfl, h1, h2, hd_next hE hk (.inl (by rw [ht]; exact hs))⟩
  · refine (take_no s p k d w h hk ht).mono ?_
    rintro z w' ⟨rfl, h1, h2⟩
    exact ⟨k, false, by rw [if_neg ht], rfl, h1, h2, hk⟩
def RVar : Rep Vr := ⟨Unit, fun x _ => .agg #[.string (str x.name), .int .i64 x.kind, .int .i64 x.size, .bool x.secret], fun _ _ _ _ => True⟩
def RRgn : Rep Rgn := ⟨Unit, fun x _ => .agg #[.string (str x.name), .int .i64 x.addr, .int .i64 x.size, .bool x.secret], fun _ _ _ _ => True⟩
set_option maxRecDepth 100000 in
set_option maxHeartbeats 3200000 in
theorem param_p (p : Pp) (k d : Nat) (w : World) (h : Ps w p.pb p.tb p.tf p.tc p.ts k d) (hk : k < p.ts.length) (hE : Ends p.ts) :
    Calls Tryz.prog 154 #[.pointer (some ⟨p.pb, 0, none⟩)] w (Post RVar (paramP (p.ts.drop k)) p d w) := by
  have hpb := h.lt_pb
  have CN := Lib.hid (fun (k : Nat) (w : World) (h : Ps w p.pb p.tb p.tf p.tc p.ts k d) (hk : k < p.ts.length) => name_p p k d w h hk hE)
  have CT := Lib.hid (fun (k : Nat) (w : World) (h : Ps w p.pb p.tb p.tf p.tc p.ts k d) (hk : k < p.ts.length) => take_p wSecret (by decide) p k d w h hk hE)
  obtain ⟨W0, hW0⟩ : ∃ W0, w.alloc (.cells #[.string ⟨#[]⟩, .int .i64 0, .int .i64 0, .bool false] 108) = W0 := ⟨_, rfl⟩
  have hB0 : Below w.heap.size w W0 := by rw [← hW0]; exact (Below.refl _ _).alloc (Nat.le_refl _) _
  have Kr := Lib.hid (show W0.heap[w.heap.size]? = some (.cells #[.string ⟨#[]⟩, .int .i64 0, .int .i64 0, .bool false] 108 (0, 0)) by rw [← hW0]; exact heap_alloc_new w _)
  have Nr := Lib.hid (Nat.ne_of_gt hpb)
  have Nr2 := Lib.hid (Nat.ne_of_gt h.lt)
  have BB := Lib.hid (But.of_below (g := p.pb) hB0)
  have SS := Lib.hid (And.intro (h.later hB0) hk)
  clear hB0
  have PB := Lib.hid hpb
  clear h hk hE hpb
  generalize hG : (paramP (p.ts.drop k)) = G
  unfold paramP at hG
  have HG := Lib.hid hG
  clear hG
  go_enter Tryz.func154, Tryz.ntmps154
  go_wp2_with fail
  try rw [hW0]
  clear hW0
  have Va1 := Lib.hid (show w.heap.size < W0.heap.size from (Array.getElem?_eq_some_iff.1 Kr.out).1)
  refine (CN.out k W0 SS.out.1 SS.out.2).mono ?_
  intro z w1 hc
  rcases hc with ⟨k1, a1, s1, hr, hkk, hp, hb, hz, hR⟩ | ⟨k1, e1, t1, hr, hp, hb, hz⟩
  rotate_left
  · subst hz
    have HN := Lib.hid (show Post RVar G p d w (WrongIs (e1 : Int) t1) w1 from .no k1 e1 t1 (by rw [← HG.out]; simp only [hr, Res.bind_no]) hp (BB.out.trans hb) rfl)
    clear hr hp hb
    unfold WrongIs
    go_wp2_with fail
    exact ⟨rfl, HN.out⟩
  replace Kr := Lib.hid ((hb.block _ (Array.getElem?_eq_some_iff.1 Kr.out).1 Nr.out).trans Kr.out)
  obtain rfl : z = .returned (.string (str a1)) := hz
  have R1 := Lib.hid hr
  replace SS := Lib.hid (And.intro hp hkk)
  replace BB := Lib.hid (BB.out.trans hb)
  clear hr hkk hp hb hR
  obtain ⟨Av, hAv⟩ : ∃ A, w1.alloc (.cells #[.string (str a1), .int .i64 1, .int .i64 0, .bool false] 108) = A := ⟨_, rfl⟩
  have VV := Lib.hid (show w.heap.size < w1.heap.size from (Array.getElem?_eq_some_iff.1 Kr.out).1)
  have hBA : Below w1.heap.size w1 Av := by rw [← hAv]; exact (Below.refl _ _).alloc (Nat.le_refl _) _
  replace Kr := Lib.hid ((hBA.block _ (Array.getElem?_eq_some_iff.1 Kr.out).1).trans Kr.out)
  have Kv := Lib.hid (show Av.heap[w1.heap.size]? = some (.cells #[.string (str a1), .int .i64 1, .int .i64 0, .bool false] 108 (0, 0)) by rw [← hAv]; exact heap_alloc_new w1 _)
  have Nv := Lib.hid (Nat.ne_of_gt SS.out.1.lt_pb)
  have Tv := Lib.hid (Nat.ne_of_gt SS.out.1.lt)
  have Mv := Lib.hid (show w.heap.size ≤ w1.heap.size from BB.out.size)
  have Vv := Lib.hid (show w.heap.size < w1.heap.size from VV.out)
  replace SS := Lib.hid (And.intro (SS.out.1.later hBA) SS.out.2)
  replace BB := Lib.hid (BB.out.trans (But.of_below hBA))
  clear hBA
  have HAv := Lib.hid hAv
  clear hAv
  go_wp2_with fail
  try rw [HAv.out]
  clear HAv
  refine (CT.out k1 Av SS.out.1 SS.out.2).mono ?_
  rintro z w2 ⟨k2, b2, hr, rfl, hp, hb, hkk⟩
  replace Kr := Lib.hid ((hb.block _ (Array.getElem?_eq_some_iff.1 Kr.out).1 Nr.out).trans Kr.out)
  replace Kv := Lib.hid ((hb.block _ (Array.getElem?_eq_some_iff.1 Kv.out).1 Nv.out).trans Kv.out)
  have R2 := Lib.hid hr
  replace SS := Lib.hid (And.intro hp hkk)
  replace BB := Lib.hid (BB.out.trans hb)
  clear hr hkk hp hb
  have u3 := cell_blk Kv.out (j := 3) rfl
  have v3 : w2.frozen? ⟨w1.heap.size, 3, none⟩ = false := by simp [World.frozen?, Kv.out]
  obtain ⟨E3, hE3⟩ : ∃ E, w2.setCell ⟨w1.heap.size, 3, none⟩ (.bool b2) = E := ⟨_, rfl⟩
  have hEo : ∀ j, j ≠ w1.heap.size → E3.heap[j]? = w2.heap[j]? := fun j hj => by rw [← hE3]; exact Below.heap_setCell w2 _ _ _ hj
  have hEz : E3.heap.size = w2.heap.size := by rw [← hE3]; simp [World.setCell]
  have hEk : E3.heap[w1.heap.size]? = some (.cells #[.string (str a1), .int .i64 1, .int .i64 0, .bool b2] 108 (0, 0)) := by rw [← hE3, setCell_eq_setRow _ _ _ _ 108 (0, 0) _ Kv.out]; exact setRow_heap _ _ _ _ 108 (0, 0) Kv.out
  replace Kr := Lib.hid ((hEo _ (Nat.ne_of_lt Vv.out)).trans Kr.out)
  replace Kv := Lib.hid hEk
  have hSo := SS.out.1.other (p := ⟨w1.heap.size, 3, none⟩) Nv.out Tv.out (.bool b2)
  have hBo := BB.out.putNew (p := ⟨w1.heap.size, 3, none⟩) Mv.out (.bool b2)
  rw [hE3] at hSo hBo
  replace SS := Lib.hid (And.intro hSo SS.out.2)
  replace BB := Lib.hid hBo
  clear hEo hEz hEk hSo hBo
  go_upto_region 3 with fail
  try rw [hE3]
  clear hE3 u3 v3
  have l0 := cell_blk Kv.out (j := 0) rfl
  have l1 := cell_blk Kv.out (j := 1) rfl
  have l2 := cell_blk Kv.out (j := 2) rfl
  have l3 := cell_blk Kv.out (j := 3) rfl
  have z0 := cell_blk Kr.out (j := 0) rfl
  have z1 := cell_blk Kr.out (j := 1) rfl
  have z2 := cell_blk Kr.out (j := 2) rfl
  have z3 := cell_blk Kr.out (j := 3) rfl
  have hf : ∀ j, E3.frozen? ⟨w.heap.size, j, none⟩ = false := fun j => by simp [World.frozen?, Kr.out]
  have f0 := hf 0
  have f1 := hf 1
  have f2 := hf 2
  have f3 := hf 3
  clear hf
  have HR := Lib.hid (set4 Kr.out (.string (str a1)) (.int .i64 1) (.int .i64 0) (.bool b2))
  go_wp2_with fail
  have hF := HR.out
  refine bodyPost_ret (v := .agg #[.string (str a1), .int .i64 1, .int .i64 0, .bool b2]) ?_ rfl ?_
  · have y0 := cell_blk hF (j := 0) rfl
    have y1 := cell_blk hF (j := 1) rfl
    have y2 := cell_blk hF (j := 2) rfl
    have y3 := cell_blk hF (j := 3) rfl
    generalize (((E3.setCell ⟨w.heap.size, 0, none⟩ (.string (str a1))).setCell ⟨w.heap.size, 1, none⟩ (.int .i64 1)).setCell ⟨w.heap.size, 2, none⟩ (.int .i64 0)).setCell ⟨w.heap.size, 3, none⟩ (.bool b2) = F at *
    simp [results, Tryz.results154, go_sem, y0, y1, y2, y3]
  · have hn1 : w.heap.size ≠ p.pb := Nr.out
    have hn2 : w.heap.size ≠ p.tb := Nr2.out
    refine .ok k2 ⟨a1, 1, 0, b2⟩ () (by rw [← HG.out]; first | rfl | simp only [R1.out, R2.out, Res.bind_ok] | trace_state) SS.out.2 ?_ ?_ rfl ?_
    · exact (((SS.out.1.other (p := ⟨w.heap.size, 0, none⟩) hn1 hn2 _).other (p := ⟨w.heap.size, 1, none⟩) hn1 hn2 _).other (p := ⟨w.heap.size, 2, none⟩) hn1 hn2 _).other (p := ⟨w.heap.size, 3, none⟩) hn1 hn2 _
    · exact (((BB.out.putNew (p := ⟨w.heap.size, 0, none⟩) (Nat.le_refl _) _).putNew (p := ⟨w.heap.size, 1, none⟩) (Nat.le_refl _) _).putNew (p := ⟨w.heap.size, 2, none⟩) (Nat.le_refl _) _).putNew (p := ⟨w.heap.size, 3, none⟩) (Nat.le_refl _) _
    · exact fun _ _ => trivial
end Go.Proofs.YtchbnkepmeelkaaGreatDoor
/- Parameters within parentheses; variables; regions. -/
namespace Go.Proofs.YtchbnkepmeelkaaGreatDoor
open Go.RowKit

set_option maxRecDepth 100000 in
set_option maxHeartbeats 3200000 in
theorem list_vars (p : Pp) (k d : Nat) (w : World) (h : Ps w p.pb p.tb p.tf p.tc p.ts k d) (hk : k < p.ts.length) (hE : Ends p.ts) (hsm : p.ts.length ≤ 100000) (hsh : Shr (paramP)) :
    Calls Tryz.prog 219 #[.pointer (some ⟨p.pb, 0, none⟩), .func (.func 154) #[.pointer (some ⟨p.pb, 0, none⟩)] #[]] w (Post (RRow (fun W _ => Vr.At W) 4) (listP (paramP) (p.ts.drop k)) p d w) := by
  obtain ⟨i0, hi, hz0, hz1, hz2⟩ := info_parts info_var4
  have hpb := h.lt_pb
  have CO := Lib.hid (fun (k : Nat) (w : World) (h : Ps w p.pb p.tb p.tf p.tc p.ts k d) (hk : k < p.ts.length) => param_p p k d w h hk hE)
  have CY := Lib.hid (fun (k : Nat) (w : World) (h : Ps w p.pb p.tb p.tf p.tc p.ts k d) (hk : k < p.ts.length) (hs : (hdT (p.ts.drop k)).text = [44]) => And.intro (take_yes [44] p k d w h hk hs) (hd_next hE hk (.inl (by rw [hs]; decide))))
  have CN := Lib.hid (fun (k : Nat) (w : World) (h : Ps w p.pb p.tb p.tf p.tc p.ts k d) (hk : k < p.ts.length) (hs : (hdT (p.ts.drop k)).text ≠ [44]) => take_no [44] p k d w h hk hs)
  have SS := Lib.hid (And.intro h hk)
  have PB := Lib.hid hpb
  have HS := Lib.hid hsh
  have HL := Lib.hid hsm
  have HTB := Lib.hid h.lt
  clear h hk hE hpb hsm hsh
  generalize hG : listP (paramP) (p.ts.drop k) = G
  unfold listP at hG
  have HG := Lib.hid hG
  clear hG
  go_enter Tryz.func219, Tryz.ntmps219
  go_wp2_with fail
  refine (CO.out k w SS.out.1 SS.out.2).mono ?_
  intro z w1 hc
  rcases hc with ⟨k1, a1, s1, hr, hkk, hp, hb, hz, hR⟩ | ⟨k1, e1, t1, hr, hp, hb, hz⟩
  rotate_left
  · subst hz
    have HN := Lib.hid (show Post (RRow (fun W _ => Vr.At W) 4) G p d w (WrongIs (e1 : Int) t1) w1 from .no k1 e1 t1 (by rw [← HG.out, hr]; rfl) hp hb rfl)
    clear hr hp hb
    unfold WrongIs
    go_wp2_with fail
    exact ⟨rfl, HN.out⟩
  skip
  obtain rfl : z = .returned (.agg #[.string (str a1.name), .int .i64 a1.kind, .int .i64 a1.size, .bool a1.secret]) := hz
  have HF1 := Lib.hid (show Fresh w.heap.size w1.heap.size w1 (fun W N => True) from hR)
  have HR1 := Lib.hid hr
  have HP1 := Lib.hid (And.intro hp hkk)
  have HB1 := Lib.hid hb
  clear hr hkk hp hb hR SS
  obtain ⟨A1, hA1⟩ : ∃ A, w1.alloc (.cells #[.string (str a1.name), .int .i64 a1.kind, .int .i64 a1.size, .bool a1.secret] 108) = A := ⟨_, rfl⟩
  have hBA : Below w1.heap.size w1 A1 := by rw [← hA1]; exact (Below.refl _ _).alloc (Nat.le_refl _) _
  have HO1 := Lib.hid (show A1.ownsRow w.heap.size 108 4 (.slice (some ⟨w1.heap.size, 0, none⟩) 1 1) 1 [.string (str a1.name), .int .i64 a1.kind, .int .i64 a1.size, .bool a1.secret] by rw [← hA1]; exact own_base (own_one (cs := #[.string (str a1.name), .int .i64 a1.kind, .int .i64 a1.size, .bool a1.secret]) rfl) HB1.out.size)
  have HE1 := Lib.hid (show Els w.heap.size A1 (some w1.heap.size) (fun W N (x : Vr) (s : Unit) => True) [(a1, ())] from fun z hz => by
    cases List.mem_singleton.1 hz
    exact ⟨_, _, HF1.out.bel hBA (Nat.le_refl _), Nat.le_refl _, hBA.size, fun g hg => by cases hg; exact .inr (Nat.le_refl _)⟩)
  have HPA := Lib.hid (HP1.out.1.later hBA)
  have HBA := Lib.hid (HB1.out.trans (But.of_below hBA))
  have HA1 := Lib.hid hA1
  clear hBA hA1
  go_wp2_with fail
  try rw [HA1.out]
  clear HA1
  go_loopw [5] (fun l wr => ∃ (zs : List (Vr × Unit)) (k' f : Nat), Hid (zs.length ≤ k' + 1) ∧ Hid (k' < p.ts.length) ∧ Hid ((p.ts.drop k').length < f) ∧ Hid (wr.ownsRow w.heap.size 108 4 l zs.length (encs (fun (x : Vr) (s : Unit) => [.string (str x.name), .int .i64 x.kind, .int .i64 x.size, .bool x.secret]) zs)) ∧ Hid (Els w.heap.size wr l.ownBlock (fun W N x s => True) zs) ∧ Hid (Ps wr p.pb p.tb p.tf p.tc p.ts k' d) ∧ Hid (But p.pb w wr) ∧ Hid (G = (tailP (paramP) f (p.ts.drop k')).bind fun as' r => .ok (zs.map Prod.fst ++ as') r)) (fun _ wr => p.ts.length - atOf wr p.pb)
  case atStart =>
    refine ⟨[(a1, ())], k1, (p.ts.drop k1).length + 1, Lib.hid ?_, Lib.hid HP1.out.2, Lib.hid (Nat.lt_succ_self _), HO1, HE1, HPA, HBA, Lib.hid ?_⟩
    · show 1 ≤ k1 + 1; omega
    · rw [← HG.out, HR1.out]
      rfl
  case round =>
    obtain ⟨zs, k', f, hzk, hk', hf, hown, hels, hP, hB, hGr⟩ := hrel
    obtain ⟨g, rfl⟩ : ∃ g, f = g + 1 := ⟨f - 1, by have := hf.out; omega⟩
    by_cases ht : (hdT (p.ts.drop k')).text = [44]
    · have HY := Lib.hid (CY.out k' wr hP.out hk'.out ht)
      have HGy := Lib.hid (hGr.out.trans (by rw [tailP_more ht, drop_tl]))
      clear ht
      go_wp2_with fail
      refine HY.out.1.mono ?_
      rintro z w2 ⟨rfl, hp, hb⟩
      have hbw := PB.out
      have HO2 := Lib.hid (own_but hown.out hb hbw)
      have HE2 := Lib.hid (hels.out.but hb hbw)
      have HB2 := Lib.hid (hB.out.trans hb)
      have HP2 := Lib.hid hp
      clear hp hb hbw
      go_wp2_with fail
      refine (CO.out (k' + 1) w2 HP2.out HY.out.2).mono ?_
      intro z w3 hc
      rcases hc with ⟨k3, a3, s3, hr, hkk, hp, hb, hz, hR⟩ | ⟨k3, e3, t3, hr, hp, hb, hz⟩
      rotate_left
      · subst hz
        have HN := Lib.hid (show Post (RRow (fun W _ => Vr.At W) 4) G p d w (WrongIs (e3 : Int) t3) w3 from .no k3 e3 t3 (by rw [HGy.out, hr]; rfl) hp (HB2.out.trans hb) rfl)
        clear hr hp hb
        unfold WrongIs
        go_wp2_with fail
        exact ⟨rfl, HN.out⟩
      skip
      obtain rfl : z = .returned (.agg #[.string (str a3.name), .int .i64 a3.kind, .int .i64 a3.size, .bool a3.secret]) := hz
      have hbw := PB.out
      have HF3 := Lib.hid (show Fresh w2.heap.size w3.heap.size w3 (fun W N => True) from hR)
      have HO3 := Lib.hid (own_but HO2.out hb hbw)
      have HE3 := Lib.hid (HE2.out.but hb hbw)
      have HB3 := Lib.hid (HB2.out.trans hb)
      have HK3 := Lib.hid (show k' + 1 ≤ k3 by
        have h1 := HS.out _ _ _ hr
        rw [List.length_drop, List.length_drop] at h1
        have := HY.out.2
        omega)
      have HGz := Lib.hid (show G = (tailP (paramP) g (p.ts.drop k3)).bind fun as' r => .ok ((zs ++ [(a3, ())]).map Prod.fst ++ as') r by
        rw [HGy.out, hr, map_fst_snoc, Res.bind_ok, Res.bind_assoc]
        simp only [Res.bind_ok, List.append_assoc, List.singleton_append])
      have HP3 := Lib.hid (And.intro hp hkk)
      have HU3 := Lib.hid (show ∀ j, u5.ownBlock = some j → j < w2.heap.size from fun j hj => (HO2.out.lt j hj).2)
      clear hr hkk hp hb hR hbw
      obtain ⟨A3, hA3⟩ : ∃ A, w3.alloc (.cells #[.string (str a3.name), .int .i64 a3.kind, .int .i64 a3.size, .bool a3.secret] 108) = A := ⟨_, rfl⟩
      have hBA : Below w3.heap.size w3 A3 := by rw [← hA3]; exact (Below.refl _ _).alloc (Nat.le_refl _) _
      have hcA : A3.heap[w3.heap.size]? = some (.cells #[.string (str a3.name), .int .i64 a3.kind, .int .i64 a3.size, .bool a3.secret] 108 (0, 0)) := by rw [← hA3]; exact heap_alloc_new w3 _
      have HOA := Lib.hid (own_bel HO3.out hBA)
      have HEA := Lib.hid ((HE3.out.bel hBA).push (z := (a3, ())) (HF3.out.bel hBA (Nat.le_refl _)) HB2.out.size hBA.size (fun j hj => .inl (HU3.out j hj)))
      have HPA3 := Lib.hid (HP3.out.1.later hBA)
      have HBA3 := Lib.hid (HB3.out.trans (But.of_below hBA))
      have HCA := Lib.hid hcA
      have HA3 := Lib.hid hA3
      have hbase : w.heap.size ≤ A3.heap.size := HBA3.out.size
      have hln : zs.length + 1 ≤ 100001 := by have h1 := hzk.out; have h2 := hk'.out; have h3 := HL.out; omega
      clear hBA hcA hA3
      go_wp2_with (at_builtin; (try rw [HA3.out]); refine wpList_append_own_at _ rfl _ _ 81 rfl w.heap.size 108 i0 (.agg #[.string ByteArray.empty, .int .i64 0, .int .i64 0, .bool false]) 4 40 Tryz.underlying81 hi hz0 hz1 hz2 rfl (by decide) _ _ _ rfl HOA.out ⟨w3.heap.size, 0, none⟩ 1 1 [.string (str a3.name), .int .i64 a3.kind, .int .i64 a3.size, .bool a3.secret] rfl rfl ?c1 ?c2 ?c3 ?c4 hbase ?_)
      case c1 =>
        intro j u hj
        have := cell_blk HCA.out (j := j) (v := u) (by rw [← Array.getElem?_toList]; exact hj)
        rw [add_of, Nat.zero_add]
        exact this
      case c2 =>
        intro u hu
        simp only [List.mem_cons, List.not_mem_nil, or_false] at hu
        rcases hu with rfl | rfl | rfl | rfl <;> rfl
      case c3 => unfold maxLen; omega
      case c4 => omega
      intro v' w4 hown4 hgrow _ hat
      have HO4 := Lib.hid (show w4.ownsRow w.heap.size 108 4 v' (zs ++ [(a3, ())]).length (encs (fun (x : Vr) (s : Unit) => [.string (str x.name), .int .i64 x.kind, .int .i64 x.size, .bool x.secret]) (zs ++ [(a3, ())])) by rw [List.length_append, encs_app]; exact hown4)
      have HE4 := Lib.hid (HEA.out.grown hgrow hat)
      have HB4 := Lib.hid (HBA3.out.grown hgrow (fun j hj => (HOA.out.lt j hj).1))
      have HP4 := Lib.hid (HPA3.out.grown hgrow (fun e => by have h1 := (HOA.out.lt _ e).1; have h2 := PB.out; omega) (fun e => by have h1 := (HOA.out.lt _ e).1; have h2 := HTB.out; omega))
      clear hown4 hgrow hat
      go_wp2_with fail
      go_roundw
      case rel =>
        refine ⟨zs ++ [(a3, ())], k3, g, Lib.hid ?_, Lib.hid HP3.out.2, Lib.hid ?_, HO4, HE4, HP4, HB4, HGz⟩
        · have h1 := hzk.out; have h2 := HK3.out; rw [List.length_append, List.length_singleton]; omega
        · have h1 := hf.out; have h2 := HK3.out; have h3 := HY.out.2; rw [List.length_drop] at h1 ⊢; omega
      case measure =>
        have h1 := HP4.out.atOf
        have h2 := hP.out.atOf
        have h3 := HK3.out
        have h4 := HP3.out.2
        rw [h1, h2]
        omega
    · have HY := Lib.hid (CN.out k' wr hP.out hk'.out ht)
      have HGy := Lib.hid (hGr.out.trans (by rw [tailP_over ht, Res.bind_ok]))
      clear ht
      go_wp2_with fail
      refine HY.out.mono ?_
      rintro z w2 ⟨rfl, hp, hb⟩
      have hbw := PB.out
      obtain ⟨s, hv, hfr⟩ := row_fresh (A := (fun W _ => Vr.At W)) (k := 4) (OK := fun W N (x : Vr) (s : Unit) => True) (enc := fun (x : Vr) (s : Unit) => [.string (str x.name), .int .i64 x.kind, .int .i64 x.size, .bool x.secret]) (fun _ _ => rfl) (fun W N x s b o hok hc => ⟨hc 0 _ rfl, hc 1 _ rfl, hc 2 _ rfl, hc 3 _ rfl⟩) (fun W N M x s hok hM => trivial) (own_but hown.out hb hbw) (hels.out.but hb hbw) (by have h1 := hzk.out; have h2 := hk'.out; have h3 := HL.out; omega)
      have HQ := Lib.hid (And.intro hv (And.intro hfr (And.intro hp (hB.out.trans hb))))
      clear hp hb hbw hv hfr
      go_wp2_with fail
      go_ret
      exact .ok k' (zs.map Prod.fst) s (HGy.out.trans (by rw [List.append_nil])) hk'.out HQ.out.2.2.1 HQ.out.2.2.2 (congrArg Ending.returned HQ.out.1) HQ.out.2.1
set_option maxRecDepth 100000 in
set_option maxHeartbeats 3200000 in
theorem paren_vars (p : Pp) (k d : Nat) (w : World) (h : Ps w p.pb p.tb p.tf p.tc p.ts k d) (hk : k < p.ts.length) (hE : Ends p.ts) (hsm : p.ts.length ≤ 100000) :
    Calls Tryz.prog 153 #[.pointer (some ⟨p.pb, 0, none⟩), .func (.func 154) #[.pointer (some ⟨p.pb, 0, none⟩)] #[]] w (Post (RRow (fun W _ => Vr.At W) 4) (parenP (paramP) (p.ts.drop k)) p d w) := by
  have hpb := h.lt_pb
  have CW := Lib.hid (fun (k : Nat) (w : World) (h : Ps w p.pb p.tb p.tf p.tc p.ts k d) (hk : k < p.ts.length) => want_p [40] p k d w h hk hE (by decide))
  have CE := Lib.hid (fun (k : Nat) (w : World) (h : Ps w p.pb p.tb p.tf p.tc p.ts k d) (hk : k < p.ts.length) => want_p [41] p k d w h hk hE (by decide))
  have CI := Lib.hid (fun (k : Nat) (w : World) (h : Ps w p.pb p.tb p.tf p.tc p.ts k d) (hk : k < p.ts.length) => is_p [41] p k d w h hk)
  have CL := Lib.hid (fun (k : Nat) (w : World) (h : Ps w p.pb p.tb p.tf p.tc p.ts k d) (hk : k < p.ts.length) => list_vars p k d w h hk hE hsm paramP_shs.shr)
  have BB := Lib.hid (But.refl p.pb w)
  have SS := Lib.hid (And.intro h hk)
  have PB := Lib.hid hpb
  clear h hk hE hpb
  generalize hG : (parenP (paramP) (p.ts.drop k)) = G
  unfold parenP at hG
  have HG := Lib.hid hG
  clear hG
  go_enter Tryz.func153, Tryz.ntmps153
  go_wp2_with fail
  refine (CW.out k w SS.out.1 SS.out.2).mono ?_
  intro z w1 hc
  rcases hc with ⟨k1, a1, s1, hr, hkk, hp, hb, hz, hR⟩ | ⟨k1, e1, t1, hr, hp, hb, hz⟩
  rotate_left
  · subst hz
    have HN := Lib.hid (show Post (RRow (fun W _ => Vr.At W) 4) G p d w (WrongIs (e1 : Int) t1) w1 from .no k1 e1 t1 (by rw [← HG.out]; simp only [hr, Res.bind_no]) hp (BB.out.trans hb) rfl)
    clear hr hp hb
    unfold WrongIs
    go_wp2_with fail
    exact ⟨rfl, HN.out⟩
  obtain rfl : z = .returned (.tuple #[]) := hz
  have R1 := Lib.hid hr
  replace SS := Lib.hid (And.intro hp hkk)
  replace BB := Lib.hid (BB.out.trans hb)
  clear hr hkk hp hb hR
  have HI := Lib.hid (CI.out k1 w1 SS.out.1 SS.out.2)
  rcases Classical.em ((hdT (p.ts.drop k1)).text = [41]) with ht | ht
  · have Hht := Lib.hid ht
    rw [decide_eq_true ht] at HI
    clear ht
    go_wp2_with fail
    refine (HI.out).mono ?_
    rintro z w2 ⟨rfl, hBX⟩
    replace SS := Lib.hid (And.intro (SS.out.1.later hBX) SS.out.2)
    replace BB := Lib.hid (BB.out.trans (But.of_below hBX))
    clear hBX
    go_wp2_with fail
    refine (CE.out k1 w2 SS.out.1 SS.out.2).mono ?_
    intro z w3 hc
    rcases hc with ⟨k3, a3, s3, hr, hkk, hp, hb, hz, hR⟩ | ⟨k3, e3, t3, hr, hp, hb, hz⟩
    rotate_left
    · subst hz
      have HN := Lib.hid (show Post (RRow (fun W _ => Vr.At W) 4) G p d w (WrongIs (e3 : Int) t3) w3 from .no k3 e3 t3 (by rw [← HG.out]; simp only [R1.out, if_pos Hht.out, hr, Res.bind_ok, Res.bind_no]) hp (BB.out.trans hb) rfl)
      clear hr hp hb
      unfold WrongIs
      go_wp2_with fail
      exact ⟨rfl, HN.out⟩
    obtain rfl : z = .returned (.tuple #[]) := hz
    have R3 := Lib.hid hr
    replace SS := Lib.hid (And.intro hp hkk)
    replace BB := Lib.hid (BB.out.trans hb)
    clear hr hkk hp hb hR
    go_wp2_with fail
    go_ret
    exact .ok k3 [] (none, 0) (by rw [← HG.out]; simp only [R1.out, R3.out, if_pos Hht.out, Res.bind_ok]) SS.out.2 SS.out.1 BB.out rfl (fun W _ => ⟨Nat.le_refl _, Nat.zero_le _, .inl rfl⟩)
  · have Hht := Lib.hid ht
    rw [decide_eq_false ht] at HI
    clear ht
    go_wp2_with fail
    refine (HI.out).mono ?_
    rintro z w2 ⟨rfl, hBX⟩
    replace SS := Lib.hid (And.intro (SS.out.1.later hBX) SS.out.2)
    replace BB := Lib.hid (BB.out.trans (But.of_below hBX))
    clear hBX
    go_wp2_with fail
    refine (CL.out k1 w2 SS.out.1 SS.out.2).mono ?_
    intro z w3 hc
    rcases hc with ⟨k3, a3, s3, hr, hkk, hp, hb, hz, hR⟩ | ⟨k3, e3, t3, hr, hp, hb, hz⟩
    rotate_left
    · subst hz
      have HN := Lib.hid (show Post (RRow (fun W _ => Vr.At W) 4) G p d w (WrongIs (e3 : Int) t3) w3 from .no k3 e3 t3 (by rw [← HG.out]; simp only [R1.out, if_neg Hht.out, hr, Res.bind_ok, Res.bind_no]) hp (BB.out.trans hb) rfl)
      clear hr hp hb
      unfold WrongIs
      go_wp2_with fail
      exact ⟨rfl, HN.out⟩
    obtain ⟨qa3, ca3⟩ := s3
    obtain rfl : z = .returned (.slice qa3 a3.length ca3) := hz
    have Fa3 := Lib.hid (show Fresh w2.heap.size w3.heap.size w3 (fun W N => (RRow (fun W _ => Vr.At W) 4).ok W N a3 (qa3, ca3)) from hR)
    have Ga3 := Lib.hid SS.out.1.lt_pb
    have Za3 := Lib.hid (Nat.le_refl w3.heap.size)
    have Ya3 := Lib.hid (show w.heap.size ≤ w2.heap.size from BB.out.size)
    have R3 := Lib.hid hr
    replace SS := Lib.hid (And.intro hp hkk)
    replace BB := Lib.hid (BB.out.trans hb)
    clear hr hkk hp hb hR
    go_wp2_with fail
    refine (CE.out k3 w3 SS.out.1 SS.out.2).mono ?_
    intro z w4 hc
    rcases hc with ⟨k4, a4, s4, hr, hkk, hp, hb, hz, hR⟩ | ⟨k4, e4, t4, hr, hp, hb, hz⟩
    rotate_left
    · subst hz
      have HN := Lib.hid (show Post (RRow (fun W _ => Vr.At W) 4) G p d w (WrongIs (e4 : Int) t4) w4 from .no k4 e4 t4 (by rw [← HG.out]; simp only [R1.out, R3.out, if_neg Hht.out, hr, Res.bind_ok, Res.bind_no]) hp (BB.out.trans hb) rfl)
      clear hr hp hb
      unfold WrongIs
      go_wp2_with fail
      exact ⟨rfl, HN.out⟩
    replace Fa3 := Lib.hid (Fa3.out.but hb Ga3.out Za3.out)
    replace Za3 := Lib.hid (Nat.le_trans Za3.out hb.size)
    replace Ya3 := Lib.hid Ya3.out
    obtain rfl : z = .returned (.tuple #[]) := hz
    have R4 := Lib.hid hr
    replace SS := Lib.hid (And.intro hp hkk)
    replace BB := Lib.hid (BB.out.trans hb)
    clear hr hkk hp hb hR
    go_wp2_with fail
    go_ret
    exact .ok k4 a3 (qa3, ca3) (by rw [← HG.out]; simp only [R1.out, R3.out, R4.out, if_neg Hht.out, Res.bind_ok]) SS.out.2 SS.out.1 BB.out rfl (Fa3.out.fin Ya3.out Za3.out (fun W h => ⟨h.1, h.2.imp Za3.out (fun x b o _ ha => ha)⟩))
end Go.Proofs.YtchbnkepmeelkaaGreatDoor
