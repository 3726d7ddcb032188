/- A program; an expression, statements alone. -/
import Derived.Test.YtchbnkepmeelkaaGreatDoorPW
import Derived.Test.YtchbnkepmeelkaaGreatDoorPX
namespace Go.Proofs.YtchbnkepmeelkaaGreatDoor
open Go.RowKit

def FnC (p : Pp) (d : Nat) : Prop := ∀ (k : Nat) (w : World), Ps w p.pb p.tb p.tf p.tc p.ts k d → k < p.ts.length → Calls Tryz.prog 90 #[.pointer (some ⟨p.pb, 0, none⟩)] w (Post RFnc (functionP (p.ts.drop k)) p d w)
theorem infoPr : (Tryz.prog.info? 26).map (·.size) = some 2 := by kernel_rfl
def RPrg : Rep Prg := ⟨(Option Addr × Nat) × (Option Addr × Nat), fun x s => x.val s.1.1 s.2.1 s.1.2 s.2.2, fun W N x s => x.Ok W N s.1.1 s.2.1⟩

set_option maxRecDepth 100000 in
set_option maxHeartbeats 3200000 in
theorem ahead_fns (q : List UInt8) (p : Pp) (k d : Nat) (w : World) (h : Ps w p.pb p.tb p.tf p.tc p.ts k d) (hk : k < p.ts.length) (_hE : Ends p.ts) (hsm : p.ts.length ≤ 100000) (hX : FnC p d) (hsh : Shs (functionP)) :
    Calls Tryz.prog 89 #[.pointer (some ⟨p.pb, 0, none⟩), .string (str q), .func (.func 90) #[.pointer (some ⟨p.pb, 0, none⟩)] #[]] w (Post (RRow (fun W N => Fnc.At W N) 5) (manyP (functionP) q ((p.ts.drop k).length + 1) (p.ts.drop k)) p d w) := by
  obtain ⟨i0, hi, hz0, hz1, hz2⟩ := info_parts info_fn5
  have hpb := h.lt_pb
  have CO := Lib.hid (fun (k : Nat) (w : World) (h : Ps w p.pb p.tb p.tf p.tc p.ts k d) (hk : k < p.ts.length) => hX k w h hk)
  have CI := Lib.hid (fun (k : Nat) (w : World) (h : Ps w p.pb p.tb p.tf p.tc p.ts k d) (hk : k < p.ts.length) => is_p q p k d w h hk)
  have SS := Lib.hid (And.intro h hk)
  have PB := Lib.hid hpb
  have HS := Lib.hid hsh
  have HL := Lib.hid hsm
  have HTB := Lib.hid h.lt
  clear h hk _hE hpb hsm hsh
  generalize hG : manyP (functionP) q ((p.ts.drop k).length + 1) (p.ts.drop k) = G
  have HG := Lib.hid hG
  clear hG
  obtain ⟨qs, hqs⟩ : ∃ qs, str q = qs := ⟨_, rfl⟩
  rw [hqs] at CI ⊢
  clear hqs
  go_enter Tryz.func89, Tryz.ntmps89
  go_wp2_with fail
  go_loopw [7] (fun l wr => ∃ (zs : List (Fnc × FncP)) (k' f : Nat), Hid (zs.length ≤ k') ∧ Hid (k' < p.ts.length) ∧ Hid ((p.ts.drop k').length < f) ∧ Hid (wr.ownsRow w.heap.size 83 5 l zs.length (encs (fun (x : Fnc) (s : FncP) => [.string (str x.name), .slice s.pp x.params.length s.cp, .slice s.pv x.vars.length s.cv, .slice s.pr x.rets.length s.cr, .slice s.pb x.body.len s.cb]) zs)) ∧ Hid (Els w.heap.size wr l.ownBlock (fun W N x s => x.Ok W N s) zs) ∧ Hid (Ps wr p.pb p.tb p.tf p.tc p.ts k' d) ∧ Hid (But p.pb w wr) ∧ Hid (G = (manyP (functionP) q f (p.ts.drop k')).bind fun as' r => .ok (zs.map Prod.fst ++ as') r)) (fun _ wr => p.ts.length - atOf wr p.pb)
  case atStart =>
    refine ⟨[], k, (p.ts.drop k).length + 1, Lib.hid (Nat.zero_le _), Lib.hid SS.out.2, Lib.hid (Nat.lt_succ_self _), Lib.hid (World.ownsRow_nil _ _ _ _), Lib.hid (Els.nil _ _ _ _), Lib.hid SS.out.1, Lib.hid (But.refl _ _), Lib.hid ?_⟩
    rw [← HG.out]
    cases manyP (functionP) q ((p.ts.drop k).length + 1) (p.ts.drop k) <;> rfl
  case round =>
    obtain ⟨zs, k', f, hzk, hk', hf, hown, hels, hP, hB, hGr⟩ := hrel
    obtain ⟨g, rfl⟩ : ∃ g, f = g + 1 := ⟨f - 1, by have := hf.out; omega⟩
    have HI := Lib.hid (CI.out k' wr hP.out hk'.out)
    by_cases ht : (hdT (p.ts.drop k')).text = q
    · rw [decide_eq_true ht] at HI
      have HGy := Lib.hid (hGr.out.trans (by rw [manyP_over ht, Res.bind_ok]))
      clear ht
      go_wp2_with fail
      refine HI.out.mono ?_
      rintro z w2 ⟨rfl, hb⟩
      obtain ⟨s, hv, hfr⟩ := row_fresh (A := (fun W N => Fnc.At W N)) (k := 5) (OK := fun W N (x : Fnc) (s : FncP) => x.Ok W N s) (enc := fun (x : Fnc) (s : FncP) => [.string (str x.name), .slice s.pp x.params.length s.cp, .slice s.pv x.vars.length s.cv, .slice s.pr x.rets.length s.cr, .slice s.pb x.body.len s.cb]) (fun _ _ => rfl) (fun W N x s b o hok hc => ⟨hc 0 _ rfl, ⟨_, _, hc 1 _ rfl, hok.1⟩, ⟨_, _, hc 2 _ rfl, hok.2.1⟩, ⟨_, _, hc 3 _ rfl, hok.2.2.1⟩, ⟨_, _, hc 4 _ rfl, hok.2.2.2⟩⟩) (fun W N M x s hok hM => hok.later (Below.refl N W) hM) (own_bel hown.out hb) (hels.out.bel hb) (by have h1 := hzk.out; have h2 := hk'.out; have h3 := HL.out; omega)
      have HQ := Lib.hid (And.intro hv (And.intro hfr (And.intro (hP.out.later hb) (hB.out.trans (But.of_below hb)))))
      clear hb hv hfr
      go_wp2_with fail
      go_ret
      exact .ok k' (zs.map Prod.fst) s (HGy.out.trans (by rw [List.append_nil])) hk'.out HQ.out.2.2.1 HQ.out.2.2.2 (congrArg Ending.returned HQ.out.1) HQ.out.2.1
    · rw [decide_eq_false ht] at HI
      have HGy := Lib.hid (hGr.out.trans (by rw [manyP_more ht]))
      clear ht
      go_wp2_with fail
      refine HI.out.mono ?_
      rintro z w2 ⟨rfl, hb⟩
      have HO2 := Lib.hid (own_bel hown.out hb)
      have HE2 := Lib.hid (hels.out.bel hb)
      have HB2 := Lib.hid (hB.out.trans (But.of_below hb))
      have HP2 := Lib.hid (hP.out.later hb)
      clear hb
      go_wp2_with fail
      refine (CO.out k' w2 HP2.out hk'.out).mono ?_
      intro z w3 hc
      rcases hc with ⟨k3, a3, s3, hr, hkk, hp, hb, hz, hR⟩ | ⟨k3, e3, t3, hr, hp, hb, hz⟩
      rotate_left
      · subst hz
        have HN := Lib.hid (show Post (RRow (fun W N => Fnc.At W N) 5) G p d w (WrongIs (e3 : Int) t3) w3 from .no k3 e3 t3 (by rw [HGy.out, hr]; rfl) hp (HB2.out.trans hb) rfl)
        clear hr hp hb
        unfold WrongIs
        go_wp2_with fail
        exact ⟨rfl, HN.out⟩
      obtain ⟨ppz, pvz, prz, pbz, cpz, cvz, crz, cbz⟩ := s3
      obtain rfl : z = .returned (.agg #[.string (str a3.name), .slice ppz a3.params.length cpz, .slice pvz a3.vars.length cvz, .slice prz a3.rets.length crz, .slice pbz a3.body.len cbz]) := hz
      have hbw := PB.out
      have HF3 := Lib.hid (show Fresh w2.heap.size w3.heap.size w3 (fun W N => a3.Ok W N (⟨ppz, pvz, prz, pbz, cpz, cvz, crz, cbz⟩ : FncP)) from hR)
      have HO3 := Lib.hid (own_but HO2.out hb hbw)
      have HE3 := Lib.hid (HE2.out.but hb hbw)
      have HB3 := Lib.hid (HB2.out.trans hb)
      have HK3 := Lib.hid (show k' + 1 ≤ k3 by
        have h1 := HS.out _ _ _ hr
        rw [List.length_drop, List.length_drop] at h1
        omega)
      have HGz := Lib.hid (show G = (manyP (functionP) q g (p.ts.drop k3)).bind fun as' r => .ok ((zs ++ [(a3, (⟨ppz, pvz, prz, pbz, cpz, cvz, crz, cbz⟩ : FncP))]).map Prod.fst ++ as') r by
        rw [HGy.out, hr, map_fst_snoc, Res.bind_ok, Res.bind_assoc]
        simp only [Res.bind_ok, List.append_assoc, List.singleton_append])
      have HP3 := Lib.hid (And.intro hp hkk)
      have HU3 := Lib.hid (show ∀ j, u7.ownBlock = some j → j < w2.heap.size from fun j hj => (HO2.out.lt j hj).2)
      clear hr hkk hp hb hR hbw
      obtain ⟨A3, hA3⟩ : ∃ A, w3.alloc (.cells #[.string (str a3.name), .slice ppz a3.params.length cpz, .slice pvz a3.vars.length cvz, .slice prz a3.rets.length crz, .slice pbz a3.body.len cbz] 83) = A := ⟨_, rfl⟩
      have hBA : Below w3.heap.size w3 A3 := by rw [← hA3]; exact (Below.refl _ _).alloc (Nat.le_refl _) _
      have hcA : A3.heap[w3.heap.size]? = some (.cells #[.string (str a3.name), .slice ppz a3.params.length cpz, .slice pvz a3.vars.length cvz, .slice prz a3.rets.length crz, .slice pbz a3.body.len cbz] 83 (0, 0)) := by rw [← hA3]; exact heap_alloc_new w3 _
      have HOA := Lib.hid (own_bel HO3.out hBA)
      have HEA := Lib.hid ((HE3.out.bel hBA).push (z := (a3, (⟨ppz, pvz, prz, pbz, cpz, cvz, crz, cbz⟩ : FncP))) (HF3.out.bel hBA (Nat.le_refl _)) HB2.out.size hBA.size (fun j hj => .inl (HU3.out j hj)))
      have HPA3 := Lib.hid (HP3.out.1.later hBA)
      have HBA3 := Lib.hid (HB3.out.trans (But.of_below hBA))
      have HCA := Lib.hid hcA
      have HA3 := Lib.hid hA3
      have hbase : w.heap.size ≤ A3.heap.size := HBA3.out.size
      have hln : zs.length + 1 ≤ 100001 := by have h1 := hzk.out; have h2 := hk'.out; have h3 := HL.out; omega
      clear hBA hcA hA3
      go_wp2_with (at_builtin; (try rw [HA3.out]); refine wpList_append_own_at _ rfl _ _ 24 rfl w.heap.size 83 i0 (.agg #[.string ByteArray.empty, .slice none 0 0, .slice none 0 0, .slice none 0 0, .slice none 0 0]) 5 112 Tryz.underlying24 hi hz0 hz1 hz2 rfl (by decide) _ _ _ rfl HOA.out ⟨w3.heap.size, 0, none⟩ 1 1 [.string (str a3.name), .slice ppz a3.params.length cpz, .slice pvz a3.vars.length cvz, .slice prz a3.rets.length crz, .slice pbz a3.body.len cbz] rfl rfl ?c1 ?c2 ?c3 ?c4 hbase ?_)
      case c1 =>
        intro j u hj
        have := cell_blk HCA.out (j := j) (v := u) (by rw [← Array.getElem?_toList]; exact hj)
        rw [add_of, Nat.zero_add]
        exact this
      case c2 =>
        intro u hu
        simp only [List.mem_cons, List.not_mem_nil, or_false] at hu
        rcases hu with rfl | rfl | rfl | rfl | rfl <;> rfl
      case c3 => unfold maxLen; omega
      case c4 => omega
      intro v' w4 hown4 hgrow _ hat
      have HO4 := Lib.hid (show w4.ownsRow w.heap.size 83 5 v' (zs ++ [(a3, (⟨ppz, pvz, prz, pbz, cpz, cvz, crz, cbz⟩ : FncP))]).length (encs (fun (x : Fnc) (s : FncP) => [.string (str x.name), .slice s.pp x.params.length s.cp, .slice s.pv x.vars.length s.cv, .slice s.pr x.rets.length s.cr, .slice s.pb x.body.len s.cb]) (zs ++ [(a3, (⟨ppz, pvz, prz, pbz, cpz, cvz, crz, cbz⟩ : FncP))])) by rw [List.length_append, encs_app]; exact hown4)
      have HE4 := Lib.hid (HEA.out.grown hgrow hat)
      have HB4 := Lib.hid (HBA3.out.grown hgrow (fun j hj => (HOA.out.lt j hj).1))
      have HP4 := Lib.hid (HPA3.out.grown hgrow (fun e => by have h1 := (HOA.out.lt _ e).1; have h2 := PB.out; omega) (fun e => by have h1 := (HOA.out.lt _ e).1; have h2 := HTB.out; omega))
      clear hown4 hgrow hat
      go_wp2_with fail
      go_roundw
      case rel =>
        refine ⟨zs ++ [(a3, (⟨ppz, pvz, prz, pbz, cpz, cvz, crz, cbz⟩ : FncP))], k3, g, Lib.hid ?_, Lib.hid HP3.out.2, Lib.hid ?_, HO4, HE4, HP4, HB4, HGz⟩
        · have h1 := hzk.out; have h2 := HK3.out; rw [List.length_append, List.length_singleton]; omega
        · have h1 := hf.out; have h2 := HK3.out; have h3 := hk'.out; rw [List.length_drop] at h1 ⊢; omega
      case measure =>
        have h1 := HP4.out.atOf
        have h2 := hP.out.atOf
        have h3 := HK3.out
        have h4 := HP3.out.2
        rw [h1, h2]
        omega
set_option maxRecDepth 100000 in
set_option maxHeartbeats 3200000 in
theorem program_p (p : Pp) (k d : Nat) (w : World) (h : Ps w p.pb p.tb p.tf p.tc p.ts k d) (hk : k < p.ts.length) (hE : Ends p.ts) (hsm : p.ts.length ≤ 100000) (hW : Words p.ts) (h0 : d = 0) :
    Calls Tryz.prog 36 #[.pointer (some ⟨p.pb, 0, none⟩)] w (Post RPrg (programP (p.ts.drop k)) p d w) := by
  obtain ⟨i0, hi, hz0, hz1, hz2⟩ := info_parts info_reg4
  subst h0
  have hpb := h.lt_pb
  have CI := Lib.hid (fun (k : Nat) (w : World) (h : Ps w p.pb p.tb p.tf p.tc p.ts k 0) (hk : k < p.ts.length) => is_p wRegion p k 0 w h hk)
  have CV := Lib.hid (fun (k : Nat) (w : World) (h : Ps w p.pb p.tb p.tf p.tc p.ts k 0) (hk : k < p.ts.length) => region_p p k 0 w h hk hE)
  have CB := Lib.hid (fun (k : Nat) (w : World) (h : Ps w p.pb p.tb p.tf p.tc p.ts k 0) (hk : k < p.ts.length) => ahead_fns [] p k 0 w h hk hE hsm (fun k w h hk => function_p p k 0 w h hk hE hsm hW rfl) functionP_shs)
  have HL := Lib.hid (hsm)
  obtain ⟨W0, hW0⟩ : ∃ W0, w.alloc (.cells #[.slice none 0 0, .slice none 0 0] 26) = W0 := ⟨_, rfl⟩
  have hB0 : Below w.heap.size w W0 := by rw [← hW0]; exact (Below.refl _ _).alloc (Nat.le_refl _) _
  have Kr := Lib.hid (show W0.heap[w.heap.size]? = some (.cells #[.slice none 0 0, .slice none 0 0] 26 (0, 0)) by rw [← hW0]; exact heap_alloc_new w _)
  have Nr := Lib.hid (Nat.ne_of_gt hpb)
  have Nr2 := Lib.hid (Nat.ne_of_gt h.lt)
  have BB := Lib.hid (But.of_below (g := p.pb) hB0)
  have SS := Lib.hid (And.intro (h.later hB0) hk)
  clear hB0
  have PB := Lib.hid hpb
  clear h hk hE hpb hsm hW
  generalize hG : (programP (p.ts.drop k)) = G
  unfold programP at hG
  have HG := Lib.hid hG
  clear hG
  go_enter Tryz.func36, Tryz.ntmps36
  go_wp2_with fail
  try rw [hW0]
  clear hW0
  obtain ⟨Af, hAf⟩ : ∃ A, W0.alloc (.cells #[.slice none 0 0, .slice none 0 0] 26) = A := ⟨_, rfl⟩
  have VV := Lib.hid (show w.heap.size < W0.heap.size from (Array.getElem?_eq_some_iff.1 Kr.out).1)
  have hBA : Below W0.heap.size W0 Af := by rw [← hAf]; exact (Below.refl _ _).alloc (Nat.le_refl _) _
  replace Kr := Lib.hid ((hBA.block _ (Array.getElem?_eq_some_iff.1 Kr.out).1).trans Kr.out)
  have Kf := Lib.hid (show Af.heap[W0.heap.size]? = some (.cells #[.slice none 0 0, .slice none 0 0] 26 (0, 0)) by rw [← hAf]; exact heap_alloc_new W0 _)
  have Nf := Lib.hid (Nat.ne_of_gt SS.out.1.lt_pb)
  have Tf := Lib.hid (Nat.ne_of_gt SS.out.1.lt)
  have Mf := Lib.hid (show w.heap.size ≤ W0.heap.size from BB.out.size)
  have Vf := Lib.hid (show w.heap.size < W0.heap.size from VV.out)
  replace SS := Lib.hid (And.intro (SS.out.1.later hBA) SS.out.2)
  replace BB := Lib.hid (BB.out.trans (But.of_below hBA))
  clear hBA
  have HAf := Lib.hid hAf
  clear hAf
  have HFb := Lib.hid (show W0.heap.size < Af.heap.size from (Array.getElem?_eq_some_iff.1 Kf.out).1)
  have HRb := Lib.hid (show w.heap.size < Af.heap.size from (Array.getElem?_eq_some_iff.1 Kr.out).1)
  have HPBl := Lib.hid SS.out.1.lt_pb
  have HTBl := Lib.hid SS.out.1.lt
  go_wp2_with fail
  try rw [HAf.out]
  clear HAf
  go_loopw [] (fun wr => ∃ (zs : List (Rgn × Unit)) (kk fu : Nat) (v : Value), Hid (zs.length ≤ kk) ∧ Hid ((p.ts.drop kk).length < fu) ∧ Hid (wr.ownsRow Af.heap.size 78 4 v zs.length (encs (fun (x : Rgn) (_ : Unit) => [.string (str x.name), .int .i64 x.addr, .int .i64 x.size, .bool x.secret]) zs)) ∧ Hid (wr.heap[W0.heap.size]? = some (.cells #[v, .slice none 0 0] 26 (0, 0))) ∧ Hid (wr.heap[w.heap.size]? = some (.cells #[.slice none 0 0, .slice none 0 0] 26 (0, 0))) ∧ Hid (Ps wr p.pb p.tb p.tf p.tc p.ts kk 0 ∧ kk < p.ts.length) ∧ Hid (But p.pb w wr) ∧ Hid (Af.heap.size ≤ wr.heap.size) ∧ Hid (G = (whileP regionP (fun t => decide (t.text = wRegion)) fu (p.ts.drop kk)).bind fun rs r => (manyP functionP [] (r.length + 1) r).bind fun fs r => .ok (⟨zs.map Prod.fst ++ rs, fs⟩ : Prg) r)) (fun wr => p.ts.length - atOf wr p.pb)
  case atStart =>
    refine ⟨[], k, (p.ts.drop k).length + 1, .slice none 0 0, Lib.hid (Nat.zero_le _), Lib.hid (Nat.lt_succ_self _), Lib.hid (World.ownsRow_nil _ _ _ _), Kf, Kr, SS, BB, Lib.hid (Nat.le_refl _), Lib.hid ?_⟩
    rw [← HG.out]; rfl
  case round =>
    clear Kf Kr SS BB
    obtain ⟨zs, kk, fu, v, hzk, hfu, HO, Kf, Kr, SS, BB, HWz, HGr⟩ := hrel
    obtain ⟨g, rfl⟩ : ∃ g, fu = g + 1 := ⟨fu - 1, by have := hfu.out; omega⟩
    have HLn := Lib.hid (show zs.length + 1 ≤ 100001 by have h1 := hzk.out; have h2 := SS.out.2; have h3 := HL.out; omega)
    have HPr := SS
    rcases Classical.em ((hdT (p.ts.drop kk)).text = wRegion) with t1 | t1
    · have HI := Lib.hid (CI.out kk wr SS.out.1 SS.out.2)
      rw [decide_eq_true t1] at HI
      go_wp2_with fail
      refine (HI.out).mono ?_
      rintro z w1 ⟨rfl, hBX⟩
      replace Kr := Lib.hid ((hBX.block _ (Array.getElem?_eq_some_iff.1 Kr.out).1).trans Kr.out)
      replace Kf := Lib.hid ((hBX.block _ (Array.getElem?_eq_some_iff.1 Kf.out).1).trans Kf.out)
      replace HO := Lib.hid (own_bel HO.out hBX)
      replace HWz := Lib.hid (Nat.le_trans HWz.out hBX.size)
      replace SS := Lib.hid (And.intro (SS.out.1.later hBX) SS.out.2)
      replace BB := Lib.hid (BB.out.trans (But.of_below hBX))
      clear hBX
      clear HI
      have HGy := Lib.hid (HGr.out.trans (by rw [whileP_more (by simp [t1])]))
      clear HGr t1
      have HG := Lib.hid HGy.out.symm
      go_wp2_with fail
      have hBD : Below w1.heap.size w1 w1.drew := (Below.refl _ _).drew
      replace Kr := Lib.hid ((hBD.block _ (Array.getElem?_eq_some_iff.1 Kr.out).1).trans Kr.out)
      replace Kf := Lib.hid ((hBD.block _ (Array.getElem?_eq_some_iff.1 Kf.out).1).trans Kf.out)
      replace HO := Lib.hid (own_bel HO.out hBD)
      replace HWz := Lib.hid (Nat.le_trans HWz.out hBD.size)
      replace SS := Lib.hid (And.intro (SS.out.1.later hBD) SS.out.2)
      replace BB := Lib.hid (BB.out.trans (But.of_below hBD))
      clear hBD
      refine wp_region_held_drew (S := fun _ => True) (by kernel_rfl) ?_ (fun hHeld => ?_)
      · trivial
      generalize w1.drew = wd at *
      refine wpAnyH_take (i := 0) (oi := ⟨some 6, .fieldAddr 26 (.tmp 3) 0, 0, "program.go:12", #[], none⟩) (v := ?_) rfl (by kernel_rfl) (by kernel_rfl) (by kernel_rfl) (fun _ _ _ h => h) (Or.inl ⟨by rfl, ?_⟩) (by assumption) ?_
      rotate_left
      · (intro w hSw; (try dsimp only at hSw); go_simp; try with_reducible rfl)
      try simp only [Act.put, List.setIfInBounds_toArray, List.set_cons_zero, List.set_cons_succ]
      refine wpAnyH_take (i := 2) (oi := ⟨some 8, .move (.tmp 0), 73, "program.go:12", #[], none⟩) (v := ?_) rfl (by kernel_rfl) (by kernel_rfl) (by kernel_rfl) (fun _ _ _ h => h) (Or.inl ⟨by rfl, ?_⟩) (by assumption) ?_
      rotate_left
      · (intro w hSw; (try dsimp only at hSw); go_simp; try with_reducible rfl)
      try simp only [Act.put, List.setIfInBounds_toArray, List.set_cons_zero, List.set_cons_succ]
      refine wpAnyH_ready (rs := [1, 3]) (by kernel_rfl) (by simp) ?_
      refine (AllReadyH.cons (o := ⟨some 7, .load 23 (.tmp 6), 23, "program.go:12", #[⟨0, .data⟩], none⟩) rfl (fun K hK => ?_) (AllReadyH.cons (o := ⟨some 9, .call { callee := .value (.func 88), args := #[.tmp 8], argTypes := #[73] }, 78, "program.go:12", #[⟨2, .data⟩], none⟩) rfl (fun K hK => ?_) AllReadyH.nil))
      · have lv := cell_blk Kf.out (j := 0) rfl
        go_simp
        clear lv
        refine hK.out _ _ trivial (fun hHeld => ?_)
        clear hK K
        try simp only [Act.put, List.setIfInBounds_toArray, List.set_cons_zero, List.set_cons_succ]
        refine wpAnyH_ready (rs := [3]) (by kernel_rfl) (by simp) ?_
        refine (AllReadyH.cons (o := ⟨some 9, .call { callee := .value (.func 88), args := #[.tmp 8], argTypes := #[73] }, 78, "program.go:12", #[⟨2, .data⟩], none⟩) rfl (fun K hK => ?_) AllReadyH.nil)
        go_simp
        have Va2 := Lib.hid (show w.heap.size < wd.heap.size from (Array.getElem?_eq_some_iff.1 Kr.out).1)
        have Ufa2 := Lib.hid (show W0.heap.size < wd.heap.size from (Array.getElem?_eq_some_iff.1 Kf.out).1)
        refine (CV.out kk wd SS.out.1 SS.out.2).mono ?_
        intro z w2 hc
        rcases hc with ⟨k2, a2, s2, hr, hkk, hp, hb, hz, hR⟩ | ⟨k2, e2, t2, hr, hp, hb, hz⟩
        rotate_left
        · subst hz
          have HN := Lib.hid (show Post RPrg G p 0 w (WrongIs (e2 : Int) t2) w2 from .no k2 e2 t2 (by rw [← HG.out]; simp only [hr, Res.bind_no]) hp (BB.out.trans hb) rfl)
          clear hr hp hb
          unfold WrongIs
          go_simp
          exact ⟨rfl, HN.out⟩
        replace Kr := Lib.hid ((hb.block _ (Array.getElem?_eq_some_iff.1 Kr.out).1 Nr.out).trans Kr.out)
        replace Kf := Lib.hid ((hb.block _ (Array.getElem?_eq_some_iff.1 Kf.out).1 Nf.out).trans Kf.out)
        replace HO := Lib.hid (own_but HO.out hb HPBl.out)
        replace HWz := Lib.hid (Nat.le_trans HWz.out hb.size)
        obtain rfl : z = .returned (.agg #[.string (str a2.name), .int .i64 a2.addr, .int .i64 a2.size, .bool a2.secret]) := hz
        have R2 := Lib.hid hr
        replace SS := Lib.hid (And.intro hp hkk)
        replace BB := Lib.hid (BB.out.trans hb)
        clear hr hkk hp hb hR
        refine hK.out _ _ trivial (fun hHeld => ?_)
        clear hK K
        try simp only [Act.put, List.setIfInBounds_toArray, List.set_cons_zero, List.set_cons_succ]
        refine wpAnyH_ready (rs := [4]) (by kernel_rfl) (by simp) ?_
        refine (AllReadyH.cons (o := ⟨some 10, .buildSlice 23 1 #[(0, .tmp 9)], 23, "program.go:12", #[⟨3, .data⟩], none⟩) rfl (fun K hK => ?_) AllReadyH.nil)
        go_simp
        obtain ⟨Ag, hAg⟩ : ∃ A, w2.alloc (.cells #[.string (str a2.name), .int .i64 a2.addr, .int .i64 a2.size, .bool a2.secret] 78) = A := ⟨_, rfl⟩
        have VV := Lib.hid (show w.heap.size < w2.heap.size from (Array.getElem?_eq_some_iff.1 Kr.out).1)
        have Xf := Lib.hid (Array.getElem?_eq_some_iff.1 Kf.out).1
        have hBA : Below w2.heap.size w2 Ag := by rw [← hAg]; exact (Below.refl _ _).alloc (Nat.le_refl _) _
        replace Kr := Lib.hid ((hBA.block _ (Array.getElem?_eq_some_iff.1 Kr.out).1).trans Kr.out)
        replace Kf := Lib.hid ((hBA.block _ (Array.getElem?_eq_some_iff.1 Kf.out).1).trans Kf.out)
        replace HO := Lib.hid (own_bel HO.out hBA)
        replace HWz := Lib.hid (Nat.le_trans HWz.out hBA.size)
        have Kg := Lib.hid (show Ag.heap[w2.heap.size]? = some (.cells #[.string (str a2.name), .int .i64 a2.addr, .int .i64 a2.size, .bool a2.secret] 78 (0, 0)) by rw [← hAg]; exact heap_alloc_new w2 _)
        have Ng := Lib.hid (Nat.ne_of_gt SS.out.1.lt_pb)
        have Tg := Lib.hid (Nat.ne_of_gt SS.out.1.lt)
        have Lfg := Lib.hid (show W0.heap.size < w2.heap.size from Xf.out)
        have Mg := Lib.hid (show w.heap.size ≤ w2.heap.size from BB.out.size)
        have Vg := Lib.hid (show w.heap.size < w2.heap.size from VV.out)
        replace SS := Lib.hid (And.intro (SS.out.1.later hBA) SS.out.2)
        replace BB := Lib.hid (BB.out.trans (But.of_below hBA))
        clear hBA
        have HAg := Lib.hid hAg
        clear hAg
        rw [HAg.out]
        clear HAg
        refine hK.out _ _ trivial (fun hHeld => ?_)
        clear hK K
        try simp only [Act.put, List.setIfInBounds_toArray, List.set_cons_zero, List.set_cons_succ]
        refine wpAnyH_ready (rs := [5]) (by kernel_rfl) (by simp) ?_
        refine (AllReadyH.cons (o := ⟨some 11, .call { callee := .builtin .append, args := #[.tmp 7, .tmp 10], argTypes := #[23, 23] }, 23, "program.go:12", #[⟨1, .data⟩, ⟨4, .data⟩, ⟨3, .chain⟩], none⟩) rfl (fun K hK => ?_) AllReadyH.nil)
        rw [if_pos (by rfl)]
        refine wp_append_own _ _ _ 23 rfl Af.heap.size 78 i0 (.agg #[.string ByteArray.empty, .int .i64 0, .int .i64 0, .bool false]) 4 40 Tryz.underlying23 hi hz0 hz1 hz2 rfl (by decide) _ _ _ rfl HO.out ⟨w2.heap.size, 0, none⟩ 1 1 [.string (str a2.name), .int .i64 a2.addr, .int .i64 a2.size, .bool a2.secret] rfl rfl ?_ ?_ ?_ ?_ HWz.out ?_
        · intro j u hj
          have := cell_blk Kg.out (j := j) (v := u) (by rw [← Array.getElem?_toList]; exact hj)
          rw [add_of, Nat.zero_add]
          exact this
        · intro u hu
          simp only [List.mem_cons, List.not_mem_nil, or_false] at hu
          rcases hu with rfl | rfl | rfl | rfl <;> rfl
        · have := HLn.out; unfold maxLen; omega
        · have := HLn.out; omega
        intro v' w3 hown hgrow _
        obtain ⟨qn, cn, rfl⟩ := own_slice hown
        replace Kr := Lib.hid ((hgrow.block _ (Array.getElem?_eq_some_iff.1 Kr.out).1 (fun e => Nat.ne_of_lt (Nat.lt_of_lt_of_le (HRb.out) (HO.out.lt _ e.symm).1) rfl)).trans Kr.out)
        replace Kf := Lib.hid ((hgrow.block _ (Array.getElem?_eq_some_iff.1 Kf.out).1 (fun e => Nat.ne_of_lt (Nat.lt_of_lt_of_le (HFb.out) (HO.out.lt _ e.symm).1) rfl)).trans Kf.out)
        replace SS := Lib.hid (And.intro (SS.out.1.grown hgrow (fun e => by have h1 := (HO.out.lt _ e).1; have h2 := HPBl.out; omega) (fun e => by have h1 := (HO.out.lt _ e).1; have h2 := HTBl.out; omega)) SS.out.2)
        replace BB := Lib.hid (BB.out.grown hgrow (fun j hj => Nat.le_trans (Nat.le_of_lt HRb.out) (HO.out.lt j hj).1))
        replace HWz := Lib.hid (Nat.le_trans HWz.out hgrow.size)
        replace HO := Lib.hid hown
        clear hown hgrow
        refine hK.out _ _ trivial (fun hHeld => ?_)
        clear hK K
        try simp only [Act.put, List.setIfInBounds_toArray, List.set_cons_zero, List.set_cons_succ]
        refine wpAnyH_take (i := 6) (oi := ⟨some 12, .fieldAddr 26 (.tmp 3) 0, 0, "program.go:12", #[⟨0, .phase⟩, ⟨1, .phase⟩, ⟨2, .phase⟩, ⟨3, .phase⟩, ⟨4, .phase⟩, ⟨5, .phase⟩], none⟩) (v := ?_) rfl (by kernel_rfl) (by kernel_rfl) (by kernel_rfl) (fun _ _ _ h => h) (Or.inl ⟨by rfl, ?_⟩) (by assumption) ?_
        rotate_left
        · (intro w hSw; (try dsimp only at hSw); go_simp; try with_reducible rfl)
        try simp only [Act.put, List.setIfInBounds_toArray, List.set_cons_zero, List.set_cons_succ]
        refine wpAnyH_ready (rs := [7]) (by kernel_rfl) (by simp) ?_
        refine (AllReadyH.cons (o := ⟨none, .store 23 (.tmp 12) (.tmp 11), 0, "program.go:12", #[⟨6, .data⟩, ⟨5, .data⟩, ⟨5, .chain⟩, ⟨0, .phase⟩, ⟨1, .phase⟩, ⟨2, .phase⟩, ⟨3, .phase⟩, ⟨4, .phase⟩, ⟨5, .phase⟩], none⟩) rfl (fun K hK => ?_) AllReadyH.nil)
        have lu := cell_blk Kf.out (j := 0) rfl
        have lf : w3.frozen? ⟨W0.heap.size, 0, none⟩ = false := by simp [World.frozen?, Kf.out]
        go_simp
        clear lu lf
        have u4 := cell_blk Kf.out (j := 0) rfl
        have v4 : w3.frozen? ⟨W0.heap.size, 0, none⟩ = false := by simp [World.frozen?, Kf.out]
        obtain ⟨E4, hE4⟩ : ∃ E, w3.setCell ⟨W0.heap.size, 0, none⟩ (.slice qn (zs.length + 1) cn) = E := ⟨_, rfl⟩
        have hEo : ∀ j, j ≠ W0.heap.size → E4.heap[j]? = w3.heap[j]? := fun j hj => by rw [← hE4]; exact Below.heap_setCell w3 _ _ _ hj
        have hEz : E4.heap.size = w3.heap.size := by rw [← hE4]; simp [World.setCell]
        have hEk : E4.heap[W0.heap.size]? = some (.cells #[.slice qn (zs.length + 1) cn, .slice none 0 0] 26 (0, 0)) := by rw [← hE4, setCell_eq_setRow _ _ _ _ 26 (0, 0) _ Kf.out]; exact setRow_heap _ _ _ _ 26 (0, 0) Kf.out
        replace Kr := Lib.hid ((hEo _ (Nat.ne_of_lt Vf.out)).trans Kr.out)
        replace Kf := Lib.hid hEk
        replace HO := Lib.hid (own_block HO.out (fun g h1 _ => hEo g (Nat.ne_of_gt (Nat.lt_of_lt_of_le HFb.out h1))))
        replace HWz := Lib.hid (Nat.le_trans HWz.out (Nat.le_of_eq hEz.symm))
        have hSo := SS.out.1.other (p := ⟨W0.heap.size, 0, none⟩) Nf.out Tf.out (.slice qn (zs.length + 1) cn)
        have hBo := BB.out.putNew (p := ⟨W0.heap.size, 0, none⟩) Mf.out (.slice qn (zs.length + 1) cn)
        rw [hE4] at hSo hBo
        replace SS := Lib.hid (And.intro hSo SS.out.2)
        replace BB := Lib.hid hBo
        clear hEo hEz hEk hSo hBo
        rw [hE4]
        clear hE4 u4 v4
        refine hK.out _ _ trivial (fun hHeld => ?_)
        clear hK K
        try simp only [Act.put, List.setIfInBounds_toArray, List.set_cons_zero, List.set_cons_succ]
        refine wpAnyH_done (by kernel_rfl) ?_ _
        go_wp2_with fail
        go_roundw
        case rel =>
          refine ⟨zs ++ [(a2, ())], k2, g, .slice qn (zs.length + 1) cn, Lib.hid ?_, Lib.hid ?_, Lib.hid ?_, Kf, Kr, SS, BB, HWz, Lib.hid ?_⟩
          · have h1 := regionP_shs _ _ _ R2.out; rw [List.length_drop, List.length_drop] at h1; have h2 := hzk.out; have h3 := SS.out.2; rw [List.length_append, List.length_singleton]; omega
          · have h1 := regionP_shs _ _ _ R2.out; rw [List.length_drop, List.length_drop] at h1; have h2 := hfu.out; have h3 := SS.out.2; rw [List.length_drop] at h2 ⊢; omega
          · rw [List.length_append, encs_app]; exact HO.out
          · rw [HGy.out, R2.out, map_fst_snoc, Res.bind_ok, Res.bind_assoc]; simp only [Res.bind_ok, List.append_assoc, List.singleton_append]
        case measure =>
          have h1 := regionP_shs _ _ _ R2.out; rw [List.length_drop, List.length_drop] at h1; have h2 := SS.out.1.atOf; have h3 := HPr.out.1.atOf; have h4 := SS.out.2; have h5 := HPr.out.2; rw [h2, h3]; omega
      · go_simp
        have Va2 := Lib.hid (show w.heap.size < wd.heap.size from (Array.getElem?_eq_some_iff.1 Kr.out).1)
        have Ufa2 := Lib.hid (show W0.heap.size < wd.heap.size from (Array.getElem?_eq_some_iff.1 Kf.out).1)
        refine (CV.out kk wd SS.out.1 SS.out.2).mono ?_
        intro z w2 hc
        rcases hc with ⟨k2, a2, s2, hr, hkk, hp, hb, hz, hR⟩ | ⟨k2, e2, t2, hr, hp, hb, hz⟩
        rotate_left
        · subst hz
          have HN := Lib.hid (show Post RPrg G p 0 w (WrongIs (e2 : Int) t2) w2 from .no k2 e2 t2 (by rw [← HG.out]; simp only [hr, Res.bind_no]) hp (BB.out.trans hb) rfl)
          clear hr hp hb
          unfold WrongIs
          go_simp
          exact ⟨rfl, HN.out⟩
        replace Kr := Lib.hid ((hb.block _ (Array.getElem?_eq_some_iff.1 Kr.out).1 Nr.out).trans Kr.out)
        replace Kf := Lib.hid ((hb.block _ (Array.getElem?_eq_some_iff.1 Kf.out).1 Nf.out).trans Kf.out)
        replace HO := Lib.hid (own_but HO.out hb HPBl.out)
        replace HWz := Lib.hid (Nat.le_trans HWz.out hb.size)
        obtain rfl : z = .returned (.agg #[.string (str a2.name), .int .i64 a2.addr, .int .i64 a2.size, .bool a2.secret]) := hz
        have R2 := Lib.hid hr
        replace SS := Lib.hid (And.intro hp hkk)
        replace BB := Lib.hid (BB.out.trans hb)
        clear hr hkk hp hb hR
        refine hK.out _ _ trivial (fun hHeld => ?_)
        clear hK K
        try simp only [Act.put, List.setIfInBounds_toArray, List.set_cons_zero, List.set_cons_succ]
        refine wpAnyH_ready (rs := [1, 4]) (by kernel_rfl) (by simp) ?_
        refine (AllReadyH.cons (o := ⟨some 7, .load 23 (.tmp 6), 23, "program.go:12", #[⟨0, .data⟩], none⟩) rfl (fun K hK => ?_) (AllReadyH.cons (o := ⟨some 10, .buildSlice 23 1 #[(0, .tmp 9)], 23, "program.go:12", #[⟨3, .data⟩], none⟩) rfl (fun K hK => ?_) AllReadyH.nil))
        · have lv := cell_blk Kf.out (j := 0) rfl
          go_simp
          clear lv
          refine hK.out _ _ trivial (fun hHeld => ?_)
          clear hK K
          try simp only [Act.put, List.setIfInBounds_toArray, List.set_cons_zero, List.set_cons_succ]
          refine wpAnyH_ready (rs := [4]) (by kernel_rfl) (by simp) ?_
          refine (AllReadyH.cons (o := ⟨some 10, .buildSlice 23 1 #[(0, .tmp 9)], 23, "program.go:12", #[⟨3, .data⟩], none⟩) rfl (fun K hK => ?_) AllReadyH.nil)
          go_simp
          obtain ⟨Ag, hAg⟩ : ∃ A, w2.alloc (.cells #[.string (str a2.name), .int .i64 a2.addr, .int .i64 a2.size, .bool a2.secret] 78) = A := ⟨_, rfl⟩
          have VV := Lib.hid (show w.heap.size < w2.heap.size from (Array.getElem?_eq_some_iff.1 Kr.out).1)
          have Xf := Lib.hid (Array.getElem?_eq_some_iff.1 Kf.out).1
          have hBA : Below w2.heap.size w2 Ag := by rw [← hAg]; exact (Below.refl _ _).alloc (Nat.le_refl _) _
          replace Kr := Lib.hid ((hBA.block _ (Array.getElem?_eq_some_iff.1 Kr.out).1).trans Kr.out)
          replace Kf := Lib.hid ((hBA.block _ (Array.getElem?_eq_some_iff.1 Kf.out).1).trans Kf.out)
          replace HO := Lib.hid (own_bel HO.out hBA)
          replace HWz := Lib.hid (Nat.le_trans HWz.out hBA.size)
          have Kg := Lib.hid (show Ag.heap[w2.heap.size]? = some (.cells #[.string (str a2.name), .int .i64 a2.addr, .int .i64 a2.size, .bool a2.secret] 78 (0, 0)) by rw [← hAg]; exact heap_alloc_new w2 _)
          have Ng := Lib.hid (Nat.ne_of_gt SS.out.1.lt_pb)
          have Tg := Lib.hid (Nat.ne_of_gt SS.out.1.lt)
          have Lfg := Lib.hid (show W0.heap.size < w2.heap.size from Xf.out)
          have Mg := Lib.hid (show w.heap.size ≤ w2.heap.size from BB.out.size)
          have Vg := Lib.hid (show w.heap.size < w2.heap.size from VV.out)
          replace SS := Lib.hid (And.intro (SS.out.1.later hBA) SS.out.2)
          replace BB := Lib.hid (BB.out.trans (But.of_below hBA))
          clear hBA
          have HAg := Lib.hid hAg
          clear hAg
          rw [HAg.out]
          clear HAg
          refine hK.out _ _ trivial (fun hHeld => ?_)
          clear hK K
          try simp only [Act.put, List.setIfInBounds_toArray, List.set_cons_zero, List.set_cons_succ]
          refine wpAnyH_ready (rs := [5]) (by kernel_rfl) (by simp) ?_
          refine (AllReadyH.cons (o := ⟨some 11, .call { callee := .builtin .append, args := #[.tmp 7, .tmp 10], argTypes := #[23, 23] }, 23, "program.go:12", #[⟨1, .data⟩, ⟨4, .data⟩, ⟨3, .chain⟩], none⟩) rfl (fun K hK => ?_) AllReadyH.nil)
          rw [if_pos (by rfl)]
          refine wp_append_own _ _ _ 23 rfl Af.heap.size 78 i0 (.agg #[.string ByteArray.empty, .int .i64 0, .int .i64 0, .bool false]) 4 40 Tryz.underlying23 hi hz0 hz1 hz2 rfl (by decide) _ _ _ rfl HO.out ⟨w2.heap.size, 0, none⟩ 1 1 [.string (str a2.name), .int .i64 a2.addr, .int .i64 a2.size, .bool a2.secret] rfl rfl ?_ ?_ ?_ ?_ HWz.out ?_
          · intro j u hj
            have := cell_blk Kg.out (j := j) (v := u) (by rw [← Array.getElem?_toList]; exact hj)
            rw [add_of, Nat.zero_add]
            exact this
          · intro u hu
            simp only [List.mem_cons, List.not_mem_nil, or_false] at hu
            rcases hu with rfl | rfl | rfl | rfl <;> rfl
          · have := HLn.out; unfold maxLen; omega
          · have := HLn.out; omega
          intro v' w3 hown hgrow _
          obtain ⟨qn, cn, rfl⟩ := own_slice hown
          replace Kr := Lib.hid ((hgrow.block _ (Array.getElem?_eq_some_iff.1 Kr.out).1 (fun e => Nat.ne_of_lt (Nat.lt_of_lt_of_le (HRb.out) (HO.out.lt _ e.symm).1) rfl)).trans Kr.out)
          replace Kf := Lib.hid ((hgrow.block _ (Array.getElem?_eq_some_iff.1 Kf.out).1 (fun e => Nat.ne_of_lt (Nat.lt_of_lt_of_le (HFb.out) (HO.out.lt _ e.symm).1) rfl)).trans Kf.out)
          replace SS := Lib.hid (And.intro (SS.out.1.grown hgrow (fun e => by have h1 := (HO.out.lt _ e).1; have h2 := HPBl.out; omega) (fun e => by have h1 := (HO.out.lt _ e).1; have h2 := HTBl.out; omega)) SS.out.2)
          replace BB := Lib.hid (BB.out.grown hgrow (fun j hj => Nat.le_trans (Nat.le_of_lt HRb.out) (HO.out.lt j hj).1))
          replace HWz := Lib.hid (Nat.le_trans HWz.out hgrow.size)
          replace HO := Lib.hid hown
          clear hown hgrow
          refine hK.out _ _ trivial (fun hHeld => ?_)
          clear hK K
          try simp only [Act.put, List.setIfInBounds_toArray, List.set_cons_zero, List.set_cons_succ]
          refine wpAnyH_take (i := 6) (oi := ⟨some 12, .fieldAddr 26 (.tmp 3) 0, 0, "program.go:12", #[⟨0, .phase⟩, ⟨1, .phase⟩, ⟨2, .phase⟩, ⟨3, .phase⟩, ⟨4, .phase⟩, ⟨5, .phase⟩], none⟩) (v := ?_) rfl (by kernel_rfl) (by kernel_rfl) (by kernel_rfl) (fun _ _ _ h => h) (Or.inl ⟨by rfl, ?_⟩) (by assumption) ?_
          rotate_left
          · (intro w hSw; (try dsimp only at hSw); go_simp; try with_reducible rfl)
          try simp only [Act.put, List.setIfInBounds_toArray, List.set_cons_zero, List.set_cons_succ]
          refine wpAnyH_ready (rs := [7]) (by kernel_rfl) (by simp) ?_
          refine (AllReadyH.cons (o := ⟨none, .store 23 (.tmp 12) (.tmp 11), 0, "program.go:12", #[⟨6, .data⟩, ⟨5, .data⟩, ⟨5, .chain⟩, ⟨0, .phase⟩, ⟨1, .phase⟩, ⟨2, .phase⟩, ⟨3, .phase⟩, ⟨4, .phase⟩, ⟨5, .phase⟩], none⟩) rfl (fun K hK => ?_) AllReadyH.nil)
          have lu := cell_blk Kf.out (j := 0) rfl
          have lf : w3.frozen? ⟨W0.heap.size, 0, none⟩ = false := by simp [World.frozen?, Kf.out]
          go_simp
          clear lu lf
          have u4 := cell_blk Kf.out (j := 0) rfl
          have v4 : w3.frozen? ⟨W0.heap.size, 0, none⟩ = false := by simp [World.frozen?, Kf.out]
          obtain ⟨E4, hE4⟩ : ∃ E, w3.setCell ⟨W0.heap.size, 0, none⟩ (.slice qn (zs.length + 1) cn) = E := ⟨_, rfl⟩
          have hEo : ∀ j, j ≠ W0.heap.size → E4.heap[j]? = w3.heap[j]? := fun j hj => by rw [← hE4]; exact Below.heap_setCell w3 _ _ _ hj
          have hEz : E4.heap.size = w3.heap.size := by rw [← hE4]; simp [World.setCell]
          have hEk : E4.heap[W0.heap.size]? = some (.cells #[.slice qn (zs.length + 1) cn, .slice none 0 0] 26 (0, 0)) := by rw [← hE4, setCell_eq_setRow _ _ _ _ 26 (0, 0) _ Kf.out]; exact setRow_heap _ _ _ _ 26 (0, 0) Kf.out
          replace Kr := Lib.hid ((hEo _ (Nat.ne_of_lt Vf.out)).trans Kr.out)
          replace Kf := Lib.hid hEk
          replace HO := Lib.hid (own_block HO.out (fun g h1 _ => hEo g (Nat.ne_of_gt (Nat.lt_of_lt_of_le HFb.out h1))))
          replace HWz := Lib.hid (Nat.le_trans HWz.out (Nat.le_of_eq hEz.symm))
          have hSo := SS.out.1.other (p := ⟨W0.heap.size, 0, none⟩) Nf.out Tf.out (.slice qn (zs.length + 1) cn)
          have hBo := BB.out.putNew (p := ⟨W0.heap.size, 0, none⟩) Mf.out (.slice qn (zs.length + 1) cn)
          rw [hE4] at hSo hBo
          replace SS := Lib.hid (And.intro hSo SS.out.2)
          replace BB := Lib.hid hBo
          clear hEo hEz hEk hSo hBo
          rw [hE4]
          clear hE4 u4 v4
          refine hK.out _ _ trivial (fun hHeld => ?_)
          clear hK K
          try simp only [Act.put, List.setIfInBounds_toArray, List.set_cons_zero, List.set_cons_succ]
          refine wpAnyH_done (by kernel_rfl) ?_ _
          go_wp2_with fail
          go_roundw
          case rel =>
            refine ⟨zs ++ [(a2, ())], k2, g, .slice qn (zs.length + 1) cn, Lib.hid ?_, Lib.hid ?_, Lib.hid ?_, Kf, Kr, SS, BB, HWz, Lib.hid ?_⟩
            · have h1 := regionP_shs _ _ _ R2.out; rw [List.length_drop, List.length_drop] at h1; have h2 := hzk.out; have h3 := SS.out.2; rw [List.length_append, List.length_singleton]; omega
            · have h1 := regionP_shs _ _ _ R2.out; rw [List.length_drop, List.length_drop] at h1; have h2 := hfu.out; have h3 := SS.out.2; rw [List.length_drop] at h2 ⊢; omega
            · rw [List.length_append, encs_app]; exact HO.out
            · rw [HGy.out, R2.out, map_fst_snoc, Res.bind_ok, Res.bind_assoc]; simp only [Res.bind_ok, List.append_assoc, List.singleton_append]
          case measure =>
            have h1 := regionP_shs _ _ _ R2.out; rw [List.length_drop, List.length_drop] at h1; have h2 := SS.out.1.atOf; have h3 := HPr.out.1.atOf; have h4 := SS.out.2; have h5 := HPr.out.2; rw [h2, h3]; omega
        · go_simp
          obtain ⟨Ag, hAg⟩ : ∃ A, w2.alloc (.cells #[.string (str a2.name), .int .i64 a2.addr, .int .i64 a2.size, .bool a2.secret] 78) = A := ⟨_, rfl⟩
          have VV := Lib.hid (show w.heap.size < w2.heap.size from (Array.getElem?_eq_some_iff.1 Kr.out).1)
          have Xf := Lib.hid (Array.getElem?_eq_some_iff.1 Kf.out).1
          have hBA : Below w2.heap.size w2 Ag := by rw [← hAg]; exact (Below.refl _ _).alloc (Nat.le_refl _) _
          replace Kr := Lib.hid ((hBA.block _ (Array.getElem?_eq_some_iff.1 Kr.out).1).trans Kr.out)
          replace Kf := Lib.hid ((hBA.block _ (Array.getElem?_eq_some_iff.1 Kf.out).1).trans Kf.out)
          replace HO := Lib.hid (own_bel HO.out hBA)
          replace HWz := Lib.hid (Nat.le_trans HWz.out hBA.size)
          have Kg := Lib.hid (show Ag.heap[w2.heap.size]? = some (.cells #[.string (str a2.name), .int .i64 a2.addr, .int .i64 a2.size, .bool a2.secret] 78 (0, 0)) by rw [← hAg]; exact heap_alloc_new w2 _)
          have Ng := Lib.hid (Nat.ne_of_gt SS.out.1.lt_pb)
          have Tg := Lib.hid (Nat.ne_of_gt SS.out.1.lt)
          have Lfg := Lib.hid (show W0.heap.size < w2.heap.size from Xf.out)
          have Mg := Lib.hid (show w.heap.size ≤ w2.heap.size from BB.out.size)
          have Vg := Lib.hid (show w.heap.size < w2.heap.size from VV.out)
          replace SS := Lib.hid (And.intro (SS.out.1.later hBA) SS.out.2)
          replace BB := Lib.hid (BB.out.trans (But.of_below hBA))
          clear hBA
          have HAg := Lib.hid hAg
          clear hAg
          rw [HAg.out]
          clear HAg
          refine hK.out _ _ trivial (fun hHeld => ?_)
          clear hK K
          try simp only [Act.put, List.setIfInBounds_toArray, List.set_cons_zero, List.set_cons_succ]
          refine wpAnyH_ready (rs := [1]) (by kernel_rfl) (by simp) ?_
          refine (AllReadyH.cons (o := ⟨some 7, .load 23 (.tmp 6), 23, "program.go:12", #[⟨0, .data⟩], none⟩) rfl (fun K hK => ?_) AllReadyH.nil)
          have lv := cell_blk Kf.out (j := 0) rfl
          go_simp
          clear lv
          refine hK.out _ _ trivial (fun hHeld => ?_)
          clear hK K
          try simp only [Act.put, List.setIfInBounds_toArray, List.set_cons_zero, List.set_cons_succ]
          refine wpAnyH_ready (rs := [5]) (by kernel_rfl) (by simp) ?_
          refine (AllReadyH.cons (o := ⟨some 11, .call { callee := .builtin .append, args := #[.tmp 7, .tmp 10], argTypes := #[23, 23] }, 23, "program.go:12", #[⟨1, .data⟩, ⟨4, .data⟩, ⟨3, .chain⟩], none⟩) rfl (fun K hK => ?_) AllReadyH.nil)
          rw [if_pos (by rfl)]
          refine wp_append_own _ _ _ 23 rfl Af.heap.size 78 i0 (.agg #[.string ByteArray.empty, .int .i64 0, .int .i64 0, .bool false]) 4 40 Tryz.underlying23 hi hz0 hz1 hz2 rfl (by decide) _ _ _ rfl HO.out ⟨w2.heap.size, 0, none⟩ 1 1 [.string (str a2.name), .int .i64 a2.addr, .int .i64 a2.size, .bool a2.secret] rfl rfl ?_ ?_ ?_ ?_ HWz.out ?_
          · intro j u hj
            have := cell_blk Kg.out (j := j) (v := u) (by rw [← Array.getElem?_toList]; exact hj)
            rw [add_of, Nat.zero_add]
            exact this
          · intro u hu
            simp only [List.mem_cons, List.not_mem_nil, or_false] at hu
            rcases hu with rfl | rfl | rfl | rfl <;> rfl
          · have := HLn.out; unfold maxLen; omega
          · have := HLn.out; omega
          intro v' w3 hown hgrow _
          obtain ⟨qn, cn, rfl⟩ := own_slice hown
          replace Kr := Lib.hid ((hgrow.block _ (Array.getElem?_eq_some_iff.1 Kr.out).1 (fun e => Nat.ne_of_lt (Nat.lt_of_lt_of_le (HRb.out) (HO.out.lt _ e.symm).1) rfl)).trans Kr.out)
          replace Kf := Lib.hid ((hgrow.block _ (Array.getElem?_eq_some_iff.1 Kf.out).1 (fun e => Nat.ne_of_lt (Nat.lt_of_lt_of_le (HFb.out) (HO.out.lt _ e.symm).1) rfl)).trans Kf.out)
          replace SS := Lib.hid (And.intro (SS.out.1.grown hgrow (fun e => by have h1 := (HO.out.lt _ e).1; have h2 := HPBl.out; omega) (fun e => by have h1 := (HO.out.lt _ e).1; have h2 := HTBl.out; omega)) SS.out.2)
          replace BB := Lib.hid (BB.out.grown hgrow (fun j hj => Nat.le_trans (Nat.le_of_lt HRb.out) (HO.out.lt j hj).1))
          replace HWz := Lib.hid (Nat.le_trans HWz.out hgrow.size)
          replace HO := Lib.hid hown
          clear hown hgrow
          refine hK.out _ _ trivial (fun hHeld => ?_)
          clear hK K
          try simp only [Act.put, List.setIfInBounds_toArray, List.set_cons_zero, List.set_cons_succ]
          refine wpAnyH_take (i := 6) (oi := ⟨some 12, .fieldAddr 26 (.tmp 3) 0, 0, "program.go:12", #[⟨0, .phase⟩, ⟨1, .phase⟩, ⟨2, .phase⟩, ⟨3, .phase⟩, ⟨4, .phase⟩, ⟨5, .phase⟩], none⟩) (v := ?_) rfl (by kernel_rfl) (by kernel_rfl) (by kernel_rfl) (fun _ _ _ h => h) (Or.inl ⟨by rfl, ?_⟩) (by assumption) ?_
          rotate_left
          · (intro w hSw; (try dsimp only at hSw); go_simp; try with_reducible rfl)
          try simp only [Act.put, List.setIfInBounds_toArray, List.set_cons_zero, List.set_cons_succ]
          refine wpAnyH_ready (rs := [7]) (by kernel_rfl) (by simp) ?_
          refine (AllReadyH.cons (o := ⟨none, .store 23 (.tmp 12) (.tmp 11), 0, "program.go:12", #[⟨6, .data⟩, ⟨5, .data⟩, ⟨5, .chain⟩, ⟨0, .phase⟩, ⟨1, .phase⟩, ⟨2, .phase⟩, ⟨3, .phase⟩, ⟨4, .phase⟩, ⟨5, .phase⟩], none⟩) rfl (fun K hK => ?_) AllReadyH.nil)
          have lu := cell_blk Kf.out (j := 0) rfl
          have lf : w3.frozen? ⟨W0.heap.size, 0, none⟩ = false := by simp [World.frozen?, Kf.out]
          go_simp
          clear lu lf
          have u4 := cell_blk Kf.out (j := 0) rfl
          have v4 : w3.frozen? ⟨W0.heap.size, 0, none⟩ = false := by simp [World.frozen?, Kf.out]
          obtain ⟨E4, hE4⟩ : ∃ E, w3.setCell ⟨W0.heap.size, 0, none⟩ (.slice qn (zs.length + 1) cn) = E := ⟨_, rfl⟩
          have hEo : ∀ j, j ≠ W0.heap.size → E4.heap[j]? = w3.heap[j]? := fun j hj => by rw [← hE4]; exact Below.heap_setCell w3 _ _ _ hj
          have hEz : E4.heap.size = w3.heap.size := by rw [← hE4]; simp [World.setCell]
          have hEk : E4.heap[W0.heap.size]? = some (.cells #[.slice qn (zs.length + 1) cn, .slice none 0 0] 26 (0, 0)) := by rw [← hE4, setCell_eq_setRow _ _ _ _ 26 (0, 0) _ Kf.out]; exact setRow_heap _ _ _ _ 26 (0, 0) Kf.out
          replace Kr := Lib.hid ((hEo _ (Nat.ne_of_lt Vf.out)).trans Kr.out)
          replace Kf := Lib.hid hEk
          replace HO := Lib.hid (own_block HO.out (fun g h1 _ => hEo g (Nat.ne_of_gt (Nat.lt_of_lt_of_le HFb.out h1))))
          replace HWz := Lib.hid (Nat.le_trans HWz.out (Nat.le_of_eq hEz.symm))
          have hSo := SS.out.1.other (p := ⟨W0.heap.size, 0, none⟩) Nf.out Tf.out (.slice qn (zs.length + 1) cn)
          have hBo := BB.out.putNew (p := ⟨W0.heap.size, 0, none⟩) Mf.out (.slice qn (zs.length + 1) cn)
          rw [hE4] at hSo hBo
          replace SS := Lib.hid (And.intro hSo SS.out.2)
          replace BB := Lib.hid hBo
          clear hEo hEz hEk hSo hBo
          rw [hE4]
          clear hE4 u4 v4
          refine hK.out _ _ trivial (fun hHeld => ?_)
          clear hK K
          try simp only [Act.put, List.setIfInBounds_toArray, List.set_cons_zero, List.set_cons_succ]
          refine wpAnyH_done (by kernel_rfl) ?_ _
          go_wp2_with fail
          go_roundw
          case rel =>
            refine ⟨zs ++ [(a2, ())], k2, g, .slice qn (zs.length + 1) cn, Lib.hid ?_, Lib.hid ?_, Lib.hid ?_, Kf, Kr, SS, BB, HWz, Lib.hid ?_⟩
            · have h1 := regionP_shs _ _ _ R2.out; rw [List.length_drop, List.length_drop] at h1; have h2 := hzk.out; have h3 := SS.out.2; rw [List.length_append, List.length_singleton]; omega
            · have h1 := regionP_shs _ _ _ R2.out; rw [List.length_drop, List.length_drop] at h1; have h2 := hfu.out; have h3 := SS.out.2; rw [List.length_drop] at h2 ⊢; omega
            · rw [List.length_append, encs_app]; exact HO.out
            · rw [HGy.out, R2.out, map_fst_snoc, Res.bind_ok, Res.bind_assoc]; simp only [Res.bind_ok, List.append_assoc, List.singleton_append]
          case measure =>
            have h1 := regionP_shs _ _ _ R2.out; rw [List.length_drop, List.length_drop] at h1; have h2 := SS.out.1.atOf; have h3 := HPr.out.1.atOf; have h4 := SS.out.2; have h5 := HPr.out.2; rw [h2, h3]; omega
    · have HI := Lib.hid (CI.out kk wr SS.out.1 SS.out.2)
      rw [decide_eq_false t1] at HI
      go_wp2_with fail
      refine (HI.out).mono ?_
      rintro z w1 ⟨rfl, hBX⟩
      replace Kr := Lib.hid ((hBX.block _ (Array.getElem?_eq_some_iff.1 Kr.out).1).trans Kr.out)
      replace Kf := Lib.hid ((hBX.block _ (Array.getElem?_eq_some_iff.1 Kf.out).1).trans Kf.out)
      replace HO := Lib.hid (own_bel HO.out hBX)
      replace HWz := Lib.hid (Nat.le_trans HWz.out hBX.size)
      replace SS := Lib.hid (And.intro (SS.out.1.later hBX) SS.out.2)
      replace BB := Lib.hid (BB.out.trans (But.of_below hBX))
      clear hBX
      clear HI
      have HGy := Lib.hid (HGr.out.trans (by rw [whileP_over (by simp [t1]), Res.bind_ok, List.append_nil]))
      clear HGr t1
      have HG := Lib.hid HGy.out.symm
      obtain ⟨⟨qav, cav⟩, hv, hfr⟩ := row_fresh (A := fun W _ => Rgn.At W) (k := 4) (OK := fun _ _ (_ : Rgn) (_ : Unit) => True) (enc := (fun (x : Rgn) (_ : Unit) => [.string (str x.name), .int .i64 x.addr, .int .i64 x.size, .bool x.secret])) (fun _ _ => rfl) (fun W N x s b o hok hc => ⟨hc 0 _ rfl, hc 1 _ rfl, hc 2 _ rfl, hc 3 _ rfl⟩) (fun _ _ _ _ _ _ _ => trivial) HO.out (els_true _ _ _ zs) (by have := HLn.out; omega)
      obtain rfl : v = .slice qav (zs.map Prod.fst).length cav := hv
      have Fav := Lib.hid (show Fresh Af.heap.size w1.heap.size w1 (fun W N => (zs.map Prod.fst).length ≤ cav ∧ RowIn N (Rgn.At W) 4 (zs.map Prod.fst) qav) from hfr)
      have Gav := Lib.hid HPBl.out
      have Zav := Lib.hid (Nat.le_refl w1.heap.size)
      have Yav := Lib.hid (Nat.le_of_lt HRb.out)
      have Vav := Lib.hid HRb.out
      have Ufav := Lib.hid HFb.out
      clear hfr
      clear HO
      go_wp2_with fail
      have Va2 := Lib.hid (show w.heap.size < w1.heap.size from (Array.getElem?_eq_some_iff.1 Kr.out).1)
      have Ufa2 := Lib.hid (show W0.heap.size < w1.heap.size from (Array.getElem?_eq_some_iff.1 Kf.out).1)
      refine (CB.out kk w1 SS.out.1 SS.out.2).mono ?_
      intro z w2 hc
      rcases hc with ⟨k2, a2, s2, hr, hkk, hp, hb, hz, hR⟩ | ⟨k2, e2, t2, hr, hp, hb, hz⟩
      rotate_left
      · subst hz
        have HN := Lib.hid (show Post RPrg G p 0 w (WrongIs (e2 : Int) t2) w2 from .no k2 e2 t2 (by rw [← HG.out]; simp only [hr, Res.bind_no]) hp (BB.out.trans hb) rfl)
        clear hr hp hb
        unfold WrongIs
        go_wp2_with fail
        exact ⟨rfl, HN.out⟩
      replace Kr := Lib.hid ((hb.block _ (Array.getElem?_eq_some_iff.1 Kr.out).1 Nr.out).trans Kr.out)
      replace Kf := Lib.hid ((hb.block _ (Array.getElem?_eq_some_iff.1 Kf.out).1 Nf.out).trans Kf.out)
      replace Fav := Lib.hid (Fav.out.but hb Gav.out Zav.out)
      replace Zav := Lib.hid (Nat.le_trans Zav.out hb.size)
      replace Yav := Lib.hid Yav.out
      obtain ⟨qa2, ca2⟩ := s2
      obtain rfl : z = .returned (.slice qa2 a2.length ca2) := hz
      have Fa2 := Lib.hid (show Fresh w1.heap.size w2.heap.size w2 (fun W N => a2.length ≤ ca2 ∧ RowIn N (Fnc.At W N) 5 a2 qa2) from hR)
      have Ga2 := Lib.hid SS.out.1.lt_pb
      have Za2 := Lib.hid (Nat.le_refl w2.heap.size)
      have Ya2 := Lib.hid (show w.heap.size ≤ w1.heap.size from BB.out.size)
      have R2 := Lib.hid hr
      replace SS := Lib.hid (And.intro hp hkk)
      replace BB := Lib.hid (BB.out.trans hb)
      clear hr hkk hp hb hR
      have u3 := cell_blk Kf.out (j := 1) rfl
      have v3 : w2.frozen? ⟨W0.heap.size, 1, none⟩ = false := by simp [World.frozen?, Kf.out]
      obtain ⟨E3, hE3⟩ : ∃ E, w2.setCell ⟨W0.heap.size, 1, none⟩ (.slice qa2 a2.length ca2) = E := ⟨_, rfl⟩
      have hEo : ∀ j, j ≠ W0.heap.size → E3.heap[j]? = w2.heap[j]? := fun j hj => by rw [← hE3]; exact Below.heap_setCell w2 _ _ _ hj
      have hEz : E3.heap.size = w2.heap.size := by rw [← hE3]; simp [World.setCell]
      have hEk : E3.heap[W0.heap.size]? = some (.cells #[.slice qav (zs.map Prod.fst).length cav, .slice qa2 a2.length ca2] 26 (0, 0)) := by rw [← hE3, setCell_eq_setRow _ _ _ _ 26 (0, 0) _ Kf.out]; exact setRow_heap _ _ _ _ 26 (0, 0) Kf.out
      replace Kr := Lib.hid ((hEo _ (Nat.ne_of_lt Vf.out)).trans Kr.out)
      replace Kf := Lib.hid hEk
      replace Fav := Lib.hid (Fav.out.to (Agr.at hEz hEo (by first | exact Or.inl Ufav.out | exact Or.inr Ufav.out) Zav.out))
      replace Zav := Lib.hid (Nat.le_trans Zav.out (Nat.le_of_eq hEz.symm))
      replace Fa2 := Lib.hid (Fa2.out.to (Agr.at hEz hEo (by first | exact Or.inl Ufa2.out | exact Or.inr Ufa2.out) Za2.out))
      replace Za2 := Lib.hid (Nat.le_trans Za2.out (Nat.le_of_eq hEz.symm))
      have hSo := SS.out.1.other (p := ⟨W0.heap.size, 1, none⟩) Nf.out Tf.out (.slice qa2 a2.length ca2)
      have hBo := BB.out.putNew (p := ⟨W0.heap.size, 1, none⟩) Mf.out (.slice qa2 a2.length ca2)
      rw [hE3] at hSo hBo
      replace SS := Lib.hid (And.intro hSo SS.out.2)
      replace BB := Lib.hid hBo
      clear hEo hEz hEk hSo hBo
      go_upto_region 5 with fail
      try rw [hE3]
      clear hE3 u3 v3
      have hrz := (Array.getElem?_eq_some_iff.1 Kr.out).1
      have HRz := Lib.hid hrz
      clear hrz
      go_wp2_with (first | (refine wpl_load rfl 26 _ rfl (W0.heap.size) 0 rfl #[.slice qav (zs.map Prod.fst).length cav, .slice qa2 a2.length ca2] _ (range_block Kf.out) Tryz.underlying26 rfl infoPr ?_) | (refine wpl_put rfl _ _ _ rfl rfl w.heap.size 0 (.agg #[.slice qav (zs.map Prod.fst).length cav, .slice qa2 a2.length ca2]) rfl rfl _ _ Kr.out (by exact Nat.le_of_ble_eq_true rfl) infoPr rfl ?_; intro wF hF hbF hzF))
      have hG : wF.heap[w.heap.size]? = some (.cells #[.slice qav (zs.map Prod.fst).length cav, .slice qa2 a2.length ca2] 26 (0, 0)) := hF.trans (congrArg (fun a => some (Obj.cells a 26 (0, 0))) (putA_all (cur := #[.slice none 0 0, .slice none 0 0]) (vs := #[.slice qav (zs.map Prod.fst).length cav, .slice qa2 a2.length ca2]) rfl))
      clear hF
      refine bodyPost_ret (v := .agg #[.slice qav (zs.map Prod.fst).length cav, .slice qa2 a2.length ca2]) ?_ rfl ?_
      · have y0 := cell_blk hG (j := 0) rfl
        have y1 := cell_blk hG (j := 1) rfl
        simp [results, Tryz.results36, go_sem, y0, y1]
      · refine .ok k2 ⟨zs.map Prod.fst, a2⟩ ((qav, cav), (qa2, ca2)) (by rw [← HG.out]; first | rfl | simp only [R2.out, Res.bind_ok] | trace_state) SS.out.2 (SS.out.1.aside hbF Nr.out Nr2.out) (BB.out.fin hbF (Nat.le_refl _)) rfl ?_
        intro W hW
        have oav := ((Fav.out.asd hbF (by first | exact Or.inl Vav.out | exact Or.inr Vav.out) Zav.out).fin Yav.out (Nat.le_trans Zav.out hbF.size) (fun W h => ⟨h.1, h.2.imp (Nat.le_trans Zav.out hbF.size) (fun x b o _ ha => ha)⟩)) W hW
        have oa2 := ((Fa2.out.asd hbF (by first | exact Or.inl Va2.out | exact Or.inr Va2.out) Za2.out).fin Ya2.out (Nat.le_trans Za2.out hbF.size) (fun W h => ⟨h.1, h.2.imp (Nat.le_trans Za2.out hbF.size) (fun x b o hb ha => Fnc.At.later (Below.refl _ W) (Nat.le_trans Za2.out hbF.size) x b o hb ha)⟩)) W hW
        exact ⟨oav.2, oa2.2⟩
end Go.Proofs.YtchbnkepmeelkaaGreatDoor
