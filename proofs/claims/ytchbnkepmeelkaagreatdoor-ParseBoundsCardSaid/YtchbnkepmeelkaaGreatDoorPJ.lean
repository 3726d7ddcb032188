/- Rows until a token stands there. -/
import Derived.Test.YtchbnkepmeelkaaGreatDoorPH
namespace Go.Proofs.YtchbnkepmeelkaaGreatDoor
open Go.RowKit

theorem is_p (s : List UInt8) (p : Pp) (k d : Nat) (w : World) (h : Ps w p.pb p.tb p.tf p.tc p.ts k d) (hk : k < p.ts.length) :
    Calls Tryz.prog 87 #[.pointer (some ⟨p.pb, 0, none⟩), .string (str s)] w fun e w' => e = .returned (.bool (decide ((hdT (p.ts.drop k)).text = s))) ∧ Below w.heap.size w w' := by
  obtain ⟨t, ht⟩ := tok_at hk
  rw [drop_hd ht]
  exact is_any s p.pb p.tb p.tf p.tc k d p.ts t w h ht
theorem manyP_over {α : Type} {one : List Tok → Res α} {s : List UInt8} {f : Nat} {l : List Tok} (h : (hdT l).text = s) : manyP one s (f + 1) l = .ok [] l := by
  rw [manyP, if_pos h]
theorem manyP_more {α : Type} {one : List Tok → Res α} {s : List UInt8} {f : Nat} {l : List Tok} (h : (hdT l).text ≠ s) : manyP one s (f + 1) l = (one l).bind fun a r => (manyP one s f r).bind fun as' r => .ok (a :: as') r := by
  rw [manyP, if_neg h]

set_option maxRecDepth 100000 in
set_option maxHeartbeats 3200000 in
theorem ahead_stmts (n : Nat) (q : List UInt8) (p : Pp) (k d : Nat) (w : World) (h : Ps w p.pb p.tb p.tf p.tc p.ts k d) (hk : k < p.ts.length) (_hE : Ends p.ts) (hsm : p.ts.length ≤ 100000) (hX : StmtC p n d) (hsh : Shs (stmtP n)) :
    Calls Tryz.prog 104 #[.pointer (some ⟨p.pb, 0, none⟩), .string (str q), .func (.func 105) #[.pointer (some ⟨p.pb, 0, none⟩)] #[]] w (Post (RRow (fun W N => St.At W N) 16) (manyP (stmtP n) q ((p.ts.drop k).length + 1) (p.ts.drop k)) p d w) := by
  obtain ⟨i0, hi, hz0, hz1, hz2⟩ := info_parts info_st16
  have hpb := h.lt_pb
  have CO := Lib.hid (fun (k : Nat) (w : World) (h : Ps w p.pb p.tb p.tf p.tc p.ts k d) (hk : k < p.ts.length) => hX k w h hk)
  have CI := Lib.hid (fun (k : Nat) (w : World) (h : Ps w p.pb p.tb p.tf p.tc p.ts k d) (hk : k < p.ts.length) => is_p q p k d w h hk)
  have SS := Lib.hid (And.intro h hk)
  have PB := Lib.hid hpb
  have HS := Lib.hid hsh
  have HL := Lib.hid hsm
  have HTB := Lib.hid h.lt
  clear h hk _hE hpb hsm hsh
  generalize hG : manyP (stmtP n) q ((p.ts.drop k).length + 1) (p.ts.drop k) = G
  have HG := Lib.hid hG
  clear hG
  obtain ⟨qs, hqs⟩ : ∃ qs, str q = qs := ⟨_, rfl⟩
  rw [hqs] at CI ⊢
  clear hqs
  go_enter Tryz.func104, Tryz.ntmps104
  go_wp2_with fail
  go_loopw [7] (fun l wr => ∃ (zs : List (St × StP)) (k' f : Nat), Hid (zs.length ≤ k') ∧ Hid (k' < p.ts.length) ∧ Hid ((p.ts.drop k').length < f) ∧ Hid (wr.ownsRow w.heap.size 69 16 l zs.length (encs (fun (x : St) (s : StP) => [.int .i64 x.kind, .string (str x.name), .slice s.pn x.names.length s.cn, .int .i64 x.e.op, .int .u64 (x.e.word : Int), .string (str x.e.name), .slice s.pe x.e.args.len s.ce, .int .i64 x.a.op, .int .u64 (x.a.word : Int), .string (str x.a.name), .slice s.pa x.a.args.len s.ca, .slice s.pg x.args.len s.cg, .int .u64 (x.low : Int), .int .u64 (x.high : Int), .slice s.pb x.body.len s.cb, .slice s.pl x.els.len s.cl]) zs)) ∧ Hid (Els w.heap.size wr l.ownBlock (fun W N x s => x.Ok W N s) zs) ∧ Hid (Ps wr p.pb p.tb p.tf p.tc p.ts k' d) ∧ Hid (But p.pb w wr) ∧ Hid (G = (manyP (stmtP n) q f (p.ts.drop k')).bind fun as' r => .ok (zs.map Prod.fst ++ as') r)) (fun _ wr => p.ts.length - atOf wr p.pb)
  case atStart =>
    refine ⟨[], k, (p.ts.drop k).length + 1, Lib.hid (Nat.zero_le _), Lib.hid SS.out.2, Lib.hid (Nat.lt_succ_self _), Lib.hid (World.ownsRow_nil _ _ _ _), Lib.hid (Els.nil _ _ _ _), Lib.hid SS.out.1, Lib.hid (But.refl _ _), Lib.hid ?_⟩
    rw [← HG.out]
    cases manyP (stmtP n) q ((p.ts.drop k).length + 1) (p.ts.drop k) <;> rfl
  case round =>
    obtain ⟨zs, k', f, hzk, hk', hf, hown, hels, hP, hB, hGr⟩ := hrel
    obtain ⟨g, rfl⟩ : ∃ g, f = g + 1 := ⟨f - 1, by have := hf.out; omega⟩
    have HI := Lib.hid (CI.out k' wr hP.out hk'.out)
    by_cases ht : (hdT (p.ts.drop k')).text = q
    · rw [decide_eq_true ht] at HI
      have HGy := Lib.hid (hGr.out.trans (by rw [manyP_over ht, Res.bind_ok]))
      clear ht
      go_wp2_with fail
      refine HI.out.mono ?_
      rintro z w2 ⟨rfl, hb⟩
      obtain ⟨s, hv, hfr⟩ := row_fresh (A := (fun W N => St.At W N)) (k := 16) (OK := fun W N (x : St) (s : StP) => x.Ok W N s) (enc := fun (x : St) (s : StP) => [.int .i64 x.kind, .string (str x.name), .slice s.pn x.names.length s.cn, .int .i64 x.e.op, .int .u64 (x.e.word : Int), .string (str x.e.name), .slice s.pe x.e.args.len s.ce, .int .i64 x.a.op, .int .u64 (x.a.word : Int), .string (str x.a.name), .slice s.pa x.a.args.len s.ca, .slice s.pg x.args.len s.cg, .int .u64 (x.low : Int), .int .u64 (x.high : Int), .slice s.pb x.body.len s.cb, .slice s.pl x.els.len s.cl]) (fun _ _ => rfl) (fun W N x s b o hok hc => St.At.of (s := s) (fun j v hv => hc j v (by rw [← Array.getElem?_toList] at hv; exact hv)) hok) (fun W N M x s hok hM => hok.up hM) (own_bel hown.out hb) (hels.out.bel hb) (by have h1 := hzk.out; have h2 := hk'.out; have h3 := HL.out; omega)
      have HQ := Lib.hid (And.intro hv (And.intro hfr (And.intro (hP.out.later hb) (hB.out.trans (But.of_below hb)))))
      clear hb hv hfr
      go_wp2_with fail
      go_ret
      exact .ok k' (zs.map Prod.fst) s (HGy.out.trans (by rw [List.append_nil])) hk'.out HQ.out.2.2.1 HQ.out.2.2.2 (congrArg Ending.returned HQ.out.1) HQ.out.2.1
    · rw [decide_eq_false ht] at HI
      have HGy := Lib.hid (hGr.out.trans (by rw [manyP_more ht]))
      clear ht
      go_wp2_with fail
      refine HI.out.mono ?_
      rintro z w2 ⟨rfl, hb⟩
      have HO2 := Lib.hid (own_bel hown.out hb)
      have HE2 := Lib.hid (hels.out.bel hb)
      have HB2 := Lib.hid (hB.out.trans (But.of_below hb))
      have HP2 := Lib.hid (hP.out.later hb)
      clear hb
      go_wp2_with fail
      refine (CO.out k' w2 HP2.out hk'.out).mono ?_
      intro z w3 hc
      rcases hc with ⟨k3, a3, s3, hr, hkk, hp, hb, hz, hR⟩ | ⟨k3, e3, t3, hr, hp, hb, hz⟩
      rotate_left
      · subst hz
        have HN := Lib.hid (show Post (RRow (fun W N => St.At W N) 16) G p d w (WrongIs (e3 : Int) t3) w3 from .no k3 e3 t3 (by rw [HGy.out, hr]; rfl) hp (HB2.out.trans hb) rfl)
        clear hr hp hb
        unfold WrongIs
        go_wp2_with fail
        exact ⟨rfl, HN.out⟩
      obtain ⟨pnz, pez, paz, pgz, pbz, plz, cnz, cez, caz, cgz, cbz, clz⟩ := s3
      obtain rfl : z = .returned (.agg #[.int .i64 a3.kind, .string (str a3.name), .slice pnz a3.names.length cnz, .int .i64 a3.e.op, .int .u64 (a3.e.word : Int), .string (str a3.e.name), .slice pez a3.e.args.len cez, .int .i64 a3.a.op, .int .u64 (a3.a.word : Int), .string (str a3.a.name), .slice paz a3.a.args.len caz, .slice pgz a3.args.len cgz, .int .u64 (a3.low : Int), .int .u64 (a3.high : Int), .slice pbz a3.body.len cbz, .slice plz a3.els.len clz]) := hz
      have hbw := PB.out
      have HF3 := Lib.hid (show Fresh w2.heap.size w3.heap.size w3 (fun W N => a3.Ok W N (⟨pnz, pez, paz, pgz, pbz, plz, cnz, cez, caz, cgz, cbz, clz⟩ : StP)) from hR)
      have HO3 := Lib.hid (own_but HO2.out hb hbw)
      have HE3 := Lib.hid (HE2.out.but hb hbw)
      have HB3 := Lib.hid (HB2.out.trans hb)
      have HK3 := Lib.hid (show k' + 1 ≤ k3 by
        have h1 := HS.out _ _ _ hr
        rw [List.length_drop, List.length_drop] at h1
        omega)
      have HGz := Lib.hid (show G = (manyP (stmtP n) q g (p.ts.drop k3)).bind fun as' r => .ok ((zs ++ [(a3, (⟨pnz, pez, paz, pgz, pbz, plz, cnz, cez, caz, cgz, cbz, clz⟩ : StP))]).map Prod.fst ++ as') r by
        rw [HGy.out, hr, map_fst_snoc, Res.bind_ok, Res.bind_assoc]
        simp only [Res.bind_ok, List.append_assoc, List.singleton_append])
      have HP3 := Lib.hid (And.intro hp hkk)
      have HU3 := Lib.hid (show ∀ j, u7.ownBlock = some j → j < w2.heap.size from fun j hj => (HO2.out.lt j hj).2)
      clear hr hkk hp hb hR hbw
      obtain ⟨A3, hA3⟩ : ∃ A, w3.alloc (.cells #[.int .i64 a3.kind, .string (str a3.name), .slice pnz a3.names.length cnz, .int .i64 a3.e.op, .int .u64 (a3.e.word : Int), .string (str a3.e.name), .slice pez a3.e.args.len cez, .int .i64 a3.a.op, .int .u64 (a3.a.word : Int), .string (str a3.a.name), .slice paz a3.a.args.len caz, .slice pgz a3.args.len cgz, .int .u64 (a3.low : Int), .int .u64 (a3.high : Int), .slice pbz a3.body.len cbz, .slice plz a3.els.len clz] 69) = A := ⟨_, rfl⟩
      have hBA : Below w3.heap.size w3 A3 := by rw [← hA3]; exact (Below.refl _ _).alloc (Nat.le_refl _) _
      have hcA : A3.heap[w3.heap.size]? = some (.cells #[.int .i64 a3.kind, .string (str a3.name), .slice pnz a3.names.length cnz, .int .i64 a3.e.op, .int .u64 (a3.e.word : Int), .string (str a3.e.name), .slice pez a3.e.args.len cez, .int .i64 a3.a.op, .int .u64 (a3.a.word : Int), .string (str a3.a.name), .slice paz a3.a.args.len caz, .slice pgz a3.args.len cgz, .int .u64 (a3.low : Int), .int .u64 (a3.high : Int), .slice pbz a3.body.len cbz, .slice plz a3.els.len clz] 69 (0, 0)) := by rw [← hA3]; exact heap_alloc_new w3 _
      have HOA := Lib.hid (own_bel HO3.out hBA)
      have HEA := Lib.hid ((HE3.out.bel hBA).push (z := (a3, (⟨pnz, pez, paz, pgz, pbz, plz, cnz, cez, caz, cgz, cbz, clz⟩ : StP))) (HF3.out.bel hBA (Nat.le_refl _)) HB2.out.size hBA.size (fun j hj => .inl (HU3.out j hj)))
      have HPA3 := Lib.hid (HP3.out.1.later hBA)
      have HBA3 := Lib.hid (HB3.out.trans (But.of_below hBA))
      have HCA := Lib.hid hcA
      have HA3 := Lib.hid hA3
      have hbase : w.heap.size ≤ A3.heap.size := HBA3.out.size
      have hln : zs.length + 1 ≤ 100001 := by have h1 := hzk.out; have h2 := hk'.out; have h3 := HL.out; omega
      clear hBA hcA hA3
      go_wp2_with (at_builtin; (try rw [HA3.out]); refine wpList_append_own_at _ rfl _ _ 43 rfl w.heap.size 69 i0 (.agg #[.int .i64 0, .string ByteArray.empty, .slice none 0 0, .int .i64 0, .int .u64 0, .string ByteArray.empty, .slice none 0 0, .int .i64 0, .int .u64 0, .string ByteArray.empty, .slice none 0 0, .slice none 0 0, .int .u64 0, .int .u64 0, .slice none 0 0, .slice none 0 0]) 16 248 Tryz.underlying43 hi hz0 hz1 hz2 rfl (by decide) _ _ _ rfl HOA.out ⟨w3.heap.size, 0, none⟩ 1 1 [.int .i64 a3.kind, .string (str a3.name), .slice pnz a3.names.length cnz, .int .i64 a3.e.op, .int .u64 (a3.e.word : Int), .string (str a3.e.name), .slice pez a3.e.args.len cez, .int .i64 a3.a.op, .int .u64 (a3.a.word : Int), .string (str a3.a.name), .slice paz a3.a.args.len caz, .slice pgz a3.args.len cgz, .int .u64 (a3.low : Int), .int .u64 (a3.high : Int), .slice pbz a3.body.len cbz, .slice plz a3.els.len clz] rfl rfl ?c1 ?c2 ?c3 ?c4 hbase ?_)
      case c1 =>
        intro j u hj
        have := cell_blk HCA.out (j := j) (v := u) (by rw [← Array.getElem?_toList]; exact hj)
        rw [add_of, Nat.zero_add]
        exact this
      case c2 =>
        intro u hu
        simp only [List.mem_cons, List.not_mem_nil, or_false] at hu
        rcases hu with rfl | rfl | rfl | rfl | rfl | rfl | rfl | rfl | rfl | rfl | rfl | rfl | rfl | rfl | rfl | rfl <;> rfl
      case c3 => unfold maxLen; omega
      case c4 => omega
      intro v' w4 hown4 hgrow _ hat
      have HO4 := Lib.hid (show w4.ownsRow w.heap.size 69 16 v' (zs ++ [(a3, (⟨pnz, pez, paz, pgz, pbz, plz, cnz, cez, caz, cgz, cbz, clz⟩ : StP))]).length (encs (fun (x : St) (s : StP) => [.int .i64 x.kind, .string (str x.name), .slice s.pn x.names.length s.cn, .int .i64 x.e.op, .int .u64 (x.e.word : Int), .string (str x.e.name), .slice s.pe x.e.args.len s.ce, .int .i64 x.a.op, .int .u64 (x.a.word : Int), .string (str x.a.name), .slice s.pa x.a.args.len s.ca, .slice s.pg x.args.len s.cg, .int .u64 (x.low : Int), .int .u64 (x.high : Int), .slice s.pb x.body.len s.cb, .slice s.pl x.els.len s.cl]) (zs ++ [(a3, (⟨pnz, pez, paz, pgz, pbz, plz, cnz, cez, caz, cgz, cbz, clz⟩ : StP))])) by rw [List.length_append, encs_app]; exact hown4)
      have HE4 := Lib.hid (HEA.out.grown hgrow hat)
      have HB4 := Lib.hid (HBA3.out.grown hgrow (fun j hj => (HOA.out.lt j hj).1))
      have HP4 := Lib.hid (HPA3.out.grown hgrow (fun e => by have h1 := (HOA.out.lt _ e).1; have h2 := PB.out; omega) (fun e => by have h1 := (HOA.out.lt _ e).1; have h2 := HTB.out; omega))
      clear hown4 hgrow hat
      go_wp2_with fail
      go_roundw
      case rel =>
        refine ⟨zs ++ [(a3, (⟨pnz, pez, paz, pgz, pbz, plz, cnz, cez, caz, cgz, cbz, clz⟩ : StP))], k3, g, Lib.hid ?_, Lib.hid HP3.out.2, Lib.hid ?_, HO4, HE4, HP4, HB4, HGz⟩
        · have h1 := hzk.out; have h2 := HK3.out; rw [List.length_append, List.length_singleton]; omega
        · have h1 := hf.out; have h2 := HK3.out; have h3 := hk'.out; rw [List.length_drop] at h1 ⊢; omega
      case measure =>
        have h1 := HP4.out.atOf
        have h2 := hP.out.atOf
        have h3 := HK3.out
        have h4 := HP3.out.2
        rw [h1, h2]
        omega
end Go.Proofs.YtchbnkepmeelkaaGreatDoor
