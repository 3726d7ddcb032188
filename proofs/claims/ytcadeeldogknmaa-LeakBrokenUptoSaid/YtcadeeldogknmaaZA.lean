/- Deeds: none, lines alone, the same. -/
import Derived.Test.YtcadeeldogknmaaZ9
import Derived.StillTailTactics
namespace Go.Proofs.Ytcadeeldogknmaa
open Go.RowKit

theorem deed_none (n : Nat) : DeedOk n 8 43 := by
  intro xk xi xt xs t ls bl subs b bt ot bn on g base mp m st a v w hwt hi hn
  have HE := Lib.hid (show oneR st xk xi xt xs 8 t ls bl subs b m = some (.nil, m) from rfl)
  have HI := Lib.hid hi
  clear hn hi
  go_enter Try.func43, Try.ntmps43
  go_wp2_with fail
  go_ret
  rw [HE.out]
  exact ⟨v, rfl, by rw [Lf.cat_nil]; exact HI.out.o, HI.out.r, Ch.refl _ _ _, OwnTo.refl _ _⟩
set_option maxRecDepth 100000 in
set_option maxHeartbeats 3200000 in
theorem deed_lines (n : Nat) : DeedOk n 2 37 := by
  intro xk xi xt xs t ls bl subs b bt ot bn on g base mp m st a v w hwt hi hn
  obtain ⟨p, p', q, c, c', d, gi, sz, hbl, hT⟩ := hn.tfix hi.hb hi.row
  obtain ⟨p1, q1, c1, d1, hX⟩ := xfix_of hn.hx hn.hbn hi.hb hi.row
  have HI := Lib.hid hi
  have HT := Lib.hid hT
  have HX := Lib.hid hX
  have HN := Lib.hid hn
  have HWt := Lib.hid hwt
  clear hT hX hn hi hwt
  have HE := Lib.hid (show oneR st xk xi xt xs 2 t ls bl subs b m = layR st ls xi m from rfl)
  have hd := (Below.refl w.heap.size w).drew
  have HId := Lib.hid (HI.out.next (W' := 1 + xi.length + xs.wt) (HI.out.r.later hd HI.out.r.lt) (HI.out.o.keep (mono_lf a) (fun i _ hi => hd.block i hi) hd.size) (Ch.of v.ownBlock hd) (OwnTo.refl _ _) HI.out.hm HI.out.ha (Nat.le_refl _))
  have HL := Lib.hid (HId.out.lay (ls := ls) (is := xi) (p := p) (q := p1) (c := c) (d := c1) (by omega) (fun W hW => (HT.out W ((Ch.of v.ownBlock hd).trans hW (.inl rfl))).s2) (fun W hW => (HX.out W ((Ch.of v.ownBlock hd).trans hW (.inl rfl))).s1) HN.out.fine.1.1 HN.out.fine.1.2.2.1)
  have t2 := (HT.out w (Ch.refl _ _ _)).c2
  have t3 := (HT.out w (Ch.refl _ _ _)).c3
  have t4 := (HT.out w (Ch.refl _ _ _)).c4
  have x1 := (HX.out w (Ch.refl _ _ _)).c1
  go_enter Try.func37, Try.ntmps37
  go_wp2_with fail
  go_still_tail 10, (by kernel_rfl)
  change wpList _ _ _ _ _ (World.drew _)
  go_wp2_with fail
  refine HL.out.mono ?_
  rintro e w1 hE
  cases hR : layR st ls xi m with
  | none =>
    rw [hR] at hE HE
    obtain ⟨rfl, hC⟩ := hE
    refine ⟨rfl, ?_⟩
    rw [HE.out]
    exact ⟨rfl, (Ch.of v.ownBlock hd).trans hC (.inl rfl)⟩
  | some x =>
    obtain ⟨x, mm⟩ := x
    rw [hR] at hE HE
    obtain ⟨v', rfl, hO, hr, hC, hT⟩ := hE
    have HF := Lib.hid (And.intro hO (And.intro hr (And.intro ((Ch.of v.ownBlock hd).trans hC (.inl rfl)) hT)))
    clear hO hr hC hT HL t2 t3 t4 x1
    go_wp2_with fail
    go_ret
    rw [HE.out]
    exact ⟨v', rfl, HF.out.1, HF.out.2.1, HF.out.2.2.1, HF.out.2.2.2⟩
set_option maxRecDepth 100000 in
set_option maxHeartbeats 3200000 in
theorem deed_same (n : Nat) : DeedOk n 1 36 := by
  intro xk xi xt xs t ls bl subs b bt ot bn on g base mp m st a v w hwt hi hn
  obtain ⟨p, p', q, c, c', d, gi, sz, hbl, hT⟩ := hn.tfix hi.hb hi.row
  obtain ⟨p1, q1, c1, d1, hX⟩ := xfix_of hn.hx hn.hbn hi.hb hi.row
  have HI := Lib.hid hi
  have HT := Lib.hid hT
  have HX := Lib.hid hX
  have HN := Lib.hid hn
  have HWt := Lib.hid hwt
  clear hT hX hn hi hwt
  have HE := Lib.hid (show oneR st xk xi xt xs 1 t ls bl subs b m = some (.node xk xi xt xs .nil, m) from rfl)
  have x := HX.out w (Ch.refl _ _ _)
  have hbig : xi.length ≤ 1073741824 ∧ xs.wt ≤ 1073741824 ∧ a.len ≤ 2000000000000 := by
    have := HI.out.hW; have := HI.out.ha; have := cap6_le m; omega
  have HC := Lib.hid (copyNode_of (xs.wt + 1) (cpl_to _) xk xi xt xs (Nat.lt_succ_self _) hbig.2.1 hbig.1 p1 q1 c1 d1 bn on base w HI.out.hb HN.out.hbn x.c0 x.c1 x.s1 x.c2 x.c3 x.s3)
  clear x
  go_enter Try.func36, Try.ntmps36
  go_wp2_with fail
  refine HC.out.mono ?_
  rintro e w1 ⟨qa, da, qb, db, rfl, hB1, hN1⟩
  obtain ⟨qv, cv, w3, hrun, hO3, hgr, hot⟩ := app_lf (k := xk) (t := xt) (d1 := da) (d2 := db) HI.out.o HI.out.hb hB1 hN1 hbig.2.2 23
  have hBA : Below w.heap.size w (w1.alloc (.cells #[.int .i64 xk, .slice qa xi.length da, .bool xt, .slice qb xs.len db] 47 (0, 0))) := hB1.trans ((Below.refl _ w1).alloc hB1.size _)
  have HF := Lib.hid (show OutL w3 base (.slice qv (a.len + 1) cv) (a.cat (.node xk xi xt xs .nil)) ∧ RwS w3 g st mp m ∧ Ch g v.ownBlock w w3 ∧ OwnTo w v (.slice qv (a.len + 1) cv) from
    ⟨hO3, (HI.out.r.later hBA HI.out.r.lt).later ((Below.refl base _).grown hgr (Nat.le_trans HI.out.hb hBA.size) HI.out.row) HI.out.hg, (Ch.of v.ownBlock hBA).trans (Ch.grown hgr HI.out.ne) (.inl rfl), hot⟩)
  have HRn := Lib.hid hrun
  clear hrun hO3 hgr hot hBA hB1 hN1 HC hbig
  go_wp2_with (at_builtin; refine Lib.wpList_append_run _ rfl _ _ _ _ rfl _ _ rfl rfl _ _ HRn.out ?_)
  go_ret
  rw [HE.out]
  exact ⟨_, rfl, HF.out⟩
end Go.Proofs.Ytcadeeldogknmaa
