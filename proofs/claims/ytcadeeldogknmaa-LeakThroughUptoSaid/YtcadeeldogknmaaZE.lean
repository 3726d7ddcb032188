/- Deeds: one way of a branch. -/
import Derived.Test.YtcadeeldogknmaaZD
import Derived.Test.YtcadeeldogknmaaVL
import Derived.Test.YtcadeeldogknmaaVK
namespace Go.Proofs.Ytcadeeldogknmaa
open Go.RowKit

set_option maxRecDepth 100000 in
set_option maxHeartbeats 3200000 in
theorem deed_way (n : Nat) (hRL : RL n) : DeedOk n 4 39 := by
  intro xk xi xt xs t ls bl subs b bt ot bn on g base mp m st a v w hwt hi hn
  obtain ⟨p, p', q, c, c', d, gi, sz, hbl, hT⟩ := hn.tfix hi.hb hi.row
  obtain ⟨p1, q1, c1, d1, hX⟩ := xfix_of hn.hx hn.hbn hi.hb hi.row
  have x0 := (hX w (Ch.refl _ _ _)).c0
  have x2 := (hX w (Ch.refl _ _ _)).c2
  have t1 := (hT w (Ch.refl _ _ _)).c1
  by_cases hk : xk = 2
  · subst hk
    by_cases ht : xt = t
    · subst ht
      obtain ⟨l, rfl, hsh, _⟩ := hn.one (.inl rfl)
      obtain ⟨sa, rfl, hfa⟩ := Rs.one (hn.fine.1.2.2.2.2.2.2.2 (.inl rfl)) hn.fine.2.1
      obtain ⟨b1, o1, pa, ca, rfl, hA⟩ := first_rs (fun W hW => (hT W hW).s8) hi.hb hi.row
      obtain ⟨b2, o2, pl, cl, rfl, hF⟩ := first_ls (fun W hW => (hX W hW).s3) hi.hb hi.row
      have hwl : l.wt < n := by have := hwt; simp only [Ls.wt] at this; omega
      have HS := Lib.hid (And.intro hn.fine.1.1 (And.intro hn.fine.1.2.2.1 (And.intro hfa (And.intro hsh hwl))))
      have HE := Lib.hid (show oneR st 2 xi xt (.sub l .nil) 4 xt ls bl (.sub sa .nil) b m = then2 (layR st ls xi m) (fun m => Ls.goFirst st (.sub l .nil) sa b m) by simp [oneR, Rs.first])
      have HI := Lib.hid (show RwIn g base mp m st a v (1 + xi.length + (1 + l.wt)) w from hi.next hi.r hi.o (Ch.refl _ _ _) (OwnTo.refl _ _) (by have := hi.hm; simp only [Ls.wt] at this; omega) (by have := hi.ha; simp only [Ls.wt] at this; omega) (by simp only [Ls.wt]; omega))
      have HT := Lib.hid hT
      have HX := Lib.hid hX
      have HA := Lib.hid hA
      have HF := Lib.hid hF
      obtain ⟨wd, hwd⟩ : ∃ wd, w.drew = wd := ⟨_, rfl⟩
      have hd0 : Below w.heap.size w wd := by rw [← hwd]; exact (Below.refl w.heap.size w).drew
      have Hwd := Lib.hid hwd
      have hd := hd0.drew
      have HCd := Lib.hid (Ch.of (g := g) v.ownBlock hd)
      have HL := Lib.hid ((HI.out.later hd).lay (ls := ls) (is := xi) (p := p) (q := p1) (c := c) (d := c1) (by omega) (fun W hW => (HT.out W (HCd.out.trans hW (.inl rfl))).s2) (fun W hW => (HX.out W (HCd.out.trans hW (.inl rfl))).s1) HS.out.1 HS.out.2.1)
      have t2 := (hT wd (Ch.of v.ownBlock hd0)).c2
      have t3 := (hT wd (Ch.of v.ownBlock hd0)).c3
      have t4 := (hT wd (Ch.of v.ownBlock hd0)).c4
      have x1 := (hX wd (Ch.of v.ownBlock hd0)).c1
      clear hT hX hA hF hn hi hd hd0 hwd hbl hwt hwl hfa hsh
      go_enter Try.func39, Try.ntmps39
      go_wp2_with fail
      refine wp_region_held_drew (S := (fun W => W.cell? ⟨bn, on, none⟩ = some (.int .i64 2) ∧ W.cell? ⟨bn, on + 2, none⟩ = some (.bool xt) ∧ W.cell? ⟨bt, ot + 1, none⟩ = some (.bool xt))) (by kernel_rfl) ?_ (fun hHeld => ?_)
      · exact ⟨x0, x2, t1⟩
      refine tk 0 ?_ rfl (.inl ⟨by rfl, ?_⟩) ?_
      rotate_left
      · (intro w hSw; (try dsimp only at hSw); go_simp; try with_reducible rfl)
      try simp only [Act.put, List.setIfInBounds_toArray, List.set_cons_zero, List.set_cons_succ]
      refine tk 1 ?_ rfl (.inl ⟨by rfl, ?_⟩) ?_
      rotate_left
      · (intro w hSw; (try dsimp only at hSw); go_simp; try with_reducible rfl)
      try simp only [Act.put, List.setIfInBounds_toArray, List.set_cons_zero, List.set_cons_succ]
      refine tk 2 ?_ rfl (.inl ⟨by rfl, ?_⟩) ?_
      rotate_left
      · (intro w hSw; (try dsimp only at hSw); go_simp; try with_reducible rfl)
      try simp only [Act.put, List.setIfInBounds_toArray, List.set_cons_zero, List.set_cons_succ]
      refine tk 3 ?_ rfl (.inl ⟨by rfl, ?_⟩) ?_
      rotate_left
      · (intro w hSw; (try dsimp only at hSw); go_simp; try with_reducible rfl)
      try simp only [Act.put, List.setIfInBounds_toArray, List.set_cons_zero, List.set_cons_succ]
      refine tk 4 ?_ rfl (.inl ⟨by rfl, ?_⟩) ?_
      rotate_left
      · (intro w hSw; (try dsimp only at hSw); go_simp; try with_reducible rfl)
      try simp only [Act.put, List.setIfInBounds_toArray, List.set_cons_zero, List.set_cons_succ]
      refine tk 5 ?_ rfl (.inl ⟨by rfl, ?_⟩) ?_
      rotate_left
      · (intro w hSw; (try dsimp only at hSw); go_simp; try with_reducible rfl)
      try simp only [Act.put, List.setIfInBounds_toArray, List.set_cons_zero, List.set_cons_succ]
      refine tk 6 ?_ rfl (.inl ⟨by rfl, ?_⟩) ?_
      rotate_left
      · (intro w hSw; (try dsimp only at hSw); go_simp; try with_reducible rfl)
      try simp only [Act.put, List.setIfInBounds_toArray, List.set_cons_zero, List.set_cons_succ]
      refine tk 7 ?_ rfl (.inl ⟨by rfl, ?_⟩) ?_
      rotate_left
      · (intro w hSw; (try dsimp only at hSw); go_simp; try with_reducible rfl)
      try simp only [Act.put, List.setIfInBounds_toArray, List.set_cons_zero, List.set_cons_succ]
      refine tk 8 ?_ rfl (.inl ⟨by rfl, ?_⟩) ?_
      rotate_left
      · (intro w hSw; (try dsimp only at hSw); go_simp; try with_reducible rfl)
      try simp only [Act.put, List.setIfInBounds_toArray, List.set_cons_zero, List.set_cons_succ]
      refine tk 9 ?_ rfl (.inl ⟨by rfl, ?_⟩) ?_
      rotate_left
      · (intro w hSw; (try dsimp only at hSw); go_simp; try with_reducible rfl)
      try simp only [Act.put, List.setIfInBounds_toArray, List.set_cons_zero, List.set_cons_succ]
      refine tk 10 ?_ rfl (.inl ⟨by rfl, ?_⟩) ?_
      rotate_left
      · (intro w hSw; (try dsimp only at hSw); go_simp; try with_reducible rfl)
      try simp only [Act.put, List.setIfInBounds_toArray, List.set_cons_zero, List.set_cons_succ]
      refine tk 11 ?_ rfl (.inl ⟨by rfl, ?_⟩) ?_
      rotate_left
      · (intro w hSw; (try dsimp only at hSw); go_simp; try with_reducible rfl)
      try simp only [Act.put, List.setIfInBounds_toArray, List.set_cons_zero, List.set_cons_succ]
      refine tk 12 ?_ rfl (.inl ⟨by rfl, ?_⟩) ?_
      rotate_left
      · (intro w hSw; (try dsimp only at hSw); go_simp; try with_reducible rfl)
      try simp only [Act.put, List.setIfInBounds_toArray, List.set_cons_zero, List.set_cons_succ]
      refine tk 13 ?_ rfl (.inl ⟨by rfl, ?_⟩) ?_
      rotate_left
      · (intro w hSw; (try dsimp only at hSw); go_simp; try with_reducible rfl)
      try simp only [Act.put, List.setIfInBounds_toArray, List.set_cons_zero, List.set_cons_succ]
      refine tk 14 ?_ rfl (.inl ⟨by rfl, ?_⟩) ?_
      rotate_left
      · (intro w hSw; (try dsimp only at hSw); go_simp; try with_reducible rfl)
      try simp only [Act.put, List.setIfInBounds_toArray, List.set_cons_zero, List.set_cons_succ]
      refine tk 15 ?_ rfl (.inl ⟨by rfl, ?_⟩) ?_
      rotate_left
      · (intro w hSw; (try dsimp only at hSw); go_simp; try with_reducible rfl)
      try simp only [Act.put, List.setIfInBounds_toArray, List.set_cons_zero, List.set_cons_succ]
      refine wpAnyH_ready (rs := [16]) (by kernel_rfl) (by simp) ?_
      refine rdy rfl (fun K hK => ?_) AllReadyH.nil
      go_simp
      refine (must_true _).mono ?_
      rintro e w1 ⟨rfl, rfl⟩
      refine hK.out _ _ ?_ (fun hHeld => ?_)
      · exact hHeld
      clear hK K
      try simp only [Act.put, List.setIfInBounds_toArray, List.set_cons_zero, List.set_cons_succ]
      refine wpAnyH_done (by kernel_rfl) ?_ _
      rw [Hwd.out]
      go_wp2_with fail
      go_still_tail 10, (by kernel_rfl)
      change wpList _ _ _ _ _ (World.drew _)
      go_wp2_with fail
      refine HL.out.mono ?_
      rintro e w1 hE
      rcases (hE.later HCd.out).steps with ⟨rfl, hR, hC⟩ | ⟨q2, n2, c2, y, m1, rfl, hR, hO, hr, hC, hT1⟩
      · refine ⟨rfl, ?_⟩
        rw [HE.out, then2_none hR]
        exact ⟨rfl, hC.out⟩
      · have hI1 : RwIn g base mp m1 st (a.cat y) (.slice q2 n2 c2) l.wt w1 := HI.out.after (lay_bnd1 HS.out.2.1) hR.out (by omega) hO.out hr.out hC.out hT1.out
        have hd1 := (Below.refl w1.heap.size w1).drew
        have HK := Lib.hid (hRL l HS.out.2.2.2.2 sa pa pl ca cl b g base mp m1 st (a.cat y) (.slice q2 n2 c2) w1.drew (hI1.later hd1) (fun W hW => (HA.out W (hC.out.trans ((Ch.of _ hd1).trans hW (.inl rfl)) hT1.out)).2) (fun W hW => (HF.out W (hC.out.trans ((Ch.of _ hd1).trans hW (.inl rfl)) hT1.out)).2) HS.out.2.2.1 HS.out.2.2.2.1)
        have HC1 := Lib.hid (Ch.of (g := g) (Value.slice q2 n2 c2).ownBlock hd1)
        have t8 : w1.cell? ⟨bt, ot + 8, none⟩ = some (.slice (some ⟨b1, o1, none⟩) 1 d) := (HT.out w1 hC.out).c8
        have x3 : w1.cell? ⟨bn, on + 3, none⟩ = some (.slice (some ⟨b2, o2, none⟩) 1 d1) := (HX.out w1 hC.out).c3
        have a0 := (HA.out w1 hC.out).1
        have f0 := (HF.out w1 hC.out).1
        clear hE HL t2 t3 t4 x0 x1 x2 t1 hI1 hd1
        go_wp2_with fail
        go_still_tail 15, (by kernel_rfl)
        change wpList _ _ _ _ _ (World.drew _)
        go_wp2_with fail
        refine HK.out.mono ?_
        rintro e w2 hE2
        rcases (((hE2.later HC1.out).then2 (f := fun m => Ls.goFirst st (.sub l .nil) sa b m) hR.out hC.out hT1.out)).split with ⟨v', rfl, HG⟩ | ⟨rfl, HG⟩
        · clear hE2 HK t8 x3 a0 f0
          go_wp2_with fail
          go_ret
          rw [HE.out]
          exact HG.out
        · refine ⟨rfl, ?_⟩
          rw [HE.out]
          exact HG.out
    · clear hi hn hX hT hbl hwt
      cases xt with
      | true =>
        obtain rfl : t = false := by simpa using ht
        have HE := Lib.hid (show oneR st 2 xi true xs 4 false ls bl subs b m = none by simp [oneR])
        clear ht
        go_enter Try.func39, Try.ntmps39
        go_wp2_with fail
        refine wp_region_held_drew (S := (fun W => W.cell? ⟨bn, on, none⟩ = some (.int .i64 2) ∧ W.cell? ⟨bn, on + 2, none⟩ = some (.bool true) ∧ W.cell? ⟨bt, ot + 1, none⟩ = some (.bool false))) (by kernel_rfl) ?_ (fun hHeld => ?_)
        · exact ⟨x0, x2, t1⟩
        refine tk 0 ?_ rfl (.inl ⟨by rfl, ?_⟩) ?_
        rotate_left
        · (intro w hSw; (try dsimp only at hSw); go_simp; try with_reducible rfl)
        try simp only [Act.put, List.setIfInBounds_toArray, List.set_cons_zero, List.set_cons_succ]
        refine tk 1 ?_ rfl (.inl ⟨by rfl, ?_⟩) ?_
        rotate_left
        · (intro w hSw; (try dsimp only at hSw); go_simp; try with_reducible rfl)
        try simp only [Act.put, List.setIfInBounds_toArray, List.set_cons_zero, List.set_cons_succ]
        refine tk 2 ?_ rfl (.inl ⟨by rfl, ?_⟩) ?_
        rotate_left
        · (intro w hSw; (try dsimp only at hSw); go_simp; try with_reducible rfl)
        try simp only [Act.put, List.setIfInBounds_toArray, List.set_cons_zero, List.set_cons_succ]
        refine tk 3 ?_ rfl (.inl ⟨by rfl, ?_⟩) ?_
        rotate_left
        · (intro w hSw; (try dsimp only at hSw); go_simp; try with_reducible rfl)
        try simp only [Act.put, List.setIfInBounds_toArray, List.set_cons_zero, List.set_cons_succ]
        refine tk 4 ?_ rfl (.inl ⟨by rfl, ?_⟩) ?_
        rotate_left
        · (intro w hSw; (try dsimp only at hSw); go_simp; try with_reducible rfl)
        try simp only [Act.put, List.setIfInBounds_toArray, List.set_cons_zero, List.set_cons_succ]
        refine tk 5 ?_ rfl (.inl ⟨by rfl, ?_⟩) ?_
        rotate_left
        · (intro w hSw; (try dsimp only at hSw); go_simp; try with_reducible rfl)
        try simp only [Act.put, List.setIfInBounds_toArray, List.set_cons_zero, List.set_cons_succ]
        refine tk 6 ?_ rfl (.inl ⟨by rfl, ?_⟩) ?_
        rotate_left
        · (intro w hSw; (try dsimp only at hSw); go_simp; try with_reducible rfl)
        try simp only [Act.put, List.setIfInBounds_toArray, List.set_cons_zero, List.set_cons_succ]
        refine tk 7 ?_ rfl (.inl ⟨by rfl, ?_⟩) ?_
        rotate_left
        · (intro w hSw; (try dsimp only at hSw); go_simp; try with_reducible rfl)
        try simp only [Act.put, List.setIfInBounds_toArray, List.set_cons_zero, List.set_cons_succ]
        refine tk 8 ?_ rfl (.inl ⟨by rfl, ?_⟩) ?_
        rotate_left
        · (intro w hSw; (try dsimp only at hSw); go_simp; try with_reducible rfl)
        try simp only [Act.put, List.setIfInBounds_toArray, List.set_cons_zero, List.set_cons_succ]
        refine tk 9 ?_ rfl (.inl ⟨by rfl, ?_⟩) ?_
        rotate_left
        · (intro w hSw; (try dsimp only at hSw); go_simp; try with_reducible rfl)
        try simp only [Act.put, List.setIfInBounds_toArray, List.set_cons_zero, List.set_cons_succ]
        refine tk 10 ?_ rfl (.inl ⟨by rfl, ?_⟩) ?_
        rotate_left
        · (intro w hSw; (try dsimp only at hSw); go_simp; try with_reducible rfl)
        try simp only [Act.put, List.setIfInBounds_toArray, List.set_cons_zero, List.set_cons_succ]
        refine tk 11 ?_ rfl (.inl ⟨by rfl, ?_⟩) ?_
        rotate_left
        · (intro w hSw; (try dsimp only at hSw); go_simp; try with_reducible rfl)
        try simp only [Act.put, List.setIfInBounds_toArray, List.set_cons_zero, List.set_cons_succ]
        refine tk 12 ?_ rfl (.inl ⟨by rfl, ?_⟩) ?_
        rotate_left
        · (intro w hSw; (try dsimp only at hSw); go_simp; try with_reducible rfl)
        try simp only [Act.put, List.setIfInBounds_toArray, List.set_cons_zero, List.set_cons_succ]
        refine tk 13 ?_ rfl (.inl ⟨by rfl, ?_⟩) ?_
        rotate_left
        · (intro w hSw; (try dsimp only at hSw); go_simp; try with_reducible rfl)
        try simp only [Act.put, List.setIfInBounds_toArray, List.set_cons_zero, List.set_cons_succ]
        refine tk 14 ?_ rfl (.inl ⟨by rfl, ?_⟩) ?_
        rotate_left
        · (intro w hSw; (try dsimp only at hSw); go_simp; try with_reducible rfl)
        try simp only [Act.put, List.setIfInBounds_toArray, List.set_cons_zero, List.set_cons_succ]
        refine tk 15 ?_ rfl (.inl ⟨by rfl, ?_⟩) ?_
        rotate_left
        · (intro w hSw; (try dsimp only at hSw); go_simp; try with_reducible rfl)
        try simp only [Act.put, List.setIfInBounds_toArray, List.set_cons_zero, List.set_cons_succ]
        refine wpAnyH_ready (rs := [16]) (by kernel_rfl) (by simp) ?_
        refine rdy rfl (fun K hK => ?_) AllReadyH.nil
        go_simp
        refine (must_false _).mono ?_
        rintro e w1 ⟨rfl, rfl⟩
        refine ⟨rfl, ?_⟩
        rw [HE.out]
        exact ⟨rfl, Ch.of v.ownBlock (Below.refl w.heap.size w).drew⟩
      | false =>
        obtain rfl : t = true := by simpa using ht
        have HE := Lib.hid (show oneR st 2 xi false xs 4 true ls bl subs b m = none by simp [oneR])
        clear ht
        go_enter Try.func39, Try.ntmps39
        go_wp2_with fail
        refine wp_region_held_drew (S := (fun W => W.cell? ⟨bn, on, none⟩ = some (.int .i64 2) ∧ W.cell? ⟨bn, on + 2, none⟩ = some (.bool false) ∧ W.cell? ⟨bt, ot + 1, none⟩ = some (.bool true))) (by kernel_rfl) ?_ (fun hHeld => ?_)
        · exact ⟨x0, x2, t1⟩
        refine tk 0 ?_ rfl (.inl ⟨by rfl, ?_⟩) ?_
        rotate_left
        · (intro w hSw; (try dsimp only at hSw); go_simp; try with_reducible rfl)
        try simp only [Act.put, List.setIfInBounds_toArray, List.set_cons_zero, List.set_cons_succ]
        refine tk 1 ?_ rfl (.inl ⟨by rfl, ?_⟩) ?_
        rotate_left
        · (intro w hSw; (try dsimp only at hSw); go_simp; try with_reducible rfl)
        try simp only [Act.put, List.setIfInBounds_toArray, List.set_cons_zero, List.set_cons_succ]
        refine tk 2 ?_ rfl (.inl ⟨by rfl, ?_⟩) ?_
        rotate_left
        · (intro w hSw; (try dsimp only at hSw); go_simp; try with_reducible rfl)
        try simp only [Act.put, List.setIfInBounds_toArray, List.set_cons_zero, List.set_cons_succ]
        refine tk 3 ?_ rfl (.inl ⟨by rfl, ?_⟩) ?_
        rotate_left
        · (intro w hSw; (try dsimp only at hSw); go_simp; try with_reducible rfl)
        try simp only [Act.put, List.setIfInBounds_toArray, List.set_cons_zero, List.set_cons_succ]
        refine tk 4 ?_ rfl (.inl ⟨by rfl, ?_⟩) ?_
        rotate_left
        · (intro w hSw; (try dsimp only at hSw); go_simp; try with_reducible rfl)
        try simp only [Act.put, List.setIfInBounds_toArray, List.set_cons_zero, List.set_cons_succ]
        refine tk 5 ?_ rfl (.inl ⟨by rfl, ?_⟩) ?_
        rotate_left
        · (intro w hSw; (try dsimp only at hSw); go_simp; try with_reducible rfl)
        try simp only [Act.put, List.setIfInBounds_toArray, List.set_cons_zero, List.set_cons_succ]
        refine tk 6 ?_ rfl (.inl ⟨by rfl, ?_⟩) ?_
        rotate_left
        · (intro w hSw; (try dsimp only at hSw); go_simp; try with_reducible rfl)
        try simp only [Act.put, List.setIfInBounds_toArray, List.set_cons_zero, List.set_cons_succ]
        refine tk 7 ?_ rfl (.inl ⟨by rfl, ?_⟩) ?_
        rotate_left
        · (intro w hSw; (try dsimp only at hSw); go_simp; try with_reducible rfl)
        try simp only [Act.put, List.setIfInBounds_toArray, List.set_cons_zero, List.set_cons_succ]
        refine tk 8 ?_ rfl (.inl ⟨by rfl, ?_⟩) ?_
        rotate_left
        · (intro w hSw; (try dsimp only at hSw); go_simp; try with_reducible rfl)
        try simp only [Act.put, List.setIfInBounds_toArray, List.set_cons_zero, List.set_cons_succ]
        refine tk 9 ?_ rfl (.inl ⟨by rfl, ?_⟩) ?_
        rotate_left
        · (intro w hSw; (try dsimp only at hSw); go_simp; try with_reducible rfl)
        try simp only [Act.put, List.setIfInBounds_toArray, List.set_cons_zero, List.set_cons_succ]
        refine tk 10 ?_ rfl (.inl ⟨by rfl, ?_⟩) ?_
        rotate_left
        · (intro w hSw; (try dsimp only at hSw); go_simp; try with_reducible rfl)
        try simp only [Act.put, List.setIfInBounds_toArray, List.set_cons_zero, List.set_cons_succ]
        refine tk 11 ?_ rfl (.inl ⟨by rfl, ?_⟩) ?_
        rotate_left
        · (intro w hSw; (try dsimp only at hSw); go_simp; try with_reducible rfl)
        try simp only [Act.put, List.setIfInBounds_toArray, List.set_cons_zero, List.set_cons_succ]
        refine tk 12 ?_ rfl (.inl ⟨by rfl, ?_⟩) ?_
        rotate_left
        · (intro w hSw; (try dsimp only at hSw); go_simp; try with_reducible rfl)
        try simp only [Act.put, List.setIfInBounds_toArray, List.set_cons_zero, List.set_cons_succ]
        refine tk 13 ?_ rfl (.inl ⟨by rfl, ?_⟩) ?_
        rotate_left
        · (intro w hSw; (try dsimp only at hSw); go_simp; try with_reducible rfl)
        try simp only [Act.put, List.setIfInBounds_toArray, List.set_cons_zero, List.set_cons_succ]
        refine tk 14 ?_ rfl (.inl ⟨by rfl, ?_⟩) ?_
        rotate_left
        · (intro w hSw; (try dsimp only at hSw); go_simp; try with_reducible rfl)
        try simp only [Act.put, List.setIfInBounds_toArray, List.set_cons_zero, List.set_cons_succ]
        refine tk 15 ?_ rfl (.inl ⟨by rfl, ?_⟩) ?_
        rotate_left
        · (intro w hSw; (try dsimp only at hSw); go_simp; try with_reducible rfl)
        try simp only [Act.put, List.setIfInBounds_toArray, List.set_cons_zero, List.set_cons_succ]
        refine wpAnyH_ready (rs := [16]) (by kernel_rfl) (by simp) ?_
        refine rdy rfl (fun K hK => ?_) AllReadyH.nil
        go_simp
        refine (must_false _).mono ?_
        rintro e w1 ⟨rfl, rfl⟩
        refine ⟨rfl, ?_⟩
        rw [HE.out]
        exact ⟨rfl, Ch.of v.ownBlock (Below.refl w.heap.size w).drew⟩
  · have hk2 : (xk == 2) = false := by simpa using hk
    have HE := Lib.hid (show oneR st xk xi xt xs 4 t ls bl subs b m = none by simp [oneR, hk])
    clear hi hn hX hT hbl hk hwt
    go_enter Try.func39, Try.ntmps39
    go_wp2_with fail
    refine wp_region_held_drew (S := (fun W => W.cell? ⟨bn, on, none⟩ = some (.int .i64 xk) ∧ W.cell? ⟨bn, on + 2, none⟩ = some (.bool xt) ∧ W.cell? ⟨bt, ot + 1, none⟩ = some (.bool t))) (by kernel_rfl) ?_ (fun hHeld => ?_)
    · exact ⟨x0, x2, t1⟩
    refine tk 0 ?_ rfl (.inl ⟨by rfl, ?_⟩) ?_
    rotate_left
    · (intro w hSw; (try dsimp only at hSw); go_simp; try with_reducible rfl)
    try simp only [Act.put, List.setIfInBounds_toArray, List.set_cons_zero, List.set_cons_succ]
    refine tk 1 ?_ rfl (.inl ⟨by rfl, ?_⟩) ?_
    rotate_left
    · (intro w hSw; (try dsimp only at hSw); go_simp; try with_reducible rfl)
    try simp only [Act.put, List.setIfInBounds_toArray, List.set_cons_zero, List.set_cons_succ]
    refine tk 2 ?_ rfl (.inl ⟨by rfl, ?_⟩) ?_
    rotate_left
    · (intro w hSw; (try dsimp only at hSw); go_simp; try with_reducible rfl)
    try simp only [Act.put, List.setIfInBounds_toArray, List.set_cons_zero, List.set_cons_succ]
    refine tk 3 ?_ rfl (.inl ⟨by rfl, ?_⟩) ?_
    rotate_left
    · (intro w hSw; (try dsimp only at hSw); go_simp; try with_reducible rfl)
    try simp only [Act.put, List.setIfInBounds_toArray, List.set_cons_zero, List.set_cons_succ]
    refine tk 4 ?_ rfl (.inl ⟨by rfl, ?_⟩) ?_
    rotate_left
    · (intro w hSw; (try dsimp only at hSw); go_simp; try with_reducible rfl)
    try simp only [Act.put, List.setIfInBounds_toArray, List.set_cons_zero, List.set_cons_succ]
    refine tk 5 ?_ rfl (.inl ⟨by rfl, ?_⟩) ?_
    rotate_left
    · (intro w hSw; (try dsimp only at hSw); go_simp; try with_reducible rfl)
    try simp only [Act.put, List.setIfInBounds_toArray, List.set_cons_zero, List.set_cons_succ]
    refine tk 6 undef rfl (.inr ⟨by rfl, rfl⟩) ?_
    try simp only [Act.put, List.setIfInBounds_toArray, List.set_cons_zero, List.set_cons_succ]
    refine tk 7 undef rfl (.inr ⟨by rfl, rfl⟩) ?_
    try simp only [Act.put, List.setIfInBounds_toArray, List.set_cons_zero, List.set_cons_succ]
    refine tk 8 undef rfl (.inr ⟨by rfl, rfl⟩) ?_
    try simp only [Act.put, List.setIfInBounds_toArray, List.set_cons_zero, List.set_cons_succ]
    refine tk 9 undef rfl (.inr ⟨by rfl, rfl⟩) ?_
    try simp only [Act.put, List.setIfInBounds_toArray, List.set_cons_zero, List.set_cons_succ]
    refine tk 10 undef rfl (.inr ⟨by rfl, rfl⟩) ?_
    try simp only [Act.put, List.setIfInBounds_toArray, List.set_cons_zero, List.set_cons_succ]
    refine tk 11 undef rfl (.inr ⟨by rfl, rfl⟩) ?_
    try simp only [Act.put, List.setIfInBounds_toArray, List.set_cons_zero, List.set_cons_succ]
    refine tk 12 undef rfl (.inr ⟨by rfl, rfl⟩) ?_
    try simp only [Act.put, List.setIfInBounds_toArray, List.set_cons_zero, List.set_cons_succ]
    refine tk 13 undef rfl (.inr ⟨by rfl, rfl⟩) ?_
    try simp only [Act.put, List.setIfInBounds_toArray, List.set_cons_zero, List.set_cons_succ]
    refine tk 14 undef rfl (.inr ⟨by rfl, rfl⟩) ?_
    try simp only [Act.put, List.setIfInBounds_toArray, List.set_cons_zero, List.set_cons_succ]
    refine tk 15 ?_ rfl (.inl ⟨by rfl, ?_⟩) ?_
    rotate_left
    · (intro w hSw; (try dsimp only at hSw); go_simp; try with_reducible rfl)
    try simp only [Act.put, List.setIfInBounds_toArray, List.set_cons_zero, List.set_cons_succ]
    refine wpAnyH_ready (rs := [16]) (by kernel_rfl) (by simp) ?_
    refine rdy rfl (fun K hK => ?_) AllReadyH.nil
    go_simp
    refine (must_false _).mono ?_
    rintro e w1 ⟨rfl, rfl⟩
    refine ⟨rfl, ?_⟩
    rw [HE.out]
    exact ⟨rfl, Ch.of v.ownBlock (Below.refl w.heap.size w).drew⟩
end Go.Proofs.Ytcadeeldogknmaa
