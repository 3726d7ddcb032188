/- ZF, ZG as one. -/
import Derived.Test.YtcadeeldogknmaaZD
import Derived.Deep.QuietTactic
import Derived.Test.YtcadeeldogknmaaZA
import Derived.Test.YtcadeeldogknmaaFM
/- Deeds: a call. -/
namespace Go.Proofs.Ytcadeeldogknmaa
open Go.RowKit

set_option maxRecDepth 100000 in
set_option maxHeartbeats 3200000 in
theorem deed_call (n : Nat) (hRL : RL n) : DeedOk n 7 42 := by
  intro xk xi xt xs t ls bl subs b bt ot bn on g base mp m st a v w hwt hi hn
  by_cases hk : xk = 5
  · subst hk
    obtain ⟨p, p', q, c, c', d, gi, sz, hbl, hT⟩ := hn.tfix hi.hb hi.row
    obtain ⟨p1, q1, c1, d1, hX⟩ := xfix_of hn.hx hn.hbn hi.hb hi.row
    obtain ⟨rfl, rfl⟩ := hbl rfl
    obtain ⟨l, rfl, hsh, _⟩ := hn.one (.inr (.inr rfl))
    obtain ⟨sa, rfl, hfa⟩ := Rs.one (hn.fine.1.2.2.2.2.2.2.2 (.inr (.inr (.inl rfl)))) hn.fine.2.1
    obtain ⟨b1, o1, pa, ca, rfl, hA⟩ := first_rs (fun W hW => (hT W hW).s8) hi.hb hi.row
    obtain ⟨b2, o2, pl, cl, rfl, hF⟩ := first_ls (fun W hW => (hX W hW).s3) hi.hb hi.row
    have hwl : l.wt < n := by have := hwt; simp only [Ls.wt] at this; omega
    have HS := Lib.hid (And.intro hn.fine.1.1 (And.intro hn.fine.1.2.2.1 (And.intro hfa (And.intro hsh hwl))))
    have HS2 := Lib.hid (And.intro hn.fine.1.2.1 hn.fine.1.2.2.2.1)
    have HE := Lib.hid (show oneR st 5 xi xt (.sub l .nil) 7 t ls bl (.sub sa .nil) b m = then2 (layR st ls xi m) (fun m => Ls.goCall st (.sub l .nil) bl sa b m) by simp [oneR, Rs.first])
    have HI := Lib.hid (show RwIn g base mp m st a v (1 + xi.length + (1 + l.wt)) w from hi.next hi.r hi.o (Ch.refl _ _ _) (OwnTo.refl _ _) (by have := hi.hm; simp only [Ls.wt] at this; omega) (by have := hi.ha; simp only [Ls.wt] at this; omega) (by simp only [Ls.wt]; omega))
    have HT := Lib.hid hT
    have HX := Lib.hid hX
    have HA := Lib.hid hA
    have HF := Lib.hid hF
    have hd := (Below.refl w.heap.size w).drew
    have HCd := Lib.hid (Ch.of (g := g) v.ownBlock hd)
    have HL := Lib.hid ((HI.out.later hd).lay (ls := ls) (is := xi) (p := p) (q := p1) (c := c) (d := c1) (by omega) (fun W hW => (HT.out W (HCd.out.trans hW (.inl rfl))).s2) (fun W hW => (HX.out W (HCd.out.trans hW (.inl rfl))).s1) HS.out.1 HS.out.2.1)
    have t2 := (hT w (Ch.refl _ _ _)).c2
    have t3 := (hT w (Ch.refl _ _ _)).c3
    have t4 := (hT w (Ch.refl _ _ _)).c4
    have x0 := (hX w (Ch.refl _ _ _)).c0
    have x1 := (hX w (Ch.refl _ _ _)).c1
    clear hT hX hA hF hn hi hd hbl hwt hwl hfa hsh
    go_enter Try.func42, Try.ntmps42
    go_wp2_with fail
    refine (must_true w).mono ?_
    rintro e w1 ⟨rfl, rfl⟩
    go_wp2_with fail
    go_still_tail 10, (by kernel_rfl)
    change wpList _ _ _ _ _ (World.drew _)
    go_wp2_with fail
    refine HL.out.mono ?_
    rintro e w1 hE
    rcases (hE.later HCd.out).steps with ⟨rfl, hR, hC⟩ | ⟨q2, n2, c2, y, m1, rfl, hR, hO, hr, hC, hT1⟩
    · refine ⟨rfl, ?_⟩
      rw [HE.out, then2_none hR]
      exact ⟨rfl, hC.out⟩
    have HI1 := Lib.hid (show RwIn g base mp m1 st (a.cat y) (.slice q2 n2 c2) (l.wt + 1) w1 from HI.out.after (lay_bnd1 HS.out.2.1) hR.out (by omega) hO.out hr.out hC.out hT1.out)
    have hd1 := (Below.refl w1.heap.size w1).drew
    have HK := Lib.hid (hRL l HS.out.2.2.2.2 sa pa pl ca cl b g base mp m1 st (a.cat y) (.slice q2 n2 c2) w1.drew (((HI1.out.later hd1)).next (HI1.out.later hd1).r (HI1.out.later hd1).o (Ch.refl _ _ _) (OwnTo.refl _ _) (by have := HI1.out.hm; omega) (by have := HI1.out.ha; omega) (Nat.le_succ _)) (fun W hW => (HA.out W (hC.out.trans ((Ch.of _ hd1).trans hW (.inl rfl)) hT1.out)).2) (fun W hW => (HF.out W (hC.out.trans ((Ch.of _ hd1).trans hW (.inl rfl)) hT1.out)).2) HS.out.2.2.1 HS.out.2.2.2.1)
    have HC1 := Lib.hid (Ch.of (g := g) (Value.slice q2 n2 c2).ownBlock hd1)
    have t8 : w1.cell? ⟨bt, ot + 8, none⟩ = some (.slice (some ⟨b1, o1, none⟩) 1 d) := (HT.out w1 hC.out).c8
    have x3 : w1.cell? ⟨bn, on + 3, none⟩ = some (.slice (some ⟨b2, o2, none⟩) 1 d1) := (HX.out w1 hC.out).c3
    have a0 := (HA.out w1 hC.out).1
    have f0 := (HF.out w1 hC.out).1
    clear hE HL t2 t3 t4 x0 x1 hd1
    go_wp2_with fail
    go_still_tail 15, (by kernel_rfl)
    change wpList _ _ _ _ _ (World.drew _)
    go_wp2_with fail
    refine HK.out.mono ?_
    rintro e w2 hE2
    rcases (hE2.later HC1.out).steps with ⟨rfl, hR2, hC2⟩ | ⟨q3, n3, c3, z, m2, rfl, hR2, hO2, hr2, hC2, hT2⟩
    · refine ⟨rfl, ?_⟩
      have h2 : RwEnd g base st mp (a.cat y) (.slice q2 n2 c2) w1 ((fun m => Ls.goCall st (.sub l .nil) bl sa b m) m1) (panicked 2) w2 := by
        show RwEnd g base st mp (a.cat y) (.slice q2 n2 c2) w1 (then2 (if asMany sa.len l.len b = true then Lf.go st l sa b m1 else none) _) (panicked 2) w2
        rw [then2_none hR2]
        exact ⟨rfl, hC2.out⟩
      rw [HE.out]
      exact h2.then2 hR.out hC.out hT1.out
    have HI2 := Lib.hid (show RwIn g base mp m2 st ((a.cat y).cat z) (.slice q3 n3 c3) 1 w2 from HI1.out.after (rw_bnd (go_bnd st l sa b m1 HS.out.2.2.1)) hR2.out (by omega) hO2.out hr2.out hC2.out hT2.out)
    have hC12 := hC.out.trans hC2.out hT1.out
    have t8 : w2.cell? ⟨bt, ot + 8, none⟩ = some (.slice (some ⟨b1, o1, none⟩) 1 d) := (HT.out w2 hC12).c8
    have x3 : w2.cell? ⟨bn, on + 3, none⟩ = some (.slice (some ⟨b2, o2, none⟩) 1 d1) := (HX.out w2 hC12).c3
    have a0 := (HA.out w2 hC12).1
    have f0 := (HF.out w2 hC12).1
    have HC12 := Lib.hid hC12
    have HE2 := Lib.hid (fun (e : Ending) (w3 : World) (h : RwEnd g base st mp ((a.cat y).cat z) (.slice q3 n3 c3) w2 (if l.len < sa.len then some (Lf.nil, m2) else layR st bl [] m2) e w3) => show RwEnd g base st mp a v w (oneR st 5 xi xt (.sub l .nil) 7 t ls bl (.sub sa .nil) b m) e w3 by
      have h2 : RwEnd g base st mp (a.cat y) (.slice q2 n2 c2) w1 ((fun m => Ls.goCall st (.sub l .nil) bl sa b m) m1) e w3 :=
        RwEnd.then2 (f := fun m2 => if l.len < sa.len then some (Lf.nil, m2) else layR st bl [] m2) h hR2.out hC2.out hT2.out
      rw [HE.out]
      exact h2.then2 hR.out hC.out hT1.out)
    clear hE2 HK hC12
    have hdq : ∀ nq, Below w2.heap.size w2 (w2.drewN nq) := fun nq => ⟨rfl, rfl, rfl, Nat.le_refl _, fun _ _ => rfl⟩
    by_cases hlt : l.len < sa.len
    · rw [if_pos hlt] at HE2
      go_wp2_with fail
      go_quiet (fail)
      replace hdq := hdq nq
      generalize w2.drewN nq = wq at hdq ⊢
      have HC2d := Lib.hid (Ch.of (g := g) (Value.slice q3 n3 c3).ownBlock hdq)
      have HO3 := Lib.hid (HI2.out.later hdq)
      clear hdq
      go_wp2_with fail
      go_ret
      exact HE2.out _ _ ⟨_, rfl, by rw [Lf.cat_nil]; exact HO3.out.o, HO3.out.r, HC2d.out, OwnTo.refl _ _⟩
    · rw [if_neg hlt] at HE2
      go_wp2_with fail
      go_quiet (fail)
      replace hdq := hdq nq
      generalize w2.drewN nq = wq at hdq ⊢
      have HC2d := Lib.hid (Ch.of (g := g) (Value.slice q3 n3 c3).ownBlock hdq)
      have HL2 := Lib.hid ((HI2.out.later hdq).lay (ls := bl) (is := []) (p := p') (q := none) (c := c') (d := 0) (Nat.le_refl _) (fun W hW => (HT.out W (HC12.out.trans (HC2d.out.trans hW (.inl rfl)) (hT1.out.trans hT2.out hC.out.size))).s5) (fun W hW => ⟨Nat.zero_le _, .inl rfl⟩) HS2.out.1 HS2.out.2)
      have s5 := (HT.out wq (HC12.out.trans HC2d.out (hT1.out.trans hT2.out hC.out.size))).c5
      have s6 := (HT.out wq (HC12.out.trans HC2d.out (hT1.out.trans hT2.out hC.out.size))).c6
      have s7 := (HT.out wq (HC12.out.trans HC2d.out (hT1.out.trans hT2.out hC.out.size))).c7
      clear hdq t8 x3 a0 f0
      go_wp2_with fail
      refine HL2.out.mono ?_
      rintro e w3 hE3
      have HZ := Lib.hid (HE2.out _ _ (hE3.later HC2d.out))
      rcases hE3.split with ⟨v', rfl, _⟩ | ⟨rfl, _⟩
      · clear hE3 HL2 s5 s6 s7
        go_wp2_with fail
        go_ret
        exact HZ.out
      · exact ⟨rfl, HZ.out⟩
  · have hk2 : (xk == 5) = false := by simpa using hk
    have HE := Lib.hid (show oneR st xk xi xt xs 7 t ls bl subs b m = none by simp [oneR, hk])
    obtain ⟨p1, q1, c1, d1, hX⟩ := xfix_of hn.hx hn.hbn hi.hb hi.row
    have x0 := (hX w (Ch.refl _ _ _)).c0
    clear hi hn hX
    go_enter Try.func42, Try.ntmps42
    go_wp2_with fail
    refine (must_false w).mono ?_
    rintro e w1 ⟨rfl, rfl⟩
    refine ⟨rfl, ?_⟩
    rw [HE.out]
    exact ⟨rfl, Ch.refl _ _ _⟩
end Go.Proofs.Ytcadeeldogknmaa
/- A list of nodes, by the terms at their places. -/
namespace Go.Proofs.Ytcadeeldogknmaa
open Go.RowKit

theorem oneR_bnd (st : Int) (xk : Int) (xi : List Int) (xt : Bool) (xs : Ls) (k : Int) (t : Bool) (ls bl : List (List Pk)) (subs : Rs) (b : Bool) (m : Nat) (hf : (Rc.node k t ls bl subs .nil).fine) : Bnd (1 + xi.length + xs.wt) m (oneR st xk xi xt xs k t ls bl subs b m) :=
  one_bnd st xk xi xt xs k t ls bl subs b m hf.1.2.2.1 hf.1.2.2.2.1 hf.2.1 (fun sub b m h => first_bnd st xs sub b m h) (fun sub b m h => loop_bnd st xs ls sub b m hf.1.2.2.1 h) (fun b m => rounds_bnd st xs subs b m hf.2.1) (fun sub b m h => call_bnd st xs bl sub b m hf.1.2.2.2.1 h) (fun sub b m h => each_bnd st xs sub b m h)
theorem go_nil (st : Int) (t : Rc) (br : Bool) (m : Nat) : Lf.go st .nil t br m = some (.nil, m) := by rw [Lf.go]
theorem then2_at {y x : Lf} {m1 m2 : Nat} {f : Nat → Option (Lf × Nat)} {g : Nat → Option (Lf × Nat)} (h : f m1 = some (x, m2)) : then2 (some (y, m1)) (fun m => then2 (f m) g) = then2 (some (y.cat x, m2)) g := by
  simp only [then2, h]
  cases g m2 with
  | none => rfl
  | some z => obtain ⟨z, m3⟩ := z; simp only [Lf.cat_assoc]
theorem then2_no {y : Lf} {m1 : Nat} {f : Nat → Option (Lf × Nat)} {g : Nat → Option (Lf × Nat)} (h : f m1 = none) : then2 (some (y, m1)) (fun m => then2 (f m) g) = none := by simp only [then2, h]
set_option maxRecDepth 100000 in
set_option maxHeartbeats 6400000 in
theorem list_step (n : Nat) (hD : ∀ k : Int, 1 ≤ k → k ≤ 9 → ∃ f, fval deedT k = .func (.func f) #[] #[] ∧ (∀ args w, (callFunc f args).run Try.prog w = .ok (.enter f args) w) ∧ DeedOk n k f) : RL (n + 1) := by
  intro l hwt t tp lp tc lc br g base mp m st a v w hi ht hl htf hsh
  have HD := Lib.hid hD
  clear hD
  by_cases hm : asMany t.len l.len br = true
  · rw [if_pos hm]
    have HM := Lib.hid (show Calls Try.prog 46 #[.int .i64 t.len, .int .i64 l.len, .bool br] w fun e w' => e = .returned (.tuple #[]) ∧ w = w' by
      have := asMany_any t.len l.len br w
      rw [if_pos hm] at this
      exact this)
    have hle : l.len ≤ t.len := by
      unfold asMany at hm
      simp at hm
      omega
    obtain ⟨bl', ol, bt, ot, hpl, hAt⟩ : ∃ bl' ol bt ot, (0 < l.len → lp = some ⟨bl', ol, none⟩ ∧ tp = some ⟨bt, ot, none⟩ ∧ bl' < base ∧ bt < base) ∧ ∀ W, Ch g v.ownBlock w W → l.len = 0 ∨ (l.At W base bl' ol ∧ t.At W base bt ot) := by
      by_cases h0 : l.len = 0
      · exact ⟨0, 0, 0, 0, fun h => by omega, fun _ _ => .inl h0⟩
      · rcases (hl w (Ch.refl _ _ _)).2 with e | ⟨b1, o1, rfl, hb1, _⟩
        · omega
        rcases (ht w (Ch.refl _ _ _)).2 with e | ⟨b2, o2, rfl, hb2, _⟩
        · omega
        refine ⟨b1, o1, b2, o2, fun _ => ⟨rfl, rfl, hb1, hb2⟩, fun W hW => .inr ⟨?_, ?_⟩⟩
        · rcases (hl W hW).2 with e | ⟨b, o, e, _, h⟩
          · omega
          · cases e; exact h
        · rcases (ht W hW).2 with e | ⟨b, o, e, _, h⟩
          · omega
          · cases e; exact h
    have hll : l.len ≤ 140737488355328 := (hl w (Ch.refl _ _ _)).1
    have htl : t.len ≤ 140737488355328 := (ht w (Ch.refl _ _ _)).1
    have HI := Lib.hid hi
    have HAt := Lib.hid hAt
    have Hpl := Lib.hid hpl
    have HS := Lib.hid (And.intro htf (And.intro hsh hwt))
    have Hle := Lib.hid hle
    clear hi ht hl htf hsh hwt hm hAt hpl hle
    go_enter Try.func24, Try.ntmps24
    go_wp2_with (go_at_call 46; refine HM.out.mono ?_; rintro e w' ⟨rfl, rfl⟩)
    go_loopw [1, 20] (fun u1 i wr => ∃ (k : Nat) (rs : Lf) (rt : Rc) (y : Lf) (m1 : Nat), i = .int .i64 k ∧ k + rs.len = l.len ∧ k + rt.len = t.len ∧ Hid (l.go st t br m = then2 (some (y, m1)) fun m => rs.go st rt br m) ∧ Hid (RwIn g base mp m1 st (a.cat y) u1 rs.wt wr) ∧ Hid (∀ W, Ch g v.ownBlock w W → rs.len = 0 ∨ (rs.At W base bl' (ol + k * 4) ∧ rt.At W base bt (ot + k * 9))) ∧ Hid (rt.fine ∧ rs.shaped = true ∧ rs.wt < n + 1 ∧ rs.len ≤ rt.len) ∧ Hid (Ch g v.ownBlock w wr ∧ OwnTo w v u1)) (fun _ i _ => l.len - (intOf i).toNat)
    case atStart =>
      refine ⟨0, l, t, .nil, m, rfl, by simp, by simp, Lib.hid ?_, by rw [Lf.cat_nil]; exact HI, Lib.hid fun W hW => by simpa using HAt.out W hW, Lib.hid ⟨HS.out.1, HS.out.2.1, HS.out.2.2, Hle.out⟩, Lib.hid ⟨Ch.refl _ _ _, OwnTo.refl _ _⟩⟩
      simp only [then2]
      cases l.go st t br m with
      | none => rfl
      | some x => obtain ⟨x, m'⟩ := x; rfl
    case round =>
      clear HM
      obtain ⟨k, rs, rt, y, m1, rfl, hk, hk2, hE, hI, hA, hF, hC⟩ := hrel
      obtain ⟨wi, rfl⟩ : ∃ wi : World, wi = wr := ⟨_, rfl⟩
      cases rs with
      | nil =>
        simp only [Lf.len, Nat.add_zero] at hk
        have hge : ¬ k < l.len := by omega
        have HX := Lib.hid (show l.go st t br m = some (y, m1) by rw [hE.out]; simp only [then2, go_nil, Lf.cat_nil])
        clear hE hA hF
        go_wp2_with fail
        go_ret
        rw [HX.out]
        exact ⟨u1, rfl, hI.out.o, hI.out.r, hC.out.1, hC.out.2⟩
      | node xk xi xt xs r =>
        cases rt with
        | nil => exfalso; have := hF.out.2.2.2; simp [Lf.len, Rc.len] at this
        | node k2 t2 ls bl2 subs tr =>
        simp only [Lf.len, Rc.len] at hk hk2
        have hlt : k < l.len := by omega
        have hlt2 : k < t.len := by omega
        obtain ⟨rfl, rfl, hbl, hbt⟩ := Hpl.out (by omega)
        obtain ⟨f, hf, hcf, hdeed⟩ := HD.out k2 hF.out.1.1.2.2.2.2.1 hF.out.1.1.2.2.2.2.2.1
        have hAn : ∀ W, Ch g v.ownBlock w W → (Lf.node xk xi xt xs r).At W base bl' (ol + k * 4) ∧ (Rc.node k2 t2 ls bl2 subs tr).At W base bt (ot + k * 9) := fun W hW => by
          rcases hA.out W hW with e | e
          · simp [Lf.len] at e
          · exact e
        have hd := (Below.refl wi.heap.size wi).drew
        have hCd : Ch g u1.ownBlock wi wi.drew := Ch.of _ hd
        have hgo : ∀ W, Ch g u1.ownBlock wi.drew W → Ch g v.ownBlock w W := fun W hW => hC.out.1.trans (hCd.trans hW (.inl rfl)) hC.out.2
        have hW0 : (Lf.node xk xi xt xs r).wt = 1 + xi.length + xs.wt + r.wt := by rw [Lf.wt]
        have hfine : (Rc.node k2 t2 ls bl2 subs .nil).fine := ⟨hF.out.1.1, hF.out.1.2.1, trivial⟩
        have hsh1 : (Lf.node xk xi xt xs .nil).shaped = true ∧ r.shaped = true := by
          have := hF.out.2.1
          simp only [Lf.shaped, Bool.and_eq_true] at this ⊢
          exact ⟨⟨this.1, trivial⟩, this.2⟩
        have hni : NodeIn g base u1.ownBlock wi.drew k2 t2 ls bl2 subs bt (ot + k * 9) xk xi xt xs bl' (ol + k * 4) := ⟨fun W hW => by
            obtain ⟨h0, h1, h2, h3, h4, _⟩ := (hAn W (hgo W hW)).2
            exact ⟨h0, h1, h2, h3, h4, trivial⟩, fun W hW => by
            obtain ⟨h0, h1, h2, h3, _⟩ := (hAn W (hgo W hW)).1
            exact ⟨h0, h1, h2, h3, trivial⟩, hfine, hsh1.1, hbt, hbl⟩
        have hid2 : RwIn g base mp m1 st (a.cat y) u1 (1 + xi.length + xs.wt) wi.drew := by
          have h1 := hI.out.later hd
          rw [hW0] at h1
          exact h1.next h1.r h1.o (Ch.refl _ _ _) (OwnTo.refl _ _) (by have := h1.hm; omega) (by have := h1.ha; omega) (by omega)
        have HK := Lib.hid (hdeed xk xi xt xs t2 ls bl2 subs (br && r.len == 0) bt (ot + k * 9) bl' (ol + k * 4) g base mp m1 st (a.cat y) u1 wi.drew (by have := hF.out.2.2.1; rw [hW0] at this; omega) hid2 hni)
        have HCd := Lib.hid hCd
        have HB := Lib.hid (oneR_bnd st xk xi xt xs k2 t2 ls bl2 subs (br && r.len == 0) m1 hfine)
        have HG := Lib.hid (show l.go st t br m = then2 (some (y, m1)) (fun m => then2 (oneR st xk xi xt xs k2 t2 ls bl2 subs (br && r.len == 0) m) (fun m => r.go st tr br m)) by rw [hE.out]; simp only [go_node])
        have HN := Lib.hid (show (∀ W, Ch g v.ownBlock w W → r.len = 0 ∨ (r.At W base bl' (ol + (k + 1) * 4) ∧ tr.At W base bt (ot + (k + 1) * 9))) ∧ tr.fine ∧ r.shaped = true ∧ r.wt < n + 1 ∧ r.len ≤ tr.len from
          ⟨fun W hW => .inr ⟨by have := (hAn W hW).1.2.2.2.2; rw [show ol + (k + 1) * 4 = ol + k * 4 + 4 by omega]; exact this, by have := (hAn W hW).2.2.2.2.2.2; rw [show ot + (k + 1) * 9 = ot + k * 9 + 9 by omega]; exact this⟩, hF.out.1.2.2, hsh1.2, by have := hF.out.2.2.1; rw [hW0] at this; omega, by have := hF.out.2.2.2; simp only [Lf.len, Rc.len] at this; omega⟩)
        have HIw := Lib.hid (show RwIn g base mp m1 st (a.cat y) u1 (1 + xi.length + xs.wt + r.wt) wi by rw [← hW0]; exact hI.out)
        have hmp := hI.out.mp wi (Ch.refl _ _ _)
        have hlk := run_look1_fmap Try.underlying61 Try.underlying34 deed_zero deedT hmp k2
        have hlk2 := run_look1_fmap Try.underlying61 Try.underlying34 deed_zero deedT (w := wi.drew) hmp k2
        have hlk3 := run_look1_fmap Try.underlying61 Try.underlying34 deed_zero deedT (w := { heap := wi.heap, tape := wi.tape, drawn := wi.drawn + 1, os := wi.os, output := wi.output }) hmp k2
        rw [hf] at hlk hlk2 hlk3
        have g1 := hI.out.r.c1
        have t0 := (hAn wi hC.out.1).2.1
        clear hd hCd hgo hni hid2 hdeed hAn hmp hE hI hA hF hfine hsh1 hW0
        have Hk := Lib.hid hk
        have Hk2 := Lib.hid hk2
        clear hk hk2
        cases br with
        | false =>
          go_wp2_with fail
          go_still_tail 26, (by kernel_rfl)
          change wpList _ _ _ _ _ (World.drew _)
          go_wp2_with fail
          refine HK.out.mono ?_
          rintro e w2 hE2
          rcases (hE2.later HCd.out).steps with ⟨rfl, hR, hC2⟩ | ⟨q2, n2, c2, x, m2, rfl, hR, hO, hr, hC2, hT2⟩
          · refine ⟨rfl, ?_⟩
            rw [show l.go st t false m = none by rw [HG.out]; exact then2_no hR]
            exact ⟨rfl, hC.out.1.trans hC2.out hC.out.2⟩
          · have HE3 := Lib.hid (show l.go st t false m = then2 (some (y.cat x, m2)) fun m => r.go st tr false m by rw [HG.out]; exact then2_at hR.out)
            have HI3 := Lib.hid (show RwIn g base mp m2 st (a.cat (y.cat x)) (.slice q2 n2 c2) r.wt w2 by
              rw [← Lf.cat_assoc]; exact HIw.out.after HB.out hR.out (by omega) hO.out hr.out hC2.out hT2.out)
            have HC3 := Lib.hid (show Ch g v.ownBlock w w2 ∧ OwnTo w v (.slice q2 n2 c2) from ⟨hC.out.1.trans hC2.out hC.out.2, hC.out.2.trans hT2.out hC.out.1.size⟩)
            clear hE2 HK hlk hlk2 hlk3 g1 t0 hR hO hr hC2 hT2 HIw HB HG hC HCd
            go_wp2_with fail
            go_roundw
            case rel => exact ⟨k + 1, r, tr, y.cat x, m2, by go_num, by have := Hk.out; omega, by have := Hk2.out; omega, HE3, HI3, Lib.hid HN.out.1, Lib.hid HN.out.2, HC3⟩
            case measure => simp [intOf]; omega
        | true =>
          have Hq := Lib.hid (show (true && r.len == 0) = ((k : Int) == (l.len : Int) - 1) by rw [Bool.true_and, Bool.eq_iff_iff, beq_iff_eq, beq_iff_eq]; have := Hk.out; omega)
          rw [Hq.out] at HK
          go_wp2_with fail
          go_still_tail 26, (by kernel_rfl)
          change wpList _ _ _ _ _ (World.drew _)
          go_wp2_with fail
          refine HK.out.mono ?_
          rintro e w2 hE2
          rw [← Hq.out] at hE2
          rcases (hE2.later HCd.out).steps with ⟨rfl, hR, hC2⟩ | ⟨q2, n2, c2, x, m2, rfl, hR, hO, hr, hC2, hT2⟩
          · refine ⟨rfl, ?_⟩
            rw [show l.go st t true m = none by rw [HG.out]; exact then2_no hR]
            exact ⟨rfl, hC.out.1.trans hC2.out hC.out.2⟩
          · have HE3 := Lib.hid (show l.go st t true m = then2 (some (y.cat x, m2)) fun m => r.go st tr true m by rw [HG.out]; exact then2_at hR.out)
            have HI3 := Lib.hid (show RwIn g base mp m2 st (a.cat (y.cat x)) (.slice q2 n2 c2) r.wt w2 by
              rw [← Lf.cat_assoc]; exact HIw.out.after HB.out hR.out (by omega) hO.out hr.out hC2.out hT2.out)
            have HC3 := Lib.hid (show Ch g v.ownBlock w w2 ∧ OwnTo w v (.slice q2 n2 c2) from ⟨hC.out.1.trans hC2.out hC.out.2, hC.out.2.trans hT2.out hC.out.1.size⟩)
            clear hE2 HK hlk hlk2 hlk3 g1 t0 hR hO hr hC2 hT2 HIw HB HG hC HCd
            go_wp2_with fail
            go_roundw
            case rel => exact ⟨k + 1, r, tr, y.cat x, m2, by go_num, by have := Hk.out; omega, by have := Hk2.out; omega, HE3, HI3, Lib.hid HN.out.1, Lib.hid HN.out.2, HC3⟩
            case measure => simp [intOf]; omega
  · rw [if_neg hm]
    have HM := Lib.hid (show Calls Try.prog 46 #[.int .i64 t.len, .int .i64 l.len, .bool br] w fun e w' => e = panicked 2 ∧ w = w' by
      have := asMany_any t.len l.len br w
      rw [if_neg hm] at this
      exact this)
    clear hi ht hl htf hsh hwt hm
    go_enter Try.func24, Try.ntmps24
    go_wp2_with fail
    refine HM.out.mono ?_
    rintro e w1 ⟨rfl, rfl⟩
    exact ⟨rfl, rfl, Ch.refl _ _ _⟩
end Go.Proofs.Ytcadeeldogknmaa
