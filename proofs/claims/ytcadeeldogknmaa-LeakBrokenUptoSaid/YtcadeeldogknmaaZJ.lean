/- Deeds: a loop. -/
import Derived.Test.YtcadeeldogknmaaZI
namespace Go.Proofs.Ytcadeeldogknmaa
open Go.RowKit

theorem goAsk_nil (st : Int) (ls : List (List Pk)) (t : Rc) (br : Bool) (m : Nat) : Lf.goAsk st .nil ls t br m = some (.nil, m) := by rw [Lf.goAsk]
theorem Ch.inner {g : Nat} {row : Option Nat} {w w1 W : World} (h : Ch g Option.none w w1) (k : Ch g row w1 W) (hr : ∀ x, row = some x → w.heap.size ≤ x) : Ch g Option.none w W :=
  ⟨k.os.trans h.os, k.tape.trans h.tape, k.output.trans h.output, Nat.le_trans h.size k.size, fun i hi hn _ => (k.block i (Nat.lt_of_lt_of_le hi h.size) hn (fun e => by have := hr i e; omega)).trans (h.block i hi hn (by simp)), fun hg o => (k.fz (Nat.lt_of_lt_of_le hg h.size) o).trans (h.fz hg o)⟩
theorem ask_two {k : Int} {is : List Int} {t : Bool} {s : Ls} {r : Lf} (h : (Lf.node k is t s r).shaped = true) (ha : (Lf.node k is t s r).asks = true) (hk : k ≠ 1) : k = 2 ∧ ∃ l, s = .sub l .nil ∧ l.shaped = true := by
  simp only [Lf.shaped, Lf.asks, Bool.and_eq_true, Bool.or_eq_true, beq_iff_eq] at h ha
  have h2 : k = 2 := by
    rcases ha.1 with e | e
    · exact absurd e hk
    · exact e.1
  refine ⟨h2, ?_⟩
  subst h2
  have hl : s.len = 1 := by
    have := h.1.1.1
    simpa [fieldsOk] using this
  cases s with
  | nil => simp [Ls.len] at hl
  | sub l r =>
    cases r with
    | sub _ _ => simp [Ls.len] at hl
    | nil =>
      refine ⟨l, rfl, ?_⟩
      have := h.1.2
      simpa [Ls.shaped] using this
theorem rest_ok {k : Int} {is : List Int} {t : Bool} {s : Ls} {r : Lf} (h : (Lf.node k is t s r).shaped = true) (ha : (Lf.node k is t s r).asks = true) : r.shaped = true ∧ r.asks = true := by
  simp only [Lf.shaped, Lf.asks, Bool.and_eq_true] at h ha
  exact ⟨h.2, ha.2⟩
set_option maxRecDepth 100000 in
set_option maxHeartbeats 12800000 in
theorem deed_loop (n : Nat) (hRL : RL n) : DeedOk n 5 40 := by
  intro xk xi xt xs t ls bl subs b bt ot bn on g base mp m st a v w hwt hi hn
  by_cases hk : xk = 3
  · subst hk
    obtain ⟨p, p', q, c, c', d, gi, sz, hbl, hT⟩ := hn.tfix hi.hb hi.row
    obtain ⟨p1, q1, c1, d1, hX⟩ := xfix_of hn.hx hn.hbn hi.hb hi.row
    obtain ⟨sa, rfl, hfa⟩ := Rs.one (hn.fine.1.2.2.2.2.2.2.2 (.inr (.inl rfl))) hn.fine.2.1
    obtain ⟨l, rfl, hsh, hask⟩ := hn.one (.inr (.inl rfl))
    obtain ⟨bq, oq, pt, ct, rfl, hA⟩ := first_rs (fun W hW => (hT W hW).s8) hi.hb hi.row
    obtain ⟨b2, o2, pl, cl, rfl, hF⟩ := first_ls (fun W hW => (hX W hW).s3) hi.hb hi.row
    obtain ⟨bl9, ol, hpl, hAl⟩ : ∃ bl9 ol, (0 < l.len → pl = some ⟨bl9, ol, none⟩ ∧ bl9 < base) ∧ ∀ W, Ch g none w W → l.len = 0 ∨ l.At W base bl9 ol := by
      by_cases h0 : l.len = 0
      · exact ⟨0, 0, fun h => by omega, fun _ _ => .inl h0⟩
      · rcases (hF w (Ch.refl _ _ _)).2.2 with e | ⟨b1, o1, rfl, hb1, _⟩
        · omega
        refine ⟨b1, o1, fun _ => ⟨rfl, hb1⟩, fun W hW => .inr ?_⟩
        rcases (hF W hW.none).2.2 with e | ⟨b, o, e, _, h⟩
        · omega
        · cases e; exact h
    have hll : l.len ≤ 140737488355328 := (hF w (Ch.refl _ _ _)).2.1
    have x0 := (hX w (Ch.refl _ _ _)).c0
    have x3 : w.cell? ⟨bn, on + 3, none⟩ = some (.slice (some ⟨b2, o2, none⟩) 1 d1) := (hX w (Ch.refl _ _ _)).c3
    have s0 := (hF w (Ch.refl _ _ _)).1
    have HE := Lib.hid (show oneR st 3 xi xt (.sub l .nil) 5 t ls bl (.sub sa .nil) b m = (match Lf.goAsk st l ls sa b m with | none => none | some (c, m2) => some (.node 3 [] false (.sub c .nil) .nil, m2)) by
      simp [oneR, Rs.first, Ls.goLoop]
      cases Lf.goAsk st l ls sa b m with
      | none => rfl
      | some x => rfl)
    have HI0 := Lib.hid (hi.less (W' := l.wt) (by simp only [Ls.wt]; omega))
    have HI := Lib.hid (show RwIn g w.heap.size mp m st .nil (.slice none 0 0) l.wt w from hi.inner (by simp only [Ls.wt]; omega))
    have HT := Lib.hid (fun W (hW : Ch g none w W) => hT W hW.none)
    have HX := Lib.hid (fun W (hW : Ch g none w W) => show W.cell? ⟨bn, on + 3, none⟩ = some (.slice (some ⟨b2, o2, none⟩) 1 d1) from (hX W hW.none).c3)
    have HA := Lib.hid (fun W (hW : Ch g none w W) => hA W hW.none)
    have HFl := Lib.hid (fun W (hW : Ch g none w W) => (hF W hW.none).1)
    have HAl := Lib.hid hAl
    have Hp := Lib.hid hpl
    have HS := Lib.hid (show sa.fine ∧ l.shaped = true ∧ l.asks = true ∧ l.wt < n ∧ picksOk ls = true ∧ linesW ls ≤ 1048576 from ⟨hfa, hsh, hask rfl, by simp only [Ls.wt] at hwt; omega, hn.fine.1.1, hn.fine.1.2.2.1⟩)
    have HRL := Lib.hid hRL
    clear hi hn hwt hX hT hA hAl hpl hF hRL hfa hsh hask hbl
    go_enter Try.func40, Try.ntmps40
    go_wp2_with fail
    refine (must_true w).mono ?_
    rintro e w1 ⟨rfl, rfl⟩
    go_wp2_with fail
    clear x0 x3 s0
    go_loopw [11, 27] (fun u11 i wr => ∃ (k : Nat) (rs y : Lf) (m1 : Nat) (qy : Option Addr) (cy : Nat), u11 = .slice qy y.len cy ∧ i = .int .i64 k ∧ k + rs.len = l.len ∧ Hid (Lf.goAsk st l ls sa b m = then2 (some (y, m1)) fun m => Lf.goAsk st rs ls sa b m) ∧ Hid (RwIn g w.heap.size mp m1 st y (.slice qy y.len cy) rs.wt wr) ∧ Hid (∀ W, Ch g none w W → rs.len = 0 ∨ rs.At W base bl9 (ol + k * 4)) ∧ Hid (rs.shaped = true ∧ rs.asks = true ∧ rs.wt < n) ∧ Hid (Ch g none w wr)) (fun _ i _ => l.len - (intOf i).toNat)
    case atStart =>
      refine ⟨0, l, .nil, m, none, 0, rfl, rfl, by simp, Lib.hid ?_, HI, Lib.hid fun W hW => by simpa using HAl.out W hW, Lib.hid ⟨HS.out.2.1, HS.out.2.2.1, HS.out.2.2.2.1⟩, Lib.hid (Ch.refl _ _ _)⟩
      simp only [then2]
      cases Lf.goAsk st l ls sa b m with
      | none => rfl
      | some x => obtain ⟨x, m'⟩ := x; rfl
    case round =>
      clear HI
      obtain ⟨k, rs, y, m1, qy, cy, rfl, rfl, hk, hE, hI, hAt, hF, hC⟩ := hrel
      obtain ⟨wi, rfl⟩ : ∃ wi : World, wi = wr := ⟨_, rfl⟩
      cases rs with
      | nil =>
        simp only [Lf.len, Nat.add_zero] at hk
        have hge : ¬ k < l.len := by omega
        have HZ := Lib.hid (show Lf.goAsk st l ls sa b m = some (y, m1) by rw [hE.out]; simp only [then2, goAsk_nil, Lf.cat_nil])
        obtain ⟨qv0, cv0, hv, _⟩ := OutG.form HI0.out.o
        subst hv
        have hyl : y.len ≤ 140737488355328 := by have := hI.out.ha; have := cap6_le m1; omega
        obtain ⟨q9, c9, h9, hN9⟩ := OutL.newB hI.out.o hyl
        obtain ⟨rfl, rfl⟩ : qy = q9 ∧ cy = c9 := by simpa using h9
        have hv1 : ∀ i, (Value.slice qv0 a.len cv0).ownBlock = some i → base ≤ i ∧ i < w.heap.size := fun i h => HI0.out.o.lt h
        have hbi : base ≤ wi.heap.size := Nat.le_trans HI0.out.hb hC.out.size
        have hgw : g < w.heap.size := by have := HI0.out.hg; have := HI0.out.hb; omega
        obtain ⟨W4, hW4⟩ : ∃ W4, wi.alloc (.cells #[.slice qy y.len cy] 23 (0, 0)) = W4 := ⟨_, rfl⟩
        have HW4 := Lib.hid hW4
        have hA4 : Below wi.heap.size wi W4 := by rw [← hW4]; exact (Below.refl _ wi).alloc (Nat.le_refl _) _
        have hs4 : W4.heap.size = wi.heap.size + 1 := by rw [← hW4]; simp
        have hP2 : NewB base (fun i => (Value.slice qv0 a.len cv0).ownBlock == some i) W4 fun u N => (Ls.sub y .nil).In u N (some ⟨wi.heap.size, 0, none⟩) := by
          rw [← hW4]
          exact oneSub (hN9.weak HI0.out.hb fun i h1 _ _ => by simp only [beq_eq_false_iff_ne, ne_eq]; exact fun e => by have := (hv1 i e).2; omega) hbi (by simp only [beq_eq_false_iff_ne, ne_eq]; exact fun e => by have := (hv1 _ e).2; have := hC.out.size; omega)
        have hP1 : NewB base (fun i => (Value.slice qv0 a.len cv0).ownBlock == some i) W4 fun u N => Sl N none ([] : List Int).length (Ints u []) := ⟨fun _ => false, ⟨Nat.zero_le _, .inl rfl⟩, fun _ h => by cases h⟩
        have hC4 : Ch g none w W4 := hC.out.below2 (hA4.mono hC.out.size) hgw
        have hOv : OutL W4 base (.slice qv0 a.len cv0) a := HI0.out.o.ch (mono_lf a) HI0.out.hg hC4
        obtain ⟨qv, cv, w5, hrun, hO5, hgr, hot⟩ := app_lfB (k := 3) (t := false) (d1 := 0) (d2 := 1) hOv (by omega) (hP1.both hP2 (mono_ints _ _) (mono_lsin _ _)) (by have := HI0.out.ha; have := cap6_le m; omega) 23
        obtain ⟨W5, hW5⟩ : ∃ W5, W4.alloc (.cells #[.int .i64 3, .slice none ([] : List Int).length 0, .bool false, .slice (some ⟨wi.heap.size, 0, none⟩) 1 1] 47 (0, 0)) = W5 := ⟨_, rfl⟩
        have hA5 : Below W4.heap.size W4 W5 := by rw [← hW5]; exact (Below.refl _ W4).alloc (Nat.le_refl _) _
        have hgr5 : W5.grownBy w5 (Value.slice qv0 a.len cv0).ownBlock := by rw [← hW5]; exact hgr
        have hs5 := hA5.size
        have hC5 : Ch g (Value.slice qv0 a.len cv0).ownBlock w w5 := (hC4.none.below2 (hA5.mono hC4.size) hgw).trans (Ch.grown hgr5 (fun e => by have := (hv1 _ e).1; have := HI0.out.hg; omega)) (.inl rfl)
        have hr5 : RwS w5 g st mp m1 := hI.out.r.later (((hA4.mono hbi).trans (hA5.mono (by omega))).grown hgr5 (by omega) (fun i h => (hv1 i h).1)) HI0.out.hg
        rw [hs4] at hrun
        simp only [List.length_nil] at hrun
        have HRn := Lib.hid hrun
        have HF5 := Lib.hid (And.intro hO5 (And.intro hr5 (And.intro hC5 ((OwnTo.refl w _).trans hot hC4.size))))
        rw [HZ.out] at HE
        clear hk h9 hN9 hyl hv1 hbi hgw hW4 hA4 hs4 hP2 hP1 hC4 hOv hrun hO5 hgr hot hW5 hA5 hgr5 hs5 hC5 hr5 hE hI hAt hF
        go_wp2_with (at_builtin; rw [HW4.out]; refine Lib.wpList_append_run _ rfl _ _ _ _ rfl _ _ rfl rfl _ _ HRn.out ?_)
        go_ret
        rw [HE.out]
        exact ⟨_, rfl, HF5.out⟩
      | node xk xi xt xs r =>
        simp only [Lf.len] at hk
        have hlt : k < l.len := by omega
        obtain ⟨rfl, hbl⟩ := Hp.out (by omega)
        have hAn : ∀ W, Ch g none w W → (Lf.node xk xi xt xs r).At W base bl9 (ol + k * 4) := fun W hW => by
          rcases hAt.out W hW with e | e
          · simp [Lf.len] at e
          · exact e
        have hW0 : (Lf.node xk xi xt xs r).wt = 1 + xi.length + xs.wt + r.wt := by rw [Lf.wt]
        have hin : ∀ W, Ch g (Value.slice qy y.len cy).ownBlock wi W → Ch g none w W := fun W hW => hC.out.inner hW (fun i e => (hI.out.o.lt e).1)
        obtain ⟨p9, q9, c9, d9, hXx⟩ := xfix_of (g := g) (base := w.heap.size) (row := (Value.slice qy y.len cy).ownBlock) (w := wi) (xk := xk) (xi := xi) (xt := xt) (xs := xs) (bn := bl9) (on := ol + k * 4) (fun W hW => by
          obtain ⟨h0, h1, h2, h3, _⟩ := hAn W (hin W hW)
          exact Lf.At.le (Le.refl _) HI0.out.hb (.node xk xi xt xs .nil) _ _ ⟨h0, h1, h2, h3, trivial⟩) (Nat.lt_of_lt_of_le hbl HI0.out.hb) hC.out.size (fun i e => (hI.out.o.lt e).1)
        have Hk := Lib.hid hk
        have HIw := Lib.hid (show RwIn g w.heap.size mp m1 st y (.slice qy y.len cy) (1 + xi.length + xs.wt + r.wt) wi by rw [← hW0]; exact hI.out)
        have HN := Lib.hid (show (∀ W, Ch g none w W → r.len = 0 ∨ r.At W base bl9 (ol + (k + 1) * 4)) ∧ r.shaped = true ∧ r.asks = true ∧ r.wt < n from
          ⟨fun W hW => .inr (by have := (hAn W hW).2.2.2.2; rw [show ol + (k + 1) * 4 = ol + k * 4 + 4 by omega]; exact this), (rest_ok hF.out.1 hF.out.2.1).1, (rest_ok hF.out.1 hF.out.2.1).2, by have := hF.out.2.2; rw [hW0] at this; omega⟩)
        have HXx := Lib.hid hXx
        have x0 := (hXx wi (Ch.refl _ _ _)).c0
        have x2 := (hXx wi (Ch.refl _ _ _)).c2
        have t2 := (HT.out wi hC.out).c2
        have t3 := (HT.out wi hC.out).c3
        have t4 := (HT.out wi hC.out).c4
        have t8 : wi.cell? ⟨bt, ot + 8, none⟩ = some (.slice (some ⟨bq, oq, none⟩) 1 d) := (HT.out wi hC.out).c8
        have r0 := (HA.out wi hC.out).1
        have x3 := HX.out wi hC.out
        have s0 := HFl.out wi hC.out
        have HKp := Lib.hid (fun W (hW : Ch g none w W) => show (W.cell? ⟨bt, ot + 2, none⟩ = some (.slice p ls.length c) ∧ W.cell? ⟨bt, ot + 3, none⟩ = some (.int .i64 (greatestL ls)) ∧ W.cell? ⟨bt, ot + 4, none⟩ = some (.int .i64 (linesW ls))) ∧ W.cell? ⟨bt, ot + 8, none⟩ = some (.slice (some ⟨bq, oq, none⟩) 1 d) ∧ W.cell? ⟨bq, oq, none⟩ = some (.slice pt sa.len ct) ∧ W.cell? ⟨bn, on + 3, none⟩ = some (.slice (some ⟨b2, o2, none⟩) 1 d1) ∧ W.cell? ⟨b2, o2, none⟩ = some (.slice (some ⟨bl9, ol, none⟩) l.len cl) from ⟨⟨(HT.out W hW).c2, (HT.out W hW).c3, (HT.out W hW).c4⟩, (HT.out W hW).c8, (HA.out W hW).1, HX.out W hW, HFl.out W hW⟩)
        have HG0 := hE
        by_cases hx1 : xk = 1
        · subst hx1
          have hbig : xi.length ≤ 1073741824 ∧ xs.wt ≤ 1073741824 ∧ y.len ≤ 2000000000000 := by
            have := HIw.out.hW; have := HIw.out.ha; have := cap6_le m1; omega
          have x := hXx wi (Ch.refl _ _ _)
          have HCp := Lib.hid (copyNode_of (xs.wt + 1) (cpl_to _) 1 xi xt xs (Nat.lt_succ_self _) hbig.2.1 hbig.1 p9 q9 c9 d9 bl9 (ol + k * 4) w.heap.size wi hC.out.size (Nat.lt_of_lt_of_le hbl HI0.out.hb) x.c0 x.c1 x.s1 x.c2 x.c3 x.s3)
          have HBg := Lib.hid hbig.2.2
          have HE3 := Lib.hid (show Lf.goAsk st l ls sa b m = then2 (some (y.cat (.node 1 xi xt xs .nil), m1)) fun m => Lf.goAsk st r ls sa b m by
            rw [HG0.out]
            simp only [Lf.goAsk, if_pos]
            exact then2_at (f := fun m => some (Lf.node 1 xi xt xs .nil, m)) rfl)
          clear x hbig hk hin hAn hE hI hAt hF hXx hW0 HG0 x2 t2 t3 t4 t8 r0
          go_wp2_with fail
          refine HCp.out.mono ?_
          rintro e w1 ⟨qa, da, qb, db, rfl, hB1, hN1⟩
          obtain ⟨qv, cv, w3, hrun, hO3, hgr, hot⟩ := app_lf (k := 1) (t := xt) (d1 := da) (d2 := db) HIw.out.o HIw.out.hb hB1 hN1 HBg.out 23
          have hBA : Below wi.heap.size wi (w1.alloc (.cells #[.int .i64 1, .slice qa xi.length da, .bool xt, .slice qb xs.len db] 47 (0, 0))) := hB1.trans ((Below.refl _ w1).alloc hB1.size _)
          have hC2 : Ch g (Value.slice qy y.len cy).ownBlock wi w3 := (Ch.of _ hBA).trans (Ch.grown hgr HIw.out.ne) (.inl rfl)
          have hr3 : RwS w3 g st mp m1 := (HIw.out.r.later hBA HIw.out.r.lt).later ((Below.refl w.heap.size _).grown hgr (Nat.le_trans HIw.out.hb hBA.size) HIw.out.row) HIw.out.hg
          have HI3 := Lib.hid (show RwIn g w.heap.size mp m1 st (y.cat (.node 1 xi xt xs .nil)) (.slice qv (y.cat (.node 1 xi xt xs .nil)).len cv) r.wt w3 from HIw.out.after (W1 := 1 + xi.length + xs.wt) (R := some (.node 1 xi xt xs .nil, m1)) (fun x m' e => by simp only [Option.some.injEq, Prod.mk.injEq] at e; obtain ⟨rfl, rfl⟩ := e; simp only [Lf.wt]; omega) rfl (by omega) (by rw [show (y.cat (.node 1 xi xt xs .nil)).len = y.len + 1 by rw [Lf.cat_len]; rfl]; exact hO3) hr3 hC2 (by rw [show (y.cat (.node 1 xi xt xs .nil)).len = y.len + 1 by rw [Lf.cat_len]; rfl]; exact hot))
          have HC3 := Lib.hid (show Ch g none w w3 from Ch.inner hC.out hC2 (fun i e => (HIw.out.o.lt e).1))
          have HRn := Lib.hid hrun
          have Hln := Lib.hid (show y.len + 1 = (y.cat (.node 1 xi xt xs .nil)).len by rw [Lf.cat_len]; rfl)
          clear hrun hO3 hgr hot hBA hB1 hN1 HCp hC2 hr3 x0 HIw hC
          go_wp2_with (at_builtin; refine Lib.wpList_append_run _ rfl _ _ _ _ rfl _ _ rfl rfl _ _ HRn.out ?_)
          go_roundw
          case rel => exact ⟨k + 1, r, y.cat (.node 1 xi xt xs .nil), m1, qv, cv, by rw [← Hln.out], by go_num, by have := Hk.out; omega, HE3, HI3, Lib.hid HN.out.1, Lib.hid HN.out.2, HC3⟩
          case measure => simp [intOf]; omega
        · obtain ⟨rfl, lx, rfl, hshx⟩ := ask_two hF.out.1 hF.out.2.1 hx1
          have hwx : lx.wt < n := by have := hF.out.2.2; rw [hW0] at this; simp only [Ls.wt] at this; omega
          have hAtx : ∀ W, Ch g (Value.slice qy y.len cy).ownBlock wi W → (Lf.node 2 xi xt (.sub lx .nil) .nil).At W w.heap.size bl9 (ol + k * 4) := fun W hW => by
            obtain ⟨h0, h1, h2, h3, _⟩ := hAn W (hin W hW)
            exact Lf.At.le (Le.refl _) HI0.out.hb (.node 2 xi xt (.sub lx .nil) .nil) _ _ ⟨h0, h1, h2, h3, trivial⟩
          have hlsx : ∀ W, Ch g (Value.slice qy y.len cy).ownBlock wi W → Sl w.heap.size p ls.length (Plines W w.heap.size ls) := fun W hW => mono_plines ls p _ _ _ _ (HT.out W (hin W hW)).s2 (Le.refl _) HI0.out.hb
          have hsax : ∀ W, Ch g (Value.slice qy y.len cy).ownBlock wi W → sa.In W w.heap.size pt := fun W hW => mono_rcin sa pt _ _ _ _ (HA.out W (hin W hW)).2 (Le.refl _) HI0.out.hb
          cases xt with
          | true =>
            have hd := (Below.refl wi.heap.size wi).drew
            have hCd : Ch g (Value.slice qy y.len cy).ownBlock wi wi.drew := Ch.of _ hd
            have HK := Lib.hid (asking_any n HRL.out ls sa 2 xi true lx (b && r.len == 0) bl9 (ol + k * 4) g w.heap.size mp m1 st y (.slice qy y.len cy) wi.drew p pt c ct hwx ((HIw.out.later hd).less (by simp only [Ls.wt]; omega)) (fun W hW => hlsx W (hCd.trans hW (.inl rfl))) (fun W hW => hsax W (hCd.trans hW (.inl rfl))) (fun W hW => hAtx W (hCd.trans hW (.inl rfl))) (Nat.lt_of_lt_of_le hbl HI0.out.hb) HS.out.2.2.2.2.1 HS.out.2.2.2.2.2 HS.out.1 hshx)
            have HCd := Lib.hid hCd
            have HB := Lib.hid (show Bnd (1 + xi.length + (Ls.sub lx .nil).wt) m1 (askR st ls xi true m1 fun m => Ls.goFirst st (.sub lx .nil) sa (b && r.len == 0) m) from ask_bnd HS.out.2.2.2.2.2 (fun m1 => first_bnd st _ sa _ m1 HS.out.1))
            have HG := Lib.hid (show Lf.goAsk st l ls sa b m = then2 (some (y, m1)) (fun m => then2 (askR st ls xi true m fun m => Ls.goFirst st (.sub lx .nil) sa (b && r.len == 0) m) (fun m => Lf.goAsk st r ls sa b m)) by rw [HG0.out]; simp [Lf.goAsk])
            clear hk hd hCd hin hAn hE hI hAt hF hXx hW0 hAtx hlsx hsax hwx hshx hx1 HG0
            cases b with
            | false =>
              go_wp2_with fail
              refine wp_region_held_drew (S := (fun W => (W.cell? ⟨bt, ot + 2, none⟩ = some (.slice p ls.length c) ∧ W.cell? ⟨bt, ot + 3, none⟩ = some (.int .i64 (greatestL ls)) ∧ W.cell? ⟨bt, ot + 4, none⟩ = some (.int .i64 (linesW ls))) ∧ W.cell? ⟨bt, ot + 8, none⟩ = some (.slice (some ⟨bq, oq, none⟩) 1 d) ∧ W.cell? ⟨bq, oq, none⟩ = some (.slice pt sa.len ct) ∧ W.cell? ⟨bn, on + 3, none⟩ = some (.slice (some ⟨b2, o2, none⟩) 1 d1) ∧ W.cell? ⟨b2, o2, none⟩ = some (.slice (some ⟨bl9, ol, none⟩) l.len cl))) (by kernel_rfl) ?_ (fun hHeld => ?_)
              · exact ⟨⟨t2, t3, t4⟩, t8, r0, x3, s0⟩
              refine tk 0 ?_ rfl (.inl ⟨by rfl, ?_⟩) ?_
              rotate_left
              · (intro w hSw; (try dsimp only at hSw); go_simp; try with_reducible rfl)
              try simp only [Act.put, List.setIfInBounds_toArray, List.set_cons_zero, List.set_cons_succ]
              refine tk 1 ?_ rfl (.inl ⟨by rfl, ?_⟩) ?_
              rotate_left
              · (intro w hSw; (try dsimp only at hSw); go_simp; try with_reducible rfl)
              try simp only [Act.put, List.setIfInBounds_toArray, List.set_cons_zero, List.set_cons_succ]
              refine tk 2 ?_ rfl (.inl ⟨by rfl, ?_⟩) ?_
              rotate_left
              · (intro w hSw; (try dsimp only at hSw); go_simp; try with_reducible rfl)
              try simp only [Act.put, List.setIfInBounds_toArray, List.set_cons_zero, List.set_cons_succ]
              refine tk 3 ?_ rfl (.inl ⟨by rfl, ?_⟩) ?_
              rotate_left
              · (intro w hSw; (try dsimp only at hSw); go_simp; try with_reducible rfl)
              try simp only [Act.put, List.setIfInBounds_toArray, List.set_cons_zero, List.set_cons_succ]
              refine tk 4 ?_ rfl (.inl ⟨by rfl, ?_⟩) ?_
              rotate_left
              · (intro w hSw; (try dsimp only at hSw); go_simp; try with_reducible rfl)
              try simp only [Act.put, List.setIfInBounds_toArray, List.set_cons_zero, List.set_cons_succ]
              refine tk 5 ?_ rfl (.inl ⟨by rfl, ?_⟩) ?_
              rotate_left
              · (intro w hSw; (try dsimp only at hSw); go_simp; try with_reducible rfl)
              try simp only [Act.put, List.setIfInBounds_toArray, List.set_cons_zero, List.set_cons_succ]
              refine tk 6 ?_ rfl (.inl ⟨by rfl, ?_⟩) ?_
              rotate_left
              · (intro w hSw; (try dsimp only at hSw); go_simp; try with_reducible rfl)
              try simp only [Act.put, List.setIfInBounds_toArray, List.set_cons_zero, List.set_cons_succ]
              refine tk 7 ?_ rfl (.inl ⟨by rfl, ?_⟩) ?_
              rotate_left
              · (intro w hSw; (try dsimp only at hSw); go_simp; try with_reducible rfl)
              try simp only [Act.put, List.setIfInBounds_toArray, List.set_cons_zero, List.set_cons_succ]
              refine tk 8 ?_ rfl (.inl ⟨by rfl, ?_⟩) ?_
              rotate_left
              · (intro w hSw; (try dsimp only at hSw); go_simp; try with_reducible rfl)
              try simp only [Act.put, List.setIfInBounds_toArray, List.set_cons_zero, List.set_cons_succ]
              refine tk 9 ?_ rfl (.inl ⟨by rfl, ?_⟩) ?_
              rotate_left
              · (intro w hSw; (try dsimp only at hSw); go_simp; try with_reducible rfl)
              try simp only [Act.put, List.setIfInBounds_toArray, List.set_cons_zero, List.set_cons_succ]
              refine tk 10 ?_ rfl (.inl ⟨by rfl, ?_⟩) ?_
              rotate_left
              · (intro w hSw; (try dsimp only at hSw); go_simp; try with_reducible rfl)
              try simp only [Act.put, List.setIfInBounds_toArray, List.set_cons_zero, List.set_cons_succ]
              refine tk 11 ?_ rfl (.inl ⟨by rfl, ?_⟩) ?_
              rotate_left
              · (intro w hSw; (try dsimp only at hSw); go_simp; try with_reducible rfl)
              try simp only [Act.put, List.setIfInBounds_toArray, List.set_cons_zero, List.set_cons_succ]
              refine tk 12 ?_ rfl (.inl ⟨by rfl, ?_⟩) ?_
              rotate_left
              · (intro w hSw; (try dsimp only at hSw); go_simp; try with_reducible rfl)
              try simp only [Act.put, List.setIfInBounds_toArray, List.set_cons_zero, List.set_cons_succ]
              refine tk 13 ?_ rfl (.inl ⟨by rfl, ?_⟩) ?_
              rotate_left
              · (intro w hSw; (try dsimp only at hSw); go_simp; try with_reducible rfl)
              try simp only [Act.put, List.setIfInBounds_toArray, List.set_cons_zero, List.set_cons_succ]
              refine tk 14 ?_ rfl (.inl ⟨by rfl, ?_⟩) ?_
              rotate_left
              · (intro w hSw; (try dsimp only at hSw); go_simp; try with_reducible rfl)
              try simp only [Act.put, List.setIfInBounds_toArray, List.set_cons_zero, List.set_cons_succ]
              refine tk 15 undef rfl (.inr ⟨by rfl, rfl⟩) ?_
              try simp only [Act.put, List.setIfInBounds_toArray, List.set_cons_zero, List.set_cons_succ]
              refine tk 16 undef rfl (.inr ⟨by rfl, rfl⟩) ?_
              try simp only [Act.put, List.setIfInBounds_toArray, List.set_cons_zero, List.set_cons_succ]
              refine tk 17 undef rfl (.inr ⟨by rfl, rfl⟩) ?_
              try simp only [Act.put, List.setIfInBounds_toArray, List.set_cons_zero, List.set_cons_succ]
              refine tk 18 undef rfl (.inr ⟨by rfl, rfl⟩) ?_
              try simp only [Act.put, List.setIfInBounds_toArray, List.set_cons_zero, List.set_cons_succ]
              refine tk 19 undef rfl (.inr ⟨by rfl, rfl⟩) ?_
              try simp only [Act.put, List.setIfInBounds_toArray, List.set_cons_zero, List.set_cons_succ]
              refine tk 20 undef rfl (.inr ⟨by rfl, rfl⟩) ?_
              try simp only [Act.put, List.setIfInBounds_toArray, List.set_cons_zero, List.set_cons_succ]
              refine tk 21 undef rfl (.inr ⟨by rfl, rfl⟩) ?_
              try simp only [Act.put, List.setIfInBounds_toArray, List.set_cons_zero, List.set_cons_succ]
              refine tk 22 undef rfl (.inr ⟨by rfl, rfl⟩) ?_
              try simp only [Act.put, List.setIfInBounds_toArray, List.set_cons_zero, List.set_cons_succ]
              refine tk 23 undef rfl (.inr ⟨by rfl, rfl⟩) ?_
              try simp only [Act.put, List.setIfInBounds_toArray, List.set_cons_zero, List.set_cons_succ]
              refine tk 24 undef rfl (.inr ⟨by rfl, rfl⟩) ?_
              try simp only [Act.put, List.setIfInBounds_toArray, List.set_cons_zero, List.set_cons_succ]
              refine tk 25 ?_ rfl (.inl ⟨by rfl, ?_⟩) ?_
              rotate_left
              · (intro w hSw; (try dsimp only at hSw); go_simp; try with_reducible rfl)
              try simp only [Act.put, List.setIfInBounds_toArray, List.set_cons_zero, List.set_cons_succ]
              refine wpAnyH_ready (rs := [26]) (by kernel_rfl) (by simp) ?_
              refine rdy rfl (fun K hK => ?_) AllReadyH.nil
              go_simp
              refine HK.out.mono ?_
              rintro e w2 hE2
              rcases (hE2.later HCd.out).steps with ⟨rfl, hR, hC2⟩ | ⟨q2, n2, c2, x, m2, rfl, hR, hO, hr, hC2, hT2⟩
              · refine ⟨rfl, ?_⟩
                rw [HE.out, show Lf.goAsk st l ls sa false m = none by rw [HG.out]; exact then2_no hR]
                exact ⟨rfl, (hC.out.inner hC2.out (fun i e => (HIw.out.o.lt e).1)).none⟩
              refine hK.out _ _ ?_ (fun hHeld => ?_)
              · exact HKp.out w2 (hC.out.inner hC2.out (fun i e => (HIw.out.o.lt e).1))
              clear hK K
              try simp only [Act.put, List.setIfInBounds_toArray, List.set_cons_zero, List.set_cons_succ]
              refine tk 27 ?_ rfl (.inl ⟨by rfl, ?_⟩) ?_
              rotate_left
              · (intro w hSw; (try dsimp only at hSw); go_simp; try with_reducible rfl)
              try simp only [Act.put, List.setIfInBounds_toArray, List.set_cons_zero, List.set_cons_succ]
              refine wpAnyH_done (by kernel_rfl) ?_ _
              have HE3 := Lib.hid (show Lf.goAsk st l ls sa false m = then2 (some (y.cat x, m2)) fun m => Lf.goAsk st r ls sa false m by rw [HG.out]; exact then2_at hR.out)
              have HI3 := Lib.hid (HIw.out.after (W' := r.wt) HB.out hR.out (by omega) hO.out hr.out hC2.out hT2.out)
              have HC3 := Lib.hid (show Ch g none w w2 from hC.out.inner hC2.out (fun i e => (HIw.out.o.lt e).1))
              have hfm : n2 = (y.cat x).len := by
                obtain ⟨q9, c9, h9, _⟩ := OutG.form hO.out
                simpa using (show n2 = _ ∧ _ from by simpa using (Value.slice.inj h9).2).1
              subst hfm
              clear hE2 HK hR hO hr hC2 hT2 HIw HB HG hC HCd x0 x2 t2 t3 t4 t8 r0 x3 s0 hHeld
              go_wp2_with fail
              go_roundw
              case rel => exact ⟨k + 1, r, y.cat x, m2, q2, c2, rfl, by go_num, by have := Hk.out; omega, HE3, HI3, Lib.hid HN.out.1, Lib.hid HN.out.2, HC3⟩
              case measure => simp [intOf]; omega
            | true =>
              have Hq := Lib.hid (show (true && r.len == 0) = ((k : Int) == IntKind.i64.wrap ((l.len : Int) - 1)) by
                have hw : IntKind.i64.wrap ((l.len : Int) - 1) = (l.len : Int) - 1 := by simp [IntKind.wrap, IntKind.bits, IntKind.signed]; omega
                rw [hw, Bool.true_and, Bool.eq_iff_iff, beq_iff_eq, beq_iff_eq]; have := Hk.out; omega)
              rw [Hq.out] at HK
              go_wp2_with fail
              refine wp_region_held_drew (S := (fun W => (W.cell? ⟨bt, ot + 2, none⟩ = some (.slice p ls.length c) ∧ W.cell? ⟨bt, ot + 3, none⟩ = some (.int .i64 (greatestL ls)) ∧ W.cell? ⟨bt, ot + 4, none⟩ = some (.int .i64 (linesW ls))) ∧ W.cell? ⟨bt, ot + 8, none⟩ = some (.slice (some ⟨bq, oq, none⟩) 1 d) ∧ W.cell? ⟨bq, oq, none⟩ = some (.slice pt sa.len ct) ∧ W.cell? ⟨bn, on + 3, none⟩ = some (.slice (some ⟨b2, o2, none⟩) 1 d1) ∧ W.cell? ⟨b2, o2, none⟩ = some (.slice (some ⟨bl9, ol, none⟩) l.len cl))) (by kernel_rfl) ?_ (fun hHeld => ?_)
              · exact ⟨⟨t2, t3, t4⟩, t8, r0, x3, s0⟩
              refine tk 0 ?_ rfl (.inl ⟨by rfl, ?_⟩) ?_
              rotate_left
              · (intro w hSw; (try dsimp only at hSw); go_simp; try with_reducible rfl)
              try simp only [Act.put, List.setIfInBounds_toArray, List.set_cons_zero, List.set_cons_succ]
              refine tk 1 ?_ rfl (.inl ⟨by rfl, ?_⟩) ?_
              rotate_left
              · (intro w hSw; (try dsimp only at hSw); go_simp; try with_reducible rfl)
              try simp only [Act.put, List.setIfInBounds_toArray, List.set_cons_zero, List.set_cons_succ]
              refine tk 2 ?_ rfl (.inl ⟨by rfl, ?_⟩) ?_
              rotate_left
              · (intro w hSw; (try dsimp only at hSw); go_simp; try with_reducible rfl)
              try simp only [Act.put, List.setIfInBounds_toArray, List.set_cons_zero, List.set_cons_succ]
              refine tk 3 ?_ rfl (.inl ⟨by rfl, ?_⟩) ?_
              rotate_left
              · (intro w hSw; (try dsimp only at hSw); go_simp; try with_reducible rfl)
              try simp only [Act.put, List.setIfInBounds_toArray, List.set_cons_zero, List.set_cons_succ]
              refine tk 4 ?_ rfl (.inl ⟨by rfl, ?_⟩) ?_
              rotate_left
              · (intro w hSw; (try dsimp only at hSw); go_simp; try with_reducible rfl)
              try simp only [Act.put, List.setIfInBounds_toArray, List.set_cons_zero, List.set_cons_succ]
              refine tk 5 ?_ rfl (.inl ⟨by rfl, ?_⟩) ?_
              rotate_left
              · (intro w hSw; (try dsimp only at hSw); go_simp; try with_reducible rfl)
              try simp only [Act.put, List.setIfInBounds_toArray, List.set_cons_zero, List.set_cons_succ]
              refine tk 6 ?_ rfl (.inl ⟨by rfl, ?_⟩) ?_
              rotate_left
              · (intro w hSw; (try dsimp only at hSw); go_simp; try with_reducible rfl)
              try simp only [Act.put, List.setIfInBounds_toArray, List.set_cons_zero, List.set_cons_succ]
              refine tk 7 ?_ rfl (.inl ⟨by rfl, ?_⟩) ?_
              rotate_left
              · (intro w hSw; (try dsimp only at hSw); go_simp; try with_reducible rfl)
              try simp only [Act.put, List.setIfInBounds_toArray, List.set_cons_zero, List.set_cons_succ]
              refine tk 8 ?_ rfl (.inl ⟨by rfl, ?_⟩) ?_
              rotate_left
              · (intro w hSw; (try dsimp only at hSw); go_simp; try with_reducible rfl)
              try simp only [Act.put, List.setIfInBounds_toArray, List.set_cons_zero, List.set_cons_succ]
              refine tk 9 ?_ rfl (.inl ⟨by rfl, ?_⟩) ?_
              rotate_left
              · (intro w hSw; (try dsimp only at hSw); go_simp; try with_reducible rfl)
              try simp only [Act.put, List.setIfInBounds_toArray, List.set_cons_zero, List.set_cons_succ]
              refine tk 10 ?_ rfl (.inl ⟨by rfl, ?_⟩) ?_
              rotate_left
              · (intro w hSw; (try dsimp only at hSw); go_simp; try with_reducible rfl)
              try simp only [Act.put, List.setIfInBounds_toArray, List.set_cons_zero, List.set_cons_succ]
              refine tk 11 ?_ rfl (.inl ⟨by rfl, ?_⟩) ?_
              rotate_left
              · (intro w hSw; (try dsimp only at hSw); go_simp; try with_reducible rfl)
              try simp only [Act.put, List.setIfInBounds_toArray, List.set_cons_zero, List.set_cons_succ]
              refine tk 12 ?_ rfl (.inl ⟨by rfl, ?_⟩) ?_
              rotate_left
              · (intro w hSw; (try dsimp only at hSw); go_simp; try with_reducible rfl)
              try simp only [Act.put, List.setIfInBounds_toArray, List.set_cons_zero, List.set_cons_succ]
              refine tk 13 ?_ rfl (.inl ⟨by rfl, ?_⟩) ?_
              rotate_left
              · (intro w hSw; (try dsimp only at hSw); go_simp; try with_reducible rfl)
              try simp only [Act.put, List.setIfInBounds_toArray, List.set_cons_zero, List.set_cons_succ]
              refine tk 14 ?_ rfl (.inl ⟨by rfl, ?_⟩) ?_
              rotate_left
              · (intro w hSw; (try dsimp only at hSw); go_simp; try with_reducible rfl)
              try simp only [Act.put, List.setIfInBounds_toArray, List.set_cons_zero, List.set_cons_succ]
              refine tk 15 ?_ rfl (.inl ⟨by rfl, ?_⟩) ?_
              rotate_left
              · (intro w hSw; (try dsimp only at hSw); go_simp; try with_reducible rfl)
              try simp only [Act.put, List.setIfInBounds_toArray, List.set_cons_zero, List.set_cons_succ]
              refine tk 16 ?_ rfl (.inl ⟨by rfl, ?_⟩) ?_
              rotate_left
              · (intro w hSw; (try dsimp only at hSw); go_simp; try with_reducible rfl)
              try simp only [Act.put, List.setIfInBounds_toArray, List.set_cons_zero, List.set_cons_succ]
              refine tk 17 ?_ rfl (.inl ⟨by rfl, ?_⟩) ?_
              rotate_left
              · (intro w hSw; (try dsimp only at hSw); go_simp; try with_reducible rfl)
              try simp only [Act.put, List.setIfInBounds_toArray, List.set_cons_zero, List.set_cons_succ]
              refine tk 18 ?_ rfl (.inl ⟨by rfl, ?_⟩) ?_
              rotate_left
              · (intro w hSw; (try dsimp only at hSw); go_simp; try with_reducible rfl)
              try simp only [Act.put, List.setIfInBounds_toArray, List.set_cons_zero, List.set_cons_succ]
              refine tk 19 ?_ rfl (.inl ⟨by rfl, ?_⟩) ?_
              rotate_left
              · (intro w hSw; (try dsimp only at hSw); go_simp; try with_reducible rfl)
              try simp only [Act.put, List.setIfInBounds_toArray, List.set_cons_zero, List.set_cons_succ]
              refine tk 20 ?_ rfl (.inl ⟨by rfl, ?_⟩) ?_
              rotate_left
              · (intro w hSw; (try dsimp only at hSw); go_simp; try with_reducible rfl)
              try simp only [Act.put, List.setIfInBounds_toArray, List.set_cons_zero, List.set_cons_succ]
              refine tk 21 ?_ rfl (.inl ⟨by rfl, ?_⟩) ?_
              rotate_left
              · (intro w hSw; (try dsimp only at hSw); go_simp; try with_reducible rfl)
              try simp only [Act.put, List.setIfInBounds_toArray, List.set_cons_zero, List.set_cons_succ]
              refine tk 22 ?_ rfl (.inl ⟨by rfl, ?_⟩) ?_
              rotate_left
              · (intro w hSw; (try dsimp only at hSw); go_simp; try with_reducible rfl)
              try simp only [Act.put, List.setIfInBounds_toArray, List.set_cons_zero, List.set_cons_succ]
              refine tk 23 ?_ rfl (.inl ⟨by rfl, ?_⟩) ?_
              rotate_left
              · (intro w hSw; (try dsimp only at hSw); go_simp; try with_reducible rfl)
              try simp only [Act.put, List.setIfInBounds_toArray, List.set_cons_zero, List.set_cons_succ]
              refine tk 24 ?_ rfl (.inl ⟨by rfl, ?_⟩) ?_
              rotate_left
              · (intro w hSw; (try dsimp only at hSw); go_simp; try with_reducible rfl)
              try simp only [Act.put, List.setIfInBounds_toArray, List.set_cons_zero, List.set_cons_succ]
              refine tk 25 ?_ rfl (.inl ⟨by rfl, ?_⟩) ?_
              rotate_left
              · (intro w hSw; (try dsimp only at hSw); go_simp; try with_reducible rfl)
              try simp only [Act.put, List.setIfInBounds_toArray, List.set_cons_zero, List.set_cons_succ]
              refine wpAnyH_ready (rs := [26]) (by kernel_rfl) (by simp) ?_
              refine rdy rfl (fun K hK => ?_) AllReadyH.nil
              go_simp
              refine HK.out.mono ?_
              rintro e w2 hE2
              rw [← Hq.out] at hE2
              rcases (hE2.later HCd.out).steps with ⟨rfl, hR, hC2⟩ | ⟨q2, n2, c2, x, m2, rfl, hR, hO, hr, hC2, hT2⟩
              · refine ⟨rfl, ?_⟩
                rw [HE.out, show Lf.goAsk st l ls sa true m = none by rw [HG.out]; exact then2_no hR]
                exact ⟨rfl, (hC.out.inner hC2.out (fun i e => (HIw.out.o.lt e).1)).none⟩
              refine hK.out _ _ ?_ (fun hHeld => ?_)
              · exact HKp.out w2 (hC.out.inner hC2.out (fun i e => (HIw.out.o.lt e).1))
              clear hK K
              try simp only [Act.put, List.setIfInBounds_toArray, List.set_cons_zero, List.set_cons_succ]
              refine tk 27 ?_ rfl (.inl ⟨by rfl, ?_⟩) ?_
              rotate_left
              · (intro w hSw; (try dsimp only at hSw); go_simp; try with_reducible rfl)
              try simp only [Act.put, List.setIfInBounds_toArray, List.set_cons_zero, List.set_cons_succ]
              refine wpAnyH_done (by kernel_rfl) ?_ _
              have HE3 := Lib.hid (show Lf.goAsk st l ls sa true m = then2 (some (y.cat x, m2)) fun m => Lf.goAsk st r ls sa true m by rw [HG.out]; exact then2_at hR.out)
              have HI3 := Lib.hid (HIw.out.after (W' := r.wt) HB.out hR.out (by omega) hO.out hr.out hC2.out hT2.out)
              have HC3 := Lib.hid (show Ch g none w w2 from hC.out.inner hC2.out (fun i e => (HIw.out.o.lt e).1))
              have hfm : n2 = (y.cat x).len := by
                obtain ⟨q9, c9, h9, _⟩ := OutG.form hO.out
                simpa using (show n2 = _ ∧ _ from by simpa using (Value.slice.inj h9).2).1
              subst hfm
              clear hE2 HK hR hO hr hC2 hT2 HIw HB HG hC HCd x0 x2 t2 t3 t4 t8 r0 x3 s0 hHeld
              go_wp2_with fail
              go_roundw
              case rel => exact ⟨k + 1, r, y.cat x, m2, q2, c2, rfl, by go_num, by have := Hk.out; omega, HE3, HI3, Lib.hid HN.out.1, Lib.hid HN.out.2, HC3⟩
              case measure => simp [intOf]; omega
          | false =>
            have HK := Lib.hid (asking_any n HRL.out ls .nil 2 xi false lx false bl9 (ol + k * 4) g w.heap.size mp m1 st y (.slice qy y.len cy) wi p none c 0 hwx (HIw.out.less (by simp only [Ls.wt]; omega)) hlsx (fun W hW => ⟨Nat.zero_le _, .inl rfl⟩) hAtx (Nat.lt_of_lt_of_le hbl HI0.out.hb) HS.out.2.2.2.2.1 HS.out.2.2.2.2.2 trivial hshx)
            have HCd := Lib.hid (Ch.refl g (Value.slice qy y.len cy).ownBlock wi)
            have HB := Lib.hid (show Bnd (1 + xi.length + (Ls.sub lx .nil).wt) m1 (askR st ls xi false m1 fun m => Ls.goFirst st (.sub lx .nil) .nil false m) from ask_bnd HS.out.2.2.2.2.2 (fun m1 => first_bnd st _ .nil _ m1 trivial))
            have HG := Lib.hid (show Lf.goAsk st l ls sa b m = then2 (some (y, m1)) (fun m => then2 (askR st ls xi false m fun m => Ls.goFirst st (.sub lx .nil) .nil false m) (fun m => Lf.goAsk st r ls sa b m)) by rw [HG0.out]; simp [Lf.goAsk])
            clear hk hin hAn hE hI hAt hF hXx hW0 hAtx hlsx hsax hwx hshx hx1 HG0
            go_wp2_with fail
            refine HK.out.mono ?_
            rintro e w2 hE2
            rcases (hE2.later HCd.out).steps with ⟨rfl, hR, hC2⟩ | ⟨q2, n2, c2, x, m2, rfl, hR, hO, hr, hC2, hT2⟩
            · refine ⟨rfl, ?_⟩
              rw [HE.out, show Lf.goAsk st l ls sa b m = none by rw [HG.out]; exact then2_no hR]
              exact ⟨rfl, (hC.out.inner hC2.out (fun i e => (HIw.out.o.lt e).1)).none⟩
            have HE3 := Lib.hid (show Lf.goAsk st l ls sa b m = then2 (some (y.cat x, m2)) fun m => Lf.goAsk st r ls sa b m by rw [HG.out]; exact then2_at hR.out)
            have HI3 := Lib.hid (HIw.out.after (W' := r.wt) HB.out hR.out (by omega) hO.out hr.out hC2.out hT2.out)
            have HC3 := Lib.hid (show Ch g none w w2 from hC.out.inner hC2.out (fun i e => (HIw.out.o.lt e).1))
            have hfm : n2 = (y.cat x).len := by
              obtain ⟨q9, c9, h9, _⟩ := OutG.form hO.out
              simpa using (show n2 = _ ∧ _ from by simpa using (Value.slice.inj h9).2).1
            subst hfm
            clear hE2 HK hR hO hr hC2 hT2 HIw HB HG hC HCd x0 x2 t2 t3 t4 t8 r0 x3 s0
            go_wp2_with fail
            go_roundw
            case rel => exact ⟨k + 1, r, y.cat x, m2, q2, c2, rfl, by go_num, by have := Hk.out; omega, HE3, HI3, Lib.hid HN.out.1, Lib.hid HN.out.2, HC3⟩
            case measure => simp [intOf]; omega
  · have hk2 : (xk == 3) = false := by simpa using hk
    have HE := Lib.hid (show oneR st xk xi xt xs 5 t ls bl subs b m = none by simp [oneR, hk])
    obtain ⟨p1, q1, c1, d1, hX⟩ := xfix_of hn.hx hn.hbn hi.hb hi.row
    have x0 := (hX w (Ch.refl _ _ _)).c0
    clear hi hn hX
    go_enter Try.func40, Try.ntmps40
    go_wp2_with fail
    refine (must_false w).mono ?_
    rintro e w1 ⟨rfl, rfl⟩
    refine ⟨rfl, ?_⟩
    rw [HE.out]
    exact ⟨rfl, Ch.refl _ _ _⟩
end Go.Proofs.Ytcadeeldogknmaa
