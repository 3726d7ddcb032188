/- Deeds: rounds. -/
import Derived.Test.YtcadeeldogknmaaZG
import Derived.Test.YtcadeeldogknmaaVK
namespace Go.Proofs.Ytcadeeldogknmaa
open Go.RowKit

theorem goRounds_nil (st : Int) (t : Rs) (br : Bool) (m : Nat) : Ls.goRounds st .nil t br m = some (.nil, m) := by rw [Ls.goRounds]
theorem goRounds_sub (st : Int) (l : Lf) (r : Ls) (t : Rc) (tr : Rs) (br : Bool) (m : Nat) : Ls.goRounds st (.sub l r) (.sub t tr) br m = then2 (if asMany t.len l.len (br && r.len == 0) = true then Lf.go st l t (br && r.len == 0) m else none) fun m => Ls.goRounds st r tr br m := by rw [Ls.goRounds]
theorem NodeIn.four {g base : Nat} {row : Option Nat} {w : World} {k : Int} {t : Bool} {ls bl : List (List Pk)} {subs : Rs} {bt ot : Nat} {xk : Int} {xi : List Int} {xt : Bool} {xs : Ls} {bn on : Nat} (h : NodeIn g base row w k t ls bl subs bt ot xk xi xt xs bn on) : xs.shaped = true := by
  have := h.shaped
  simp only [Lf.shaped, Bool.and_eq_true] at this
  exact this.1.2
theorem RwIn.less {g base mp m W W' : Nat} {st : Int} {a : Lf} {v : Value} {w : World} (h : RwIn g base mp m st a v W w) (hW : W' ≤ W) : RwIn g base mp m st a v W' w :=
  h.next h.r h.o (Ch.refl _ _ _) (OwnTo.refl _ _) (by have := h.hm; omega) (by have := h.ha; omega) hW
/-- lists, side by side: where they start -/
theorem starts {g base : Nat} {row : Option Nat} {w : World} {xs : Ls} {q1 : Option Addr} (hX : ∀ W, Ch g row w W → xs.In W base q1) : ∃ bx ox, (0 < xs.len → q1 = some ⟨bx, ox, none⟩ ∧ bx < base) ∧ ∀ W, Ch g row w W → xs.len = 0 ∨ xs.At W base bx ox := by
  by_cases h0 : xs.len = 0
  · exact ⟨0, 0, fun h => by omega, fun _ _ => .inl h0⟩
  · rcases (hX w (Ch.refl _ _ _)).2 with e | ⟨b1, o1, rfl, hb1, _⟩
    · omega
    refine ⟨b1, o1, fun _ => ⟨rfl, hb1⟩, fun W hW => .inr ?_⟩
    rcases (hX W hW).2 with e | ⟨b, o, e, _, h⟩
    · omega
    · cases e; exact h
theorem starts_rs {g base : Nat} {row : Option Nat} {w : World} {xs : Rs} {q1 : Option Addr} (hX : ∀ W, Ch g row w W → xs.In W base q1) : ∃ bx ox, (0 < xs.len → q1 = some ⟨bx, ox, none⟩ ∧ bx < base) ∧ ∀ W, Ch g row w W → xs.len = 0 ∨ xs.At W base bx ox := by
  by_cases h0 : xs.len = 0
  · exact ⟨0, 0, fun h => by omega, fun _ _ => .inl h0⟩
  · rcases (hX w (Ch.refl _ _ _)).2 with e | ⟨b1, o1, rfl, hb1, _⟩
    · omega
    refine ⟨b1, o1, fun _ => ⟨rfl, hb1⟩, fun W hW => .inr ?_⟩
    rcases (hX W hW).2 with e | ⟨b, o, e, _, h⟩
    · omega
    · cases e; exact h
set_option maxRecDepth 100000 in
set_option maxHeartbeats 6400000 in
theorem deed_rounds (n : Nat) (hRL : RL n) : DeedOk n 6 41 := by
  intro xk xi xt xs t ls bl subs b bt ot bn on g base mp m st a v w hwt hi hn
  by_cases hk : xk = 4
  · subst hk
    obtain ⟨p, p', q, c, c', d, gi, sz, hbl, hT⟩ := hn.tfix hi.hb hi.row
    obtain ⟨p1, q1, c1, d1, hX⟩ := xfix_of hn.hx hn.hbn hi.hb hi.row
    have t8 := (hT w (Ch.refl _ _ _)).c8
    have x0 := (hX w (Ch.refl _ _ _)).c0
    have x3 := (hX w (Ch.refl _ _ _)).c3
    by_cases hm : asMany subs.len xs.len b = true
    · have HM := Lib.hid (show Calls Try.prog 46 #[.int .i64 subs.len, .int .i64 xs.len, .bool b] w.drew fun e w' => e = .returned (.tuple #[]) ∧ w.drew = w' by
        have := asMany_any subs.len xs.len b w.drew
        rw [if_pos hm] at this
        exact this)
      have hle : xs.len ≤ subs.len := by
        unfold asMany at hm
        simp at hm
        omega
      have HE := Lib.hid (show oneR st 4 xi xt xs 6 t ls bl subs b m = Ls.goRounds st xs subs b m by simp [oneR, hm])
      obtain ⟨bx, ox, hpx, hAx⟩ := starts (fun W hW => (hX W hW).s3)
      obtain ⟨bq, oq, hpq, hAq⟩ := starts_rs (fun W hW => (hT W hW).s8)
      have hxl : xs.len ≤ 140737488355328 := (hX w (Ch.refl _ _ _)).s3.1
      have hsl : subs.len ≤ 140737488355328 := (hT w (Ch.refl _ _ _)).s8.1
      have hd := (Below.refl w.heap.size w).drew
      have HI := Lib.hid ((hi.later hd).less (W' := xs.wt) (by omega))
      have HT := Lib.hid (fun W hW => (hT W hW).c8)
      have HX := Lib.hid (fun W hW => (hX W hW).c3)
      have HA := Lib.hid (fun W hW => And.intro (hAx W hW) (hAq W hW))
      have Hp := Lib.hid (And.intro hpx hpq)
      have HS := Lib.hid (And.intro hn.fine.2.1 (And.intro hn.four hwt))
      have HC0 := Lib.hid (Ch.of (g := g) v.ownBlock hd)
      have Hle := Lib.hid hle
      have HRL := Lib.hid hRL
      have HB0 := Lib.hid hi.hb
      clear hi hn hwt hm hAx hAq hpx hpq hle hd hX hT hbl hRL
      go_enter Try.func41, Try.ntmps41
      go_wp2_with fail
      refine (must_true w).mono ?_
      rintro e w1 ⟨rfl, rfl⟩
      go_wp2_with fail
      go_still_tail 11, (by kernel_rfl)
      change wpList _ _ _ _ _ (World.drew _)
      go_wp2_with fail
      refine HM.out.mono ?_
      rintro e w1 ⟨rfl, rfl⟩
      clear HM
      go_wp2_with fail
      generalize hwd : w.drew = wd at HI HC0 ⊢
      clear hwd
      clear t8 x0 x3
      go_loopw [1, 36] (fun u1 i wr => ∃ (k : Nat) (rs : Ls) (rt : Rs) (y : Lf) (m1 : Nat), i = .int .i64 k ∧ k + rs.len = xs.len ∧ k + rt.len = subs.len ∧ Hid (Ls.goRounds st xs subs b m = then2 (some (y, m1)) fun m => Ls.goRounds st rs rt b m) ∧ Hid (RwIn g base mp m1 st (a.cat y) u1 rs.wt wr) ∧ Hid (∀ W, Ch g v.ownBlock w W → rs.len = 0 ∨ (rs.At W base bx (ox + k) ∧ rt.At W base bq (oq + k))) ∧ Hid (rt.fine ∧ rs.shaped = true ∧ rs.wt < n ∧ rs.len ≤ rt.len) ∧ Hid (Ch g v.ownBlock w wr ∧ OwnTo w v u1)) (fun _ i _ => xs.len - (intOf i).toNat)
      case atStart =>
        refine ⟨0, xs, subs, .nil, m, rfl, by simp, by simp, Lib.hid ?_, by rw [Lf.cat_nil]; exact HI, Lib.hid fun W hW => ?_, Lib.hid ⟨HS.out.1, HS.out.2.1, HS.out.2.2, Hle.out⟩, Lib.hid ⟨HC0.out, OwnTo.refl _ _⟩⟩
        · simp only [then2]
          cases Ls.goRounds st xs subs b m with
          | none => rfl
          | some x => obtain ⟨x, m'⟩ := x; rfl
        · rcases (HA.out W hW).1 with e | e
          · exact .inl e
          · rcases (HA.out W hW).2 with e2 | e2
            · exact .inl (by have := Hle.out; omega)
            · exact .inr ⟨e, e2⟩
      case round =>
        obtain ⟨k, rs, rt, y, m1, rfl, hk, hk2, hE, hI, hA, hF, hC⟩ := hrel
        obtain ⟨wi, rfl⟩ : ∃ wi : World, wi = wr := ⟨_, rfl⟩
        cases rs with
        | nil =>
          simp only [Ls.len, Nat.add_zero] at hk
          have hge : ¬ k < xs.len := by omega
          have HZ := Lib.hid (show Ls.goRounds st xs subs b m = some (y, m1) by rw [hE.out]; simp only [then2, goRounds_nil, Lf.cat_nil])
          clear hE hA hF
          go_wp2_with fail
          go_ret
          rw [HE.out, HZ.out]
          exact ⟨u1, rfl, hI.out.o, hI.out.r, hC.out.1, hC.out.2⟩
        | sub l r =>
          cases rt with
          | nil => exfalso; have := hF.out.2.2.2; simp [Ls.len, Rs.len] at this
          | sub tt tr =>
          simp only [Ls.len, Rs.len] at hk hk2
          have hlt : k < xs.len := by omega
          have hlt2 : k < subs.len := by omega
          obtain ⟨rfl, hbx⟩ := Hp.out.1 (by omega)
          obtain ⟨rfl, hbq⟩ := Hp.out.2 (by omega)
          have hAn : ∀ W, Ch g v.ownBlock w W → (Ls.sub l r).At W base bx (ox + k) ∧ (Rs.sub tt tr).At W base bq (oq + k) := fun W hW => by
            rcases hA.out W hW with e | e
            · simp [Ls.len] at e
            · exact e
          have hd := (Below.refl wi.heap.size wi).drew
          have hCd : Ch g u1.ownBlock wi wi.drew := Ch.of _ hd
          have hgo0 : ∀ W, Ch g u1.ownBlock wi W → Ch g v.ownBlock w W := fun W hW => hC.out.1.trans hW hC.out.2
          have hgo : ∀ W, Ch g u1.ownBlock wi.drew W → Ch g v.ownBlock w W := fun W hW => hgo0 W (hCd.trans hW (.inl rfl))
          obtain ⟨pl, cl, hl⟩ := fix_sl (b := bx) (o := ox + k) (n := l.len) (A := fun W p => l.In W base p) hbx hI.out.hb hI.out.row (fun W hW => (hAn W (hgo0 W hW)).1.1)
          obtain ⟨pt, ct, ht⟩ := fix_sl (b := bq) (o := oq + k) (n := tt.len) (A := fun W p => tt.In W base p) hbq hI.out.hb hI.out.row (fun W hW => (hAn W (hgo0 W hW)).2.1)
          have hW0 : (Ls.sub l r).wt = 1 + l.wt + r.wt := by rw [Ls.wt]
          have hwl : l.wt < n := by have := hF.out.2.2.1; rw [hW0] at this; omega
          have hsh1 : l.shaped = true ∧ r.shaped = true := by
            have := hF.out.2.1
            simpa only [Ls.shaped, Bool.and_eq_true] using this
          have HIw := Lib.hid (show RwIn g base mp m1 st (a.cat y) u1 (l.wt + r.wt) wi by
            have := hI.out
            rw [hW0] at this
            exact this.less (by omega))
          have HK := Lib.hid (HRL.out l hwl tt pt pl ct cl (b && r.len == 0) g base mp m1 st (a.cat y) u1 wi.drew ((HIw.out.later hd).less (by omega)) (fun W hW => (ht W (hCd.trans hW (.inl rfl))).2) (fun W hW => (hl W (hCd.trans hW (.inl rfl))).2) hF.out.1.1 hsh1.1)
          have HCd := Lib.hid hCd
          have HB := Lib.hid (rw_bnd (br := b && r.len == 0) (go_bnd st l tt (b && r.len == 0) m1 hF.out.1.1))
          have HG := Lib.hid (show Ls.goRounds st xs subs b m = then2 (some (y, m1)) (fun m => then2 (if asMany tt.len l.len (b && r.len == 0) = true then Lf.go st l tt (b && r.len == 0) m else none) (fun m => Ls.goRounds st r tr b m)) by rw [hE.out]; simp only [goRounds_sub])
          have HN := Lib.hid (show (∀ W, Ch g v.ownBlock w W → r.len = 0 ∨ (r.At W base bx (ox + (k + 1)) ∧ tr.At W base bq (oq + (k + 1)))) ∧ tr.fine ∧ r.shaped = true ∧ r.wt < n ∧ r.len ≤ tr.len from
            ⟨fun W hW => .inr ⟨(hAn W hW).1.2, (hAn W hW).2.2⟩, hF.out.1.2, hsh1.2, by have := hF.out.2.2.1; rw [hW0] at this; omega, by have := hF.out.2.2.2; simp only [Ls.len, Rs.len] at this; omega⟩)
          have s0 := (hl wi (Ch.refl _ _ _)).1
          have r0 := (ht wi (Ch.refl _ _ _)).1
          have Hr := Lib.hid ht
          have t8 := HT.out wi hC.out.1
          have x3 := HX.out wi hC.out.1
          clear hd hCd hgo hgo0 hAn hE hI hA hF hsh1 hW0 hl ht hwl
          have Hk := Lib.hid hk
          have Hk2 := Lib.hid hk2
          clear hk hk2
          cases b with
          | false =>
            go_wp2_with fail
            refine wp_region_held_drew (S := (fun W => W.cell? ⟨bt, ot + 8, none⟩ = some (.slice (some ⟨bq, oq, none⟩) subs.len d) ∧ W.cell? ⟨bn, on + 3, none⟩ = some (.slice (some ⟨bx, ox, none⟩) xs.len d1) ∧ W.cell? ⟨bq, oq + k, none⟩ = some (.slice pt tt.len ct))) (by kernel_rfl) ?_ (fun hHeld => ?_)
            · exact ⟨t8, x3, r0⟩
            refine tk 0 ?_ rfl (.inl ⟨by rfl, ?_⟩) ?_
            rotate_left
            · (intro w hSw; (try dsimp only at hSw); go_simp; try with_reducible rfl)
            try simp only [Act.put, List.setIfInBounds_toArray, List.set_cons_zero, List.set_cons_succ]
            refine tk 1 ?_ rfl (.inl ⟨by rfl, ?_⟩) ?_
            rotate_left
            · (intro w hSw; (try dsimp only at hSw); go_simp; try with_reducible rfl)
            try simp only [Act.put, List.setIfInBounds_toArray, List.set_cons_zero, List.set_cons_succ]
            refine tk 2 ?_ rfl (.inl ⟨by rfl, ?_⟩) ?_
            rotate_left
            · (intro w hSw; (try dsimp only at hSw); go_simp; try with_reducible rfl)
            try simp only [Act.put, List.setIfInBounds_toArray, List.set_cons_zero, List.set_cons_succ]
            refine tk 3 ?_ rfl (.inl ⟨by rfl, ?_⟩) ?_
            rotate_left
            · (intro w hSw; (try dsimp only at hSw); go_simp; try with_reducible rfl)
            try simp only [Act.put, List.setIfInBounds_toArray, List.set_cons_zero, List.set_cons_succ]
            refine tk 4 ?_ rfl (.inl ⟨by rfl, ?_⟩) ?_
            rotate_left
            · (intro w hSw; (try dsimp only at hSw); go_simp; try with_reducible rfl)
            try simp only [Act.put, List.setIfInBounds_toArray, List.set_cons_zero, List.set_cons_succ]
            refine tk 5 ?_ rfl (.inl ⟨by rfl, ?_⟩) ?_
            rotate_left
            · (intro w hSw; (try dsimp only at hSw); go_simp; try with_reducible rfl)
            try simp only [Act.put, List.setIfInBounds_toArray, List.set_cons_zero, List.set_cons_succ]
            refine tk 6 ?_ rfl (.inl ⟨by rfl, ?_⟩) ?_
            rotate_left
            · (intro w hSw; (try dsimp only at hSw); go_simp; try with_reducible rfl)
            try simp only [Act.put, List.setIfInBounds_toArray, List.set_cons_zero, List.set_cons_succ]
            refine tk 7 ?_ rfl (.inl ⟨by rfl, ?_⟩) ?_
            rotate_left
            · (intro w hSw; (try dsimp only at hSw); go_simp; try with_reducible rfl)
            try simp only [Act.put, List.setIfInBounds_toArray, List.set_cons_zero, List.set_cons_succ]
            refine tk 8 ?_ rfl (.inl ⟨by rfl, ?_⟩) ?_
            rotate_left
            · (intro w hSw; (try dsimp only at hSw); go_simp; try with_reducible rfl)
            try simp only [Act.put, List.setIfInBounds_toArray, List.set_cons_zero, List.set_cons_succ]
            refine tk 9 ?_ rfl (.inl ⟨by rfl, ?_⟩) ?_
            rotate_left
            · (intro w hSw; (try dsimp only at hSw); go_simp; try with_reducible rfl)
            try simp only [Act.put, List.setIfInBounds_toArray, List.set_cons_zero, List.set_cons_succ]
            refine tk 10 ?_ rfl (.inl ⟨by rfl, ?_⟩) ?_
            rotate_left
            · (intro w hSw; (try dsimp only at hSw); go_simp; try with_reducible rfl)
            try simp only [Act.put, List.setIfInBounds_toArray, List.set_cons_zero, List.set_cons_succ]
            refine tk 11 ?_ rfl (.inl ⟨by rfl, ?_⟩) ?_
            rotate_left
            · (intro w hSw; (try dsimp only at hSw); go_simp; try with_reducible rfl)
            try simp only [Act.put, List.setIfInBounds_toArray, List.set_cons_zero, List.set_cons_succ]
            refine tk 12 undef rfl (.inr ⟨by rfl, rfl⟩) ?_
            try simp only [Act.put, List.setIfInBounds_toArray, List.set_cons_zero, List.set_cons_succ]
            refine tk 13 undef rfl (.inr ⟨by rfl, rfl⟩) ?_
            try simp only [Act.put, List.setIfInBounds_toArray, List.set_cons_zero, List.set_cons_succ]
            refine tk 14 undef rfl (.inr ⟨by rfl, rfl⟩) ?_
            try simp only [Act.put, List.setIfInBounds_toArray, List.set_cons_zero, List.set_cons_succ]
            refine tk 15 undef rfl (.inr ⟨by rfl, rfl⟩) ?_
            try simp only [Act.put, List.setIfInBounds_toArray, List.set_cons_zero, List.set_cons_succ]
            refine tk 16 undef rfl (.inr ⟨by rfl, rfl⟩) ?_
            try simp only [Act.put, List.setIfInBounds_toArray, List.set_cons_zero, List.set_cons_succ]
            refine tk 17 undef rfl (.inr ⟨by rfl, rfl⟩) ?_
            try simp only [Act.put, List.setIfInBounds_toArray, List.set_cons_zero, List.set_cons_succ]
            refine tk 18 undef rfl (.inr ⟨by rfl, rfl⟩) ?_
            try simp only [Act.put, List.setIfInBounds_toArray, List.set_cons_zero, List.set_cons_succ]
            refine tk 19 undef rfl (.inr ⟨by rfl, rfl⟩) ?_
            try simp only [Act.put, List.setIfInBounds_toArray, List.set_cons_zero, List.set_cons_succ]
            refine tk 20 ?_ rfl (.inl ⟨by rfl, ?_⟩) ?_
            rotate_left
            · (intro w hSw; (try dsimp only at hSw); go_simp; try with_reducible rfl)
            try simp only [Act.put, List.setIfInBounds_toArray, List.set_cons_zero, List.set_cons_succ]
            refine wpAnyH_ready (rs := [21]) (by kernel_rfl) (by simp) ?_
            refine rdy rfl (fun K hK => ?_) AllReadyH.nil
            go_simp
            refine HK.out.mono ?_
            rintro e w2 hE2
            rcases (hE2.later HCd.out).steps with ⟨rfl, hR, hC2⟩ | ⟨q2, n2, c2, x, m2, rfl, hR, hO, hr, hC2, hT2⟩
            · refine ⟨rfl, ?_⟩
              rw [HE.out, show Ls.goRounds st xs subs false m = none by rw [HG.out]; exact then2_no hR]
              exact ⟨rfl, hC.out.1.trans hC2.out hC.out.2⟩
            refine hK.out _ _ ?_ (fun hHeld => ?_)
            · exact ⟨HT.out w2 (hC.out.1.trans hC2.out hC.out.2), HX.out w2 (hC.out.1.trans hC2.out hC.out.2), (Hr.out w2 hC2.out).1⟩
            clear hK K
            try simp only [Act.put, List.setIfInBounds_toArray, List.set_cons_zero, List.set_cons_succ]
            refine tk 22 ?_ rfl (.inl ⟨by rfl, ?_⟩) ?_
            rotate_left
            · (intro w hSw; (try dsimp only at hSw); go_simp; try with_reducible rfl)
            try simp only [Act.put, List.setIfInBounds_toArray, List.set_cons_zero, List.set_cons_succ]
            refine wpAnyH_done (by kernel_rfl) ?_ _
            have HE3 := Lib.hid (show Ls.goRounds st xs subs false m = then2 (some (y.cat x, m2)) fun m => Ls.goRounds st r tr false m by rw [HG.out]; exact then2_at hR.out)
            have HI3 := Lib.hid (show RwIn g base mp m2 st (a.cat (y.cat x)) (.slice q2 n2 c2) r.wt w2 by
              rw [← Lf.cat_assoc]; exact HIw.out.after HB.out hR.out (Nat.le_refl _) hO.out hr.out hC2.out hT2.out)
            have HC3 := Lib.hid (show Ch g v.ownBlock w w2 ∧ OwnTo w v (.slice q2 n2 c2) from ⟨hC.out.1.trans hC2.out hC.out.2, hC.out.2.trans hT2.out hC.out.1.size⟩)
            clear hE2 HK t8 x3 s0 r0 hR hO hr hC2 hT2 HIw HB HG hC HCd hHeld
            go_wp2_with fail
            go_roundw
            case rel => exact ⟨k + 1, r, tr, y.cat x, m2, by go_num, by have := Hk.out; omega, by have := Hk2.out; omega, HE3, HI3, Lib.hid HN.out.1, Lib.hid HN.out.2, HC3⟩
            case measure => simp [intOf]; omega
          | true =>
            have Hq := Lib.hid (show (true && r.len == 0) = ((k : Int) == IntKind.i64.wrap ((xs.len : Int) - 1)) by
              have hw : IntKind.i64.wrap ((xs.len : Int) - 1) = (xs.len : Int) - 1 := by simp [IntKind.wrap, IntKind.bits, IntKind.signed]; omega
              rw [hw, Bool.true_and, Bool.eq_iff_iff, beq_iff_eq, beq_iff_eq]; have := Hk.out; omega)
            rw [Hq.out] at HK
            go_wp2_with fail
            refine wp_region_held_drew (S := (fun W => W.cell? ⟨bt, ot + 8, none⟩ = some (.slice (some ⟨bq, oq, none⟩) subs.len d) ∧ W.cell? ⟨bn, on + 3, none⟩ = some (.slice (some ⟨bx, ox, none⟩) xs.len d1) ∧ W.cell? ⟨bq, oq + k, none⟩ = some (.slice pt tt.len ct))) (by kernel_rfl) ?_ (fun hHeld => ?_)
            · exact ⟨t8, x3, r0⟩
            refine tk 0 ?_ rfl (.inl ⟨by rfl, ?_⟩) ?_
            rotate_left
            · (intro w hSw; (try dsimp only at hSw); go_simp; try with_reducible rfl)
            try simp only [Act.put, List.setIfInBounds_toArray, List.set_cons_zero, List.set_cons_succ]
            refine tk 1 ?_ rfl (.inl ⟨by rfl, ?_⟩) ?_
            rotate_left
            · (intro w hSw; (try dsimp only at hSw); go_simp; try with_reducible rfl)
            try simp only [Act.put, List.setIfInBounds_toArray, List.set_cons_zero, List.set_cons_succ]
            refine tk 2 ?_ rfl (.inl ⟨by rfl, ?_⟩) ?_
            rotate_left
            · (intro w hSw; (try dsimp only at hSw); go_simp; try with_reducible rfl)
            try simp only [Act.put, List.setIfInBounds_toArray, List.set_cons_zero, List.set_cons_succ]
            refine tk 3 ?_ rfl (.inl ⟨by rfl, ?_⟩) ?_
            rotate_left
            · (intro w hSw; (try dsimp only at hSw); go_simp; try with_reducible rfl)
            try simp only [Act.put, List.setIfInBounds_toArray, List.set_cons_zero, List.set_cons_succ]
            refine tk 4 ?_ rfl (.inl ⟨by rfl, ?_⟩) ?_
            rotate_left
            · (intro w hSw; (try dsimp only at hSw); go_simp; try with_reducible rfl)
            try simp only [Act.put, List.setIfInBounds_toArray, List.set_cons_zero, List.set_cons_succ]
            refine tk 5 ?_ rfl (.inl ⟨by rfl, ?_⟩) ?_
            rotate_left
            · (intro w hSw; (try dsimp only at hSw); go_simp; try with_reducible rfl)
            try simp only [Act.put, List.setIfInBounds_toArray, List.set_cons_zero, List.set_cons_succ]
            refine tk 6 ?_ rfl (.inl ⟨by rfl, ?_⟩) ?_
            rotate_left
            · (intro w hSw; (try dsimp only at hSw); go_simp; try with_reducible rfl)
            try simp only [Act.put, List.setIfInBounds_toArray, List.set_cons_zero, List.set_cons_succ]
            refine tk 7 ?_ rfl (.inl ⟨by rfl, ?_⟩) ?_
            rotate_left
            · (intro w hSw; (try dsimp only at hSw); go_simp; try with_reducible rfl)
            try simp only [Act.put, List.setIfInBounds_toArray, List.set_cons_zero, List.set_cons_succ]
            refine tk 8 ?_ rfl (.inl ⟨by rfl, ?_⟩) ?_
            rotate_left
            · (intro w hSw; (try dsimp only at hSw); go_simp; try with_reducible rfl)
            try simp only [Act.put, List.setIfInBounds_toArray, List.set_cons_zero, List.set_cons_succ]
            refine tk 9 ?_ rfl (.inl ⟨by rfl, ?_⟩) ?_
            rotate_left
            · (intro w hSw; (try dsimp only at hSw); go_simp; try with_reducible rfl)
            try simp only [Act.put, List.setIfInBounds_toArray, List.set_cons_zero, List.set_cons_succ]
            refine tk 10 ?_ rfl (.inl ⟨by rfl, ?_⟩) ?_
            rotate_left
            · (intro w hSw; (try dsimp only at hSw); go_simp; try with_reducible rfl)
            try simp only [Act.put, List.setIfInBounds_toArray, List.set_cons_zero, List.set_cons_succ]
            refine tk 11 ?_ rfl (.inl ⟨by rfl, ?_⟩) ?_
            rotate_left
            · (intro w hSw; (try dsimp only at hSw); go_simp; try with_reducible rfl)
            try simp only [Act.put, List.setIfInBounds_toArray, List.set_cons_zero, List.set_cons_succ]
            refine tk 12 ?_ rfl (.inl ⟨by rfl, ?_⟩) ?_
            rotate_left
            · (intro w hSw; (try dsimp only at hSw); go_simp; try with_reducible rfl)
            try simp only [Act.put, List.setIfInBounds_toArray, List.set_cons_zero, List.set_cons_succ]
            refine tk 13 ?_ rfl (.inl ⟨by rfl, ?_⟩) ?_
            rotate_left
            · (intro w hSw; (try dsimp only at hSw); go_simp; try with_reducible rfl)
            try simp only [Act.put, List.setIfInBounds_toArray, List.set_cons_zero, List.set_cons_succ]
            refine tk 14 ?_ rfl (.inl ⟨by rfl, ?_⟩) ?_
            rotate_left
            · (intro w hSw; (try dsimp only at hSw); go_simp; try with_reducible rfl)
            try simp only [Act.put, List.setIfInBounds_toArray, List.set_cons_zero, List.set_cons_succ]
            refine tk 15 ?_ rfl (.inl ⟨by rfl, ?_⟩) ?_
            rotate_left
            · (intro w hSw; (try dsimp only at hSw); go_simp; try with_reducible rfl)
            try simp only [Act.put, List.setIfInBounds_toArray, List.set_cons_zero, List.set_cons_succ]
            refine tk 16 ?_ rfl (.inl ⟨by rfl, ?_⟩) ?_
            rotate_left
            · (intro w hSw; (try dsimp only at hSw); go_simp; try with_reducible rfl)
            try simp only [Act.put, List.setIfInBounds_toArray, List.set_cons_zero, List.set_cons_succ]
            refine tk 17 ?_ rfl (.inl ⟨by rfl, ?_⟩) ?_
            rotate_left
            · (intro w hSw; (try dsimp only at hSw); go_simp; try with_reducible rfl)
            try simp only [Act.put, List.setIfInBounds_toArray, List.set_cons_zero, List.set_cons_succ]
            refine tk 18 ?_ rfl (.inl ⟨by rfl, ?_⟩) ?_
            rotate_left
            · (intro w hSw; (try dsimp only at hSw); go_simp; try with_reducible rfl)
            try simp only [Act.put, List.setIfInBounds_toArray, List.set_cons_zero, List.set_cons_succ]
            refine tk 19 ?_ rfl (.inl ⟨by rfl, ?_⟩) ?_
            rotate_left
            · (intro w hSw; (try dsimp only at hSw); go_simp; try with_reducible rfl)
            try simp only [Act.put, List.setIfInBounds_toArray, List.set_cons_zero, List.set_cons_succ]
            refine tk 20 ?_ rfl (.inl ⟨by rfl, ?_⟩) ?_
            rotate_left
            · (intro w hSw; (try dsimp only at hSw); go_simp; try with_reducible rfl)
            try simp only [Act.put, List.setIfInBounds_toArray, List.set_cons_zero, List.set_cons_succ]
            refine wpAnyH_ready (rs := [21]) (by kernel_rfl) (by simp) ?_
            refine rdy rfl (fun K hK => ?_) AllReadyH.nil
            go_simp
            refine HK.out.mono ?_
            rintro e w2 hE2
            rw [← Hq.out] at hE2
            rcases (hE2.later HCd.out).steps with ⟨rfl, hR, hC2⟩ | ⟨q2, n2, c2, x, m2, rfl, hR, hO, hr, hC2, hT2⟩
            · refine ⟨rfl, ?_⟩
              rw [HE.out, show Ls.goRounds st xs subs true m = none by rw [HG.out]; exact then2_no hR]
              exact ⟨rfl, hC.out.1.trans hC2.out hC.out.2⟩
            refine hK.out _ _ ?_ (fun hHeld => ?_)
            · exact ⟨HT.out w2 (hC.out.1.trans hC2.out hC.out.2), HX.out w2 (hC.out.1.trans hC2.out hC.out.2), (Hr.out w2 hC2.out).1⟩
            clear hK K
            try simp only [Act.put, List.setIfInBounds_toArray, List.set_cons_zero, List.set_cons_succ]
            refine tk 22 ?_ rfl (.inl ⟨by rfl, ?_⟩) ?_
            rotate_left
            · (intro w hSw; (try dsimp only at hSw); go_simp; try with_reducible rfl)
            try simp only [Act.put, List.setIfInBounds_toArray, List.set_cons_zero, List.set_cons_succ]
            refine wpAnyH_done (by kernel_rfl) ?_ _
            have HE3 := Lib.hid (show Ls.goRounds st xs subs true m = then2 (some (y.cat x, m2)) fun m => Ls.goRounds st r tr true m by rw [HG.out]; exact then2_at hR.out)
            have HI3 := Lib.hid (show RwIn g base mp m2 st (a.cat (y.cat x)) (.slice q2 n2 c2) r.wt w2 by
              rw [← Lf.cat_assoc]; exact HIw.out.after HB.out hR.out (Nat.le_refl _) hO.out hr.out hC2.out hT2.out)
            have HC3 := Lib.hid (show Ch g v.ownBlock w w2 ∧ OwnTo w v (.slice q2 n2 c2) from ⟨hC.out.1.trans hC2.out hC.out.2, hC.out.2.trans hT2.out hC.out.1.size⟩)
            clear hE2 HK t8 x3 s0 r0 hR hO hr hC2 hT2 HIw HB HG hC HCd hHeld
            go_wp2_with fail
            go_roundw
            case rel => exact ⟨k + 1, r, tr, y.cat x, m2, by go_num, by have := Hk.out; omega, by have := Hk2.out; omega, HE3, HI3, Lib.hid HN.out.1, Lib.hid HN.out.2, HC3⟩
            case measure => simp [intOf]; omega
    · have HM := Lib.hid (show Calls Try.prog 46 #[.int .i64 subs.len, .int .i64 xs.len, .bool b] w.drew fun e w' => e = panicked 2 ∧ w.drew = w' by
        have := asMany_any subs.len xs.len b w.drew
        rw [if_neg hm] at this
        exact this)
      have HE := Lib.hid (show oneR st 4 xi xt xs 6 t ls bl subs b m = none by simp [oneR, hm])
      clear hi hn hX hT hbl hm hwt
      go_enter Try.func41, Try.ntmps41
      go_wp2_with fail
      refine (must_true w).mono ?_
      rintro e w1 ⟨rfl, rfl⟩
      go_wp2_with fail
      go_still_tail 11, (by kernel_rfl)
      change wpList _ _ _ _ _ (World.drew _)
      go_wp2_with fail
      refine HM.out.mono ?_
      rintro e w1 ⟨rfl, rfl⟩
      refine ⟨rfl, ?_⟩
      rw [HE.out]
      exact ⟨rfl, Ch.of _ (Below.refl _ _).drew⟩
  · have hk2 : (xk == 4) = false := by simpa using hk
    have HE := Lib.hid (show oneR st xk xi xt xs 6 t ls bl subs b m = none by simp [oneR, hk])
    obtain ⟨p1, q1, c1, d1, hX⟩ := xfix_of hn.hx hn.hbn hi.hb hi.row
    have x0 := (hX w (Ch.refl _ _ _)).c0
    clear hi hn hX
    go_enter Try.func41, Try.ntmps41
    go_wp2_with fail
    refine (must_false w).mono ?_
    rintro e w1 ⟨rfl, rfl⟩
    refine ⟨rfl, ?_⟩
    rw [HE.out]
    exact ⟨rfl, Ch.refl _ _ _⟩
end Go.Proofs.Ytcadeeldogknmaa
