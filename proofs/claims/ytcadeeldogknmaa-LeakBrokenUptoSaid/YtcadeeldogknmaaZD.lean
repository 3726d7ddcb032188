/- Deeds: a branch, one way of it, a call. -/
import Derived.Test.YtcadeeldogknmaaZC
import Derived.Test.YtcadeeldogknmaaR1
namespace Go.Proofs.Ytcadeeldogknmaa
open Go.RowKit

theorem RwEnd.split {g base mp : Nat} {st : Int} {a : Lf} {v : Value} {w w' : World} {R : Option (Lf × Nat)} {e : Ending} (h : RwEnd g base st mp a v w R e w') : (∃ v', e = .returned v' ∧ Hid (RwEnd g base st mp a v w R (.returned v') w')) ∨ (e = panicked 2 ∧ Hid (RwEnd g base st mp a v w R (panicked 2) w')) := by
  cases R with
  | none =>
    obtain ⟨rfl, hC⟩ := h
    exact .inr ⟨rfl, Lib.hid ⟨rfl, hC⟩⟩
  | some x =>
    obtain ⟨x, m⟩ := x
    obtain ⟨v', rfl, h1⟩ := h
    exact .inl ⟨v', rfl, Lib.hid ⟨v', rfl, h1⟩⟩
/-- it ends in an error, or goes on -/
theorem RwEnd.steps {g base mp : Nat} {st : Int} {a : Lf} {v : Value} {w w' : World} {R : Option (Lf × Nat)} {e : Ending} (h : RwEnd g base st mp a v w R e w') : (e = panicked 2 ∧ R = none ∧ Hid (Ch g v.ownBlock w w')) ∨ (∃ q n c x m, e = .returned (.slice q n c) ∧ Hid (R = some (x, m)) ∧ Hid (OutL w' base (.slice q n c) (a.cat x)) ∧ Hid (RwS w' g st mp m) ∧ Hid (Ch g v.ownBlock w w') ∧ Hid (OwnTo w v (.slice q n c))) := by
  cases R with
  | none =>
    obtain ⟨rfl, hC⟩ := h
    exact .inl ⟨rfl, rfl, Lib.hid hC⟩
  | some x =>
    obtain ⟨x, m⟩ := x
    obtain ⟨v', rfl, h1, h2, h3, h4⟩ := h
    obtain ⟨q, c, rfl, _⟩ := OutG.form h1
    exact .inr ⟨q, _, c, x, m, rfl, Lib.hid rfl, Lib.hid h1, Lib.hid h2, Lib.hid h3, Lib.hid h4⟩
theorem RwEnd.later {g base mp : Nat} {st : Int} {a : Lf} {v : Value} {w w1 w' : World} {R : Option (Lf × Nat)} {e : Ending} (h : RwEnd g base st mp a v w1 R e w') (hC : Ch g v.ownBlock w w1) : RwEnd g base st mp a v w R e w' := by
  cases R with
  | none => exact ⟨h.1, hC.trans h.2 (.inl rfl)⟩
  | some x =>
    obtain ⟨x, m⟩ := x
    obtain ⟨v', rfl, h1, h2, h3, h4⟩ := h
    exact ⟨v', rfl, h1, h2, hC.trans h3 (.inl rfl), (OwnTo.refl w v).trans h4 hC.size⟩
theorem RwEnd.then2 {g base mp m1 : Nat} {st : Int} {a y : Lf} {v v' : Value} {w w1 w' : World} {R : Option (Lf × Nat)} {f : Nat → Option (Lf × Nat)} {e : Ending} (h : RwEnd g base st mp (a.cat y) v' w1 (f m1) e w') (hR : R = some (y, m1)) (hC : Ch g v.ownBlock w w1) (hT : OwnTo w v v') : RwEnd g base st mp a v w (then2 R f) e w' := by
  subst hR
  unfold RwEnd at h ⊢
  unfold Ytcadeeldogknmaa.then2
  cases hf : f m1 with
  | none =>
    rw [hf] at h
    simp only [hf]
    exact ⟨h.1, hC.trans h.2 hT⟩
  | some x =>
    obtain ⟨x, m⟩ := x
    rw [hf] at h
    simp only [hf]
    obtain ⟨v2, rfl, h1, h2, h3, h4⟩ := h
    exact ⟨v2, rfl, by rw [← Lf.cat_assoc]; exact h1, h2, hC.trans h3 hT, hT.trans h4 hC.size⟩
theorem then2_none {R : Option (Lf × Nat)} {f : Nat → Option (Lf × Nat)} (h : R = none) : then2 R f = none := by subst h; rfl
theorem RwIn.after {g base mp m m' W W1 W' : Nat} {st : Int} {a x : Lf} {v v' : Value} {w w' : World} {R : Option (Lf × Nat)} (h : RwIn g base mp m st a v W w) (hb : Bnd W1 m R) (hR : R = some (x, m')) (hW : W1 + W' ≤ W) (ho : OutL w' base v' (a.cat x)) (hr : RwS w' g st mp m') (hC : Ch g v.ownBlock w w') (hT : OwnTo w v v') : RwIn g base mp m' st (a.cat x) v' W' w' := by
  have hb := hb x m' hR
  have h1 := h.hm
  have h2 := h.ha
  have h3 := Lf.len_wt x
  exact h.next hr ho hC hT (by omega) (by rw [Lf.cat_len]; omega) (by omega)
theorem lay_bnd1 {st : Int} {ls : List (List Pk)} {is : List Int} {m : Nat} (hl : linesW ls ≤ 1048576) : Bnd 1 m (layR st ls is m) := fun x m' h => by
  have := lay_bnd hl x m' h
  omega
/-- the same, in a later world -/
theorem RwIn.later {g base mp m W : Nat} {st : Int} {a : Lf} {v : Value} {w w' : World} (h : RwIn g base mp m st a v W w) (hB : Below w.heap.size w w') : RwIn g base mp m st a v W w' :=
  h.next (h.r.later hB h.r.lt) (h.o.keep (mono_lf a) (fun i _ hi => hB.block i hi) hB.size) (Ch.of v.ownBlock hB) (OwnTo.refl _ _) h.hm h.ha (Nat.le_refl _)
/-- a node with one list -/
theorem NodeIn.one {g base : Nat} {row : Option Nat} {w : World} {k : Int} {t : Bool} {ls bl : List (List Pk)} {subs : Rs} {bt ot : Nat} {xk : Int} {xi : List Int} {xt : Bool} {xs : Ls} {bn on : Nat} (h : NodeIn g base row w k t ls bl subs bt ot xk xi xt xs bn on) (hk : xk = 2 ∨ xk = 3 ∨ xk = 5) : ∃ l, xs = .sub l .nil ∧ l.shaped = true ∧ (xk = 3 → l.asks = true) := by
  have := h.shaped
  simp only [Lf.shaped, Bool.and_eq_true] at this
  obtain ⟨⟨⟨h1, h2⟩, h3⟩, _⟩ := this
  have hl : xs.len = 1 := by
    rcases hk with rfl | rfl | rfl <;> simp [fieldsOk] at h1 <;> omega
  cases xs with
  | nil => simp [Ls.len] at hl
  | sub l r =>
    cases r with
    | sub _ _ => simp [Ls.len] at hl
    | nil =>
      refine ⟨l, rfl, by simpa [Ls.shaped] using h3, fun e => ?_⟩
      subst e
      simpa [Ls.first] using h2
theorem Rs.one {s : Rs} (h : s.len = 1) (hf : s.fine) : ∃ t, s = .sub t .nil ∧ t.fine := by
  cases s with
  | nil => simp [Rs.len] at h
  | sub t r =>
    cases r with
    | nil => exact ⟨t, rfl, hf.1⟩
    | sub _ _ => simp [Rs.len] at h
theorem Rs.two {s : Rs} (h : s.len = 2) (hf : s.fine) : ∃ t u, s = .sub t (.sub u .nil) ∧ t.fine ∧ u.fine := by
  cases s with
  | nil => simp [Rs.len] at h
  | sub t r =>
    cases r with
    | nil => simp [Rs.len] at h
    | sub u r =>
      cases r with
      | nil => exact ⟨t, u, rfl, hf.1, hf.2.1⟩
      | sub _ _ => simp [Rs.len] at h
theorem second_rs {g base b o : Nat} {row : Option Nat} {w : World} {l l2 : Rc} (h : ∀ W, Ch g row w W → (Rs.sub l (.sub l2 .nil)).In W base (some ⟨b, o, none⟩)) (hw : base ≤ w.heap.size) (hr : ∀ k, row = some k → base ≤ k) :
    ∃ p c, ∀ W, Ch g row w W → W.cell? ⟨b, o + 1, none⟩ = some (.slice p l2.len c) ∧ l2.In W base p := by
  rcases (h w (Ch.refl _ _ _)).2 with h0 | ⟨b', o', e, hb, _⟩
  · simp [Rs.len] at h0
  · cases e
    exact fix_sl (A := fun W p => l2.In W base p) hb hw hr (fun W hW => by
      rcases (h W hW).2 with h0 | ⟨b', o', e, _, h2⟩
      · simp [Rs.len] at h0
      · cases e
        obtain ⟨_, ⟨p, c, e1, s1⟩, _⟩ := h2
        exact ⟨p, c, e1, s1⟩)
set_option maxRecDepth 100000 in
set_option maxHeartbeats 3200000 in
theorem deed_branch (n : Nat) (hRL : RL n) : DeedOk n 3 38 := by
  intro xk xi xt xs t ls bl subs b bt ot bn on g base mp m st a v w hwt hi hn
  by_cases hk : xk = 2
  · subst hk
    obtain ⟨l, rfl, hsh, _⟩ := hn.one (.inl rfl)
    obtain ⟨sa, sb, rfl, hfa, hfb⟩ := Rs.two (hn.fine.1.2.2.2.2.2.2.1 rfl) hn.fine.2.1
    obtain ⟨p, p', q, c, c', d, gi, sz, hbl, hT⟩ := hn.tfix hi.hb hi.row
    obtain ⟨b1, o1, pa, ca, rfl, hA⟩ := first_rs (fun W hW => (hT W hW).s8) hi.hb hi.row
    obtain ⟨pb, cb, hB⟩ := second_rs (fun W hW => (hT W hW).s8) hi.hb hi.row
    obtain ⟨p1, q1, c1, d1, hX⟩ := xfix_of hn.hx hn.hbn hi.hb hi.row
    have hd := (Below.refl w.heap.size w).drew
    have hCd : Ch g v.ownBlock w w.drew := Ch.of v.ownBlock hd
    have hwl : l.wt < n := by have := hwt; simp only [Ls.wt] at this; omega
    have hid : RwIn g base mp m st a v (1 + xi.length + (1 + l.wt)) w.drew := (hi.later hd).next (hi.later hd).r (hi.later hd).o (Ch.refl _ _ _) (OwnTo.refl _ _) (by have := (hi.later hd).hm; simp only [Ls.wt] at this; omega) (by have := (hi.later hd).ha; simp only [Ls.wt] at this; omega) (by simp only [Ls.wt]; omega)
    have t2 := (hT w (Ch.refl _ _ _)).c2
    have t3 := (hT w (Ch.refl _ _ _)).c3
    have t4 := (hT w (Ch.refl _ _ _)).c4
    have t8 : w.cell? ⟨bt, ot + 8, none⟩ = some (.slice (some ⟨b1, o1, none⟩) 2 d) := (hT w (Ch.refl _ _ _)).c8
    have x0 := (hX w (Ch.refl _ _ _)).c0
    have x2 := (hX w (Ch.refl _ _ _)).c2
    have sa0 := (hA w (Ch.refl _ _ _)).1
    have sb0 := (hB w (Ch.refl _ _ _)).1
    cases xt with
    | true =>
      have HE := Lib.hid (show oneR st 2 xi true (.sub l .nil) 3 t ls bl (.sub sa (.sub sb .nil)) b m = askR st ls xi true m (fun m => Ls.goFirst st (.sub l .nil) sa b m) from rfl)
      have HK := Lib.hid (asking_any n hRL ls sa 2 xi true l b bn on g base mp m st a v w.drew p pa c ca hwl hid (fun W hW => (hT W (hCd.trans hW (.inl rfl))).s2) (fun W hW => (hA W (hCd.trans hW (.inl rfl))).2) (fun W hW => hn.hx W (hCd.trans hW (.inl rfl))) hn.hbn hn.fine.1.1 hn.fine.1.2.2.1 hfa hsh)
      have HCd := Lib.hid hCd
      clear hT hA hB hX hn hi hid hd hCd hbl hwt
      go_enter Try.func38, Try.ntmps38
      go_wp2_with fail
      refine (must_true w).mono ?_
      rintro e w1 ⟨rfl, rfl⟩
      go_wp2_with fail
      go_still_tail 14, (by kernel_rfl)
      change wpList _ _ _ _ _ (World.drew _)
      go_wp2_with fail
      refine HK.out.mono ?_
      rintro e w1 hE
      rcases (hE.later HCd.out).split with ⟨v', rfl, HF⟩ | ⟨rfl, HF⟩
      · clear hE HK t2 t3 t4 t8 x0 x2 sa0 sb0
        go_wp2_with fail
        go_ret
        rw [HE.out]
        exact HF.out
      · refine ⟨rfl, ?_⟩
        rw [HE.out]
        exact HF.out
    | false =>
      have HE := Lib.hid (show oneR st 2 xi false (.sub l .nil) 3 t ls bl (.sub sa (.sub sb .nil)) b m = askR st ls xi false m (fun m => Ls.goFirst st (.sub l .nil) sb b m) from rfl)
      have HK := Lib.hid (asking_any n hRL ls sb 2 xi false l b bn on g base mp m st a v w.drew p pb c cb hwl hid (fun W hW => (hT W (hCd.trans hW (.inl rfl))).s2) (fun W hW => (hB W (hCd.trans hW (.inl rfl))).2) (fun W hW => hn.hx W (hCd.trans hW (.inl rfl))) hn.hbn hn.fine.1.1 hn.fine.1.2.2.1 hfb hsh)
      have HCd := Lib.hid hCd
      clear hT hA hB hX hn hi hid hd hCd hbl hwt
      go_enter Try.func38, Try.ntmps38
      go_wp2_with fail
      refine (must_true w).mono ?_
      rintro e w1 ⟨rfl, rfl⟩
      go_wp2_with fail
      go_still_tail 14, (by kernel_rfl)
      change wpList _ _ _ _ _ (World.drew _)
      go_wp2_with fail
      refine HK.out.mono ?_
      rintro e w1 hE
      rcases (hE.later HCd.out).split with ⟨v', rfl, HF⟩ | ⟨rfl, HF⟩
      · clear hE HK t2 t3 t4 t8 x0 x2 sa0 sb0
        go_wp2_with fail
        go_ret
        rw [HE.out]
        exact HF.out
      · refine ⟨rfl, ?_⟩
        rw [HE.out]
        exact HF.out
  · have hk2 : (xk == 2) = false := by simpa using hk
    have HE := Lib.hid (show oneR st xk xi xt xs 3 t ls bl subs b m = none by simp [oneR, hk])
    obtain ⟨p1, q1, c1, d1, hX⟩ := xfix_of hn.hx hn.hbn hi.hb hi.row
    have x0 := (hX w (Ch.refl _ _ _)).c0
    clear hi hn hX
    go_enter Try.func38, Try.ntmps38
    go_wp2_with fail
    refine (must_false w).mono ?_
    rintro e w1 ⟨rfl, rfl⟩
    refine ⟨rfl, ?_⟩
    rw [HE.out]
    exact ⟨rfl, Ch.refl _ _ _⟩
end Go.Proofs.Ytcadeeldogknmaa
