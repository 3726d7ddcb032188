/- T8, T9, TA, TB as one. -/
import Derived.Test.YtihmibggonffdaaGreatT7
import Derived.Test.YtihmibggonffdaaGreatF1
import Derived.LaidEql
import Derived.Laws.StructEq
/- What an expression's level hangs on: what is within. -/
namespace Go.Proofs.YtihmibggonffdaaGreat
open Go.RowKit

theorem Exs.plc0_wt (x : Prg) (fn : Fnc) : ∀ (l : Exs) (b : Bas), (l.plc0 x fn b).wt ≤ b.wt + l.size
 | .nil, b => by rw [Exs.plc0]; omega
 | .cons e r, b => by
   rw [Exs.plc0, Exs.size]
   have h2 := Ex.plc_wt x fn e b
   omega
mutual
theorem Ex.wit_wt (x : Prg) (fn : Fnc) : ∀ (e : Ex) (b : Bas), (e.wit x fn b).wt ≤ b.wt + e.size
 | .mk op wd nm a, b => by
   rw [Ex.wit, Ex.size]
   split
   · have := wi_len b.words nm; simp only [Bas.wt]; omega
   · split
     · have := a.plc0_wt x fn { b with secret := b.secret || secB x fn nm }
       simp only [Bas.wt] at *; omega
     · have := Exs.wit_wt x fn a b; omega
theorem Exs.wit_wt (x : Prg) (fn : Fnc) : ∀ (l : Exs) (b : Bas), (l.wit x fn b).wt ≤ b.wt + l.size
 | .nil, b => by rw [Exs.wit]; omega
 | .cons e r, b => by
   rw [Exs.wit, Exs.size]
   have h1 := Exs.wit_wt x fn r (e.wit x fn b)
   have h2 := Ex.wit_wt x fn e b
   omega
end

def WitTo (n : Nat) : Prop := ∀ (e : Ex), e.size < n → ∀ (N bb M pc fc c9 c8 pb i deep : Nat) (x : Prg) (s : PrgP) (fn : Fnc) (eb eo : Nat) (w : World) (b : Bas), CE w N bb M pc fc c9 c8 pb x s i fn → e.chk x fn deep = 0 → e.At w N eb eo → eb < N → BasIn w bb M b → b.wt + e.size ≤ 3000000 →
   Calls Tryz.prog 69 #[.pointer (some ⟨eb, eo, none⟩), .pointer (some ⟨bb, 0, none⟩), .pointer (some ⟨pc, 0, none⟩), .pointer (some ⟨fc, 0, none⟩), .pointer (some ⟨c9, 0, none⟩), .pointer (some ⟨c8, 0, none⟩)] w fun z w' => z = .returned (.tuple #[]) ∧ BasIn w' bb M (e.wit x fn b) ∧ Bb bb M w w'

set_option maxRecDepth 100000 in
set_option maxHeartbeats 3200000 in
theorem eachw_any (n : Nat) (ih : WitTo n) (e : Ex) (hsz : e.args.size < n) (N bb M pc fc c9 c8 pb i deep : Nat) (x : Prg) (s : PrgP) (fn : Fnc) (eb eo : Nat) (w : World) (b : Bas) (hE : CE w N bb M pc fc c9 c8 pb x s i fn) (hchk : e.args.chk x fn deep = 0) (he : e.At w N eb eo) (hb : eb < N) (hB : BasIn w bb M b) (hwt : b.wt + e.args.size ≤ 3000000) :
   Calls Tryz.prog 72 #[.pointer (some ⟨eb, eo, none⟩), witV bb pc fc c9 c8] w fun z w' => z = .returned (.tuple #[]) ∧ BasIn w' bb M (e.args.wit x fn b) ∧ Bb bb M w w' := by
 obtain ⟨pa, ca, g0, g1, g2, g3, hok⟩ := he.open'
 obtain ⟨ab, ao, hpa, hab, haa⟩ : ∃ b2 o2, (e.args.len = 0 ∨ pa = some ⟨b2, o2, none⟩) ∧ (b2 < N ∨ e.args.len = 0) ∧ e.args.At w N b2 o2 := by
   rcases hok.1.2 with h0 | ⟨b, o, hp, hb, ha⟩
   · exact ⟨0, 0, .inl h0, .inr h0, by cases hxa : e.args with | nil => trivial | cons => rw [hxa] at h0; simp [Exs.len] at h0⟩
   · exact ⟨b, o, .inr hp, .inl hb, ha⟩
 have hma := hok.1.1
 have hl := hE.lts
 have HS := Lib.hid (fun (W : World) (h : Bb bb M w W) => show W.cell? ⟨eb, eo + 3, none⟩ = some (.slice pa e.args.len ca) from (h.cell (p := ⟨eb, eo + 3, none⟩) (by show eb < M; omega) (by show eb ≠ bb; omega)).trans g3)
 have HN := Lib.hid (fun (W : World) (h : Bb bb M w W) => show Below N w W from h.below hl.1.1 (by omega))
 have HE := Lib.hid (fun (W : World) (h : Bb bb M w W) => hE.later h)
 have HA := Lib.hid haa
 have HAB := Lib.hid hab
 have IH := Lib.hid ih
 have HB0 := Lib.hid hB
 have HC0 := Lib.hid hchk
 have HW0 := Lib.hid hwt
 have HSZ := Lib.hid hsz
 clear he hok g0 g1 g2 g3 hE hl haa hab ih hB hchk hwt hsz hb
 have g3 := HS.out w (Bb.refl _ _ _)
 unfold witV
 go_enter Tryz.func72, Tryz.ntmps72
 go_wp2_with fail
 go_loopw [10] (fun i wr => ∃ (k : Nat) (r : Exs) (b' : Bas), i = .int .i64 k ∧ k + r.len = e.args.len ∧ r.size ≤ e.args.size ∧ Hid (r.At w N ab (ao + k * 4)) ∧ Hid (r.chk x fn deep = 0) ∧ Hid (r.wit x fn b' = e.args.wit x fn b) ∧ Hid (BasIn wr bb M b') ∧ Hid (Bb bb M w wr) ∧ Hid (b'.wt + r.size ≤ 3000000)) (fun i _ => e.args.len - (intOf i).toNat)
 case atStart => exact ⟨0, e.args, b, rfl, by omega, Nat.le_refl _, Lib.hid (by rw [Nat.zero_mul]; exact HA.out), HC0, Lib.hid rfl, HB0, Lib.hid (Bb.refl _ _ _), HW0⟩
 case round =>
   obtain ⟨k, r, b', rfl, hk, hrs, hr, hck, hE, hI, hF, hW⟩ := hrel
   clear g3
   have g3 := HS.out wr hF.out
   cases r with
   | nil =>
     simp only [Exs.len] at hk
     have hge : ¬ k < e.args.len := by omega
     have HR := Lib.hid (show BasIn wr bb M (e.args.wit x fn b) from by rw [← hE.out]; exact hI.out)
     go_wp2_with fail
     go_end0
     exact ⟨rfl, HR.out, hF.out⟩
   | cons y r =>
     obtain ⟨hy, hr'⟩ := hr.out
     simp only [Exs.len] at hk
     simp only [Exs.size] at hrs
     have hlt : k < e.args.len := by omega
     have hab : ab < N := by have := HAB.out; omega
     have hpa' : pa = some ⟨ab, ao, none⟩ := by
       rcases hpa with h0 | h0
       · omega
       · exact h0
     have HR := Lib.hid hr'
     have HCK := Lib.hid (chk_cons hck.out)
     have HWT := Lib.hid (show (b'.wt + y.size ≤ 3000000) ∧ ((y.wit x fn b').wt + r.size ≤ 3000000) from by
       have := hW.out; have := y.wit_wt x fn b'
       simp only [Exs.size] at *
       omega)
     have HE2 := Lib.hid (show r.wit x fn (y.wit x fn b') = e.args.wit x fn b from by rw [← hE.out, Exs.wit])
     subst hpa'
     have HC := Lib.hid (IH.out y (by have := HSZ.out; omega) N bb M pc fc c9 c8 pb i deep x s fn ab (ao + k * 4) wr b' (HE.out wr hF.out) HCK.out.1 (Ex.At.later (HN.out wr hF.out) (Nat.le_refl N) y ab _ hab hy) hab hI.out HWT.out.1)
     clear hy hr hr' hab hck hE hI hW
     go_wp2_with fail
     refine HC.out.mono ?_
     rintro z w5 ⟨rfl, h5, hB5⟩
     have HB5 := Lib.hid (hF.out.trans hB5)
     have H5 := Lib.hid h5
     clear h5 hB5 g3 hF
     go_wp2_with fail
     go_roundw
     case rel => exact ⟨k + 1, r, _, by go_num, by omega, by omega, Lib.hid (by rw [show ao + (k + 1) * 4 = ao + k * 4 + 4 by omega]; exact HR.out), Lib.hid HCK.out.2, HE2, H5, HB5, Lib.hid HWT.out.2⟩
     case measure => simp [intOf]; omega

set_option maxRecDepth 100000 in
set_option maxHeartbeats 6400000 in
theorem wit_step (n : Nat) (ih : WitTo n) : WitTo (n + 1) := by
 intro e hsz N bb M pc fc c9 c8 pb i deep x s fn eb eo w b hE hchk he hb hB hwt
 obtain ⟨wv, pv, hX⟩ := hB
 have hl := hE.lts
 obtain ⟨pa, ca, g0, g1, g2, g3, hok⟩ := he.open'
 have HS := Lib.hid (fun (W : World) (h : Bb bb M w W) => show W.cell? ⟨eb, eo, none⟩ = some (.int .i64 e.op) ∧ W.cell? ⟨eb, eo + 2, none⟩ = some (.string (str e.name)) ∧ W.cell? ⟨eb, eo + 3, none⟩ = some (.slice pa e.args.len ca) from
   ⟨(h.cell (p := ⟨eb, eo, none⟩) (by show eb < M; omega) (by show eb ≠ bb; omega)).trans g0, (h.cell (p := ⟨eb, eo + 2, none⟩) (by show eb < M; omega) (by show eb ≠ bb; omega)).trans g2, (h.cell (p := ⟨eb, eo + 3, none⟩) (by show eb < M; omega) (by show eb ≠ bb; omega)).trans g3⟩)
 have HN := Lib.hid (fun (W : World) (h : Bb bb M w W) => show Below N w W from h.below hl.1.1 (by omega))
 have HCE := Lib.hid hE
 have HPB := Lib.hid (hE.later (Bb.refl bb M w).drew).prg
 have HNW := Lib.hid (show N ≤ w.heap.size by omega)
 have HX := Lib.hid hX
 have HL := Lib.hid (show b.words.length ≤ 4000000 ∧ b.places.length ≤ 4000000 by unfold Bas.wt at hwt; omega)
 have HCH := Lib.hid (chk_args hchk)
 have HEA := Lib.hid (fun (W : World) (h : Bb bb M w W) => Ex.At.later (HN.out W h) (Nat.le_refl N) e eb eo hb he)
 have hes : e.args.size + 1 = e.size := by obtain ⟨op, wd, nm, ar⟩ := e; rw [Ex.size]; rfl
 have HSZ := Lib.hid (show e.args.size < n by omega)
 have HWT := Lib.hid hwt
 have HES := Lib.hid hes
 have HBL := Lib.hid hb
 have IH := Lib.hid ih
 have HEq := Lib.hid (Ex.wit_eq x fn e b)
 have g0 := (HS.out w (Bb.refl _ _ _)).1
 have HOK := Lib.hid hok.1
 have hm := HCH.out
 have HKF0 := Lib.hid (fun (W : World) (h : Bb bb M w W) => And.intro (hE.later h).c9C (HS.out W h).2.2)
 clear g1 g2 g3 hok hE hl hX hchk he hwt hsz hes ih hb hm
 go_enter Tryz.func69, Tryz.ntmps69
 by_cases h2 : e.op = 2
 · have e2 : (e.op == 2) = true := by simpa using h2
   have HBB := Lib.hid (show e.wit x fn b = { b with words := wi b.words e.name } from by rw [HEq.out, if_pos h2])
   clear h2 HOK HKF0
   go_upto_region 3 with fail
   refine bgk 8 (fun W => W.cell? ⟨bb, 0, none⟩ = some wv ∧ W.cell? ⟨eb, eo + 2, none⟩ = some (.string (str e.name))) (⟨HX.out.cells.1, (HS.out _ (Bb.refl _ _ _)).2.1⟩) (fun hHeld => ?_)
   refine tz 0 ?_
   refine tl 1 ?_
   refine tz 2 ?_
   refine tz 3 ?_
   refine tz 4 ?_
   refine tl 5 ?_
   refine rdk 6 rfl (fun K hK => ?_)
   go_simp
   refine (with_any b.words e.name M wv _ HX.out.drew.ws HX.out.sz HL.out.1).mono ?_
   rintro z w2 ⟨v2, rfl, hs2, hg2, ho2⟩
   obtain ⟨p2, c2, rfl, hr2⟩ := ownStrs hs2 (by have := wi_len b.words e.name; have := HL.out.1; omega)
   clear hr2
   have HP := Lib.hid (HX.out.drew.putW hs2 hg2 ho2)
   have HS2 := Lib.hid (HS.out w2 ((Bb.refl bb M w).drew.trans (Bb.grown hg2 (fun g e => (HX.out.ws.base e).1) HX.out.sz)))
   clear hs2 hg2 ho2
   refine hK.out _ _ ?_ (fun hHeldN => ?_)
   · exact ⟨HP.out.2.1, HS2.out.2.1⟩
   clear hK K hHeld
   have hHeld := hHeldN
   clear hHeldN
   try simp only [Act.put, List.setIfInBounds_toArray, List.set_cons_zero, List.set_cons_succ]
   refine tz 7 ?_
   refine rdb 8 rfl (fun K hK => ?_)
   have z1 := HP.out.2.1
   have f1 := HP.out.2.2
   go_simp
   refine hK.out _ _ ?_
   clear hK K
   try simp only [Act.put, List.setIfInBounds_toArray, List.set_cons_zero, List.set_cons_succ]
   refine dnk ?_ (by kernel_rfl) _
   clear hHeld
   go_wp2_with fail
   go_end0
   exact ⟨rfl, by rw [HBB.out]; exact ⟨_, _, HP.out.1.1⟩, (Bb.refl _ _ _).drew.trans HP.out.1.2⟩
 · have e2 : (e.op == 2) = false := by simpa using h2
   by_cases h3 : e.op = 3
   · have e3 : (e.op == 3) = true := by simpa using h3
     have hlen : e.args.len = 1 := by
       have h0 := HCH.out.1
       rw [h3] at h0
       have : argsN 3 = 1 := by decide
       omega
     obtain ⟨a0, r0, hea⟩ : ∃ a0 r0, e.args = .cons a0 r0 := by
       cases hx : e.args with
       | nil => rw [hx] at hlen; simp [Exs.len] at hlen
       | cons a r => exact ⟨a, r, rfl⟩
     have HBB := Lib.hid (show e.wit x fn b = a0.plc x fn { b with secret := b.secret || secB x fn e.name } from by rw [HEq.out, if_neg h2, if_pos h3, hea]; rfl)
     obtain ⟨ab, ao, hpa, hab, haa⟩ : ∃ b2 o2, pa = some ⟨b2, o2, none⟩ ∧ b2 < N ∧ e.args.At w N b2 o2 := by
       rcases HOK.out.2 with h0 | ⟨b, o, hp, hb, ha⟩
       · omega
       · exact ⟨b, o, hp, hb, ha⟩
     subst hpa
     have HA0 := Lib.hid (show a0.chk x fn (deep + 1) = 0 ∧ a0.At w N ab ao ∧ ab < N ∧ ∀ t : Bool, ({ b with secret := t } : Bas).wt + a0.size ≤ 3000000 from by
       rw [hea] at haa
       have h5 := HCH.out.2
       rw [hea] at h5
       refine ⟨(chk_cons h5).1, haa.1, hab, fun t => ?_⟩
       have h6 := HES.out
       have h7 := HWT.out
       rw [hea, Exs.size] at h6
       simp only [Bas.wt] at *
       omega)
     have HKF := Lib.hid (fun (W : World) (h : Bb bb M w W) => show W.cell? ⟨c9, 0, none⟩ = some (.func (.func 73) #[] #[.pointer (some ⟨bb, 0, none⟩), .pointer (some ⟨pc, 0, none⟩), .pointer (some ⟨fc, 0, none⟩), .pointer (some ⟨c9, 0, none⟩)]) ∧ W.cell? ⟨eb, eo + 3, none⟩ = some (.slice (some ⟨ab, ao, none⟩) 1 ca) from ⟨(HKF0.out W h).1, by have := (HKF0.out W h).2; rw [hlen] at this; exact this⟩)
     clear h2 h3 hab haa hea HOK HKF0
     have HX4 := HX.out.cells.2.2.1
     cases hrf : b.secret with
     | true =>
       rw [hrf] at HX4
       go_upto_region 5 with fail
       refine bgk 12 (fun W => W.cell? ⟨bb, 2, none⟩ = some (.bool true) ∧ W.cell? ⟨pc, 0, none⟩ = some (.pointer (some ⟨pb, 0, none⟩)) ∧ W.cell? ⟨fc, 0, none⟩ = some (.int .i64 (i : Int)) ∧ W.cell? ⟨eb, eo + 2, none⟩ = some (.string (str e.name))) (⟨HX4, HCE.out.pcC, HCE.out.fcC, (HS.out _ (Bb.refl _ _ _)).2.1⟩) (fun hHeld => ?_)
       refine tz 0 ?_
       refine tl 1 ?_
       refine tz 2 ?_
       refine sz 3 ?_
       refine sz 4 ?_
       refine sz 5 ?_
       refine sz 6 ?_
       refine sz 7 ?_
       refine sz 8 ?_
       refine sz 9 ?_
       refine tz 10 ?_
       refine tz 11 ?_
       refine rdb 12 rfl (fun K hK => ?_)
       have f1 := HX.out.frz 2
       have z1 := HX4
       go_simp
       refine hK.out _ _ ?_
       clear hK K
       try simp only [Act.put, List.setIfInBounds_toArray, List.set_cons_zero, List.set_cons_succ]
       refine dnk ?_ (by kernel_rfl) _
       clear hHeld
       have HI6 := Lib.hid (show BasIn ((w.setCell ⟨bb, 2, none⟩ (.bool true)).drew) bb M { b with secret := true } from ⟨_, _, (HX.out.drew.putS true).1⟩)
       have HF6 := Lib.hid (show Bb bb M w ((w.setCell ⟨bb, 2, none⟩ (.bool true)).drew) from (Bb.refl _ _ _).drew.trans (HX.out.drew.putS true).2)
       go_upto_region 6 with fail
       generalize (w.setCell ⟨bb, 2, none⟩ (.bool true)).drew = w6 at HI6 HF6 ⊢
       have HK6 := Lib.hid (HKF.out _ HF6.out.drew)
       have HC := Lib.hid (plc_to (a0.size + 1) a0 (Nat.lt_succ_self _) N bb M pc fc c9 c8 pb i (deep + 1) x s fn ab ao w6.drew { b with secret := true } (HCE.out.later HF6.out.drew) HA0.out.1 (Ex.At.later (HN.out _ HF6.out.drew) (Nat.le_refl N) a0 ab ao HA0.out.2.2.1 HA0.out.2.1) HA0.out.2.2.1 (by obtain ⟨u, v, h⟩ := HI6.out; exact ⟨u, v, h.drew⟩) (HA0.out.2.2.2 _))
       refine wp_region_held_drew (S := fun W => W.cell? ⟨c9, 0, none⟩ = some (.func (.func 73) #[] #[.pointer (some ⟨bb, 0, none⟩), .pointer (some ⟨pc, 0, none⟩), .pointer (some ⟨fc, 0, none⟩), .pointer (some ⟨c9, 0, none⟩)]) ∧ W.cell? ⟨eb, eo + 3, none⟩ = some (.slice (some ⟨ab, ao, none⟩) 1 ca)) (by kernel_rfl) ?_ (fun hHeld => ?_)
       · exact HK6.out
       refine tq 0 ?_
       refine tq 1 ?_
       refine tq 2 ?_
       refine tq 3 ?_
       refine tq 4 ?_
       refine tq 5 ?_
       refine wpAnyH_ready (rs := [6]) (by kernel_rfl) (by simp) ?_
       refine rdy rfl (fun K hK => ?_) AllReadyH.nil
       go_simp
       refine HC.out.mono ?_
       rintro z w7 ⟨rfl, h7, hB7⟩
       have H7 := Lib.hid h7
       have HB7 := Lib.hid (HF6.out.drew.trans hB7)
       have HK7 := Lib.hid (HKF.out w7 HB7.out)
       clear h7 hB7
       refine hK.out _ _ ?_ (fun hHeldN => ?_)
       · exact HK7.out
       clear hK K hHeld
       have hHeld := hHeldN
       clear hHeldN
       try simp only [Act.put, List.setIfInBounds_toArray, List.set_cons_zero, List.set_cons_succ]
       refine wpAnyH_done (by kernel_rfl) ?_ _
       clear hHeld
       go_wp2_with fail
       go_end0
       exact ⟨rfl, by rw [HBB.out, hrf]; exact H7.out, HB7.out⟩
     | false =>
       rw [hrf] at HX4
       have HSB := Lib.hid (show (false || secB x fn e.name) = secB x fn e.name from rfl)
       go_upto_region 5 with fail
       refine bgk 12 (fun W => W.cell? ⟨bb, 2, none⟩ = some (.bool false) ∧ W.cell? ⟨pc, 0, none⟩ = some (.pointer (some ⟨pb, 0, none⟩)) ∧ W.cell? ⟨fc, 0, none⟩ = some (.int .i64 (i : Int)) ∧ W.cell? ⟨eb, eo + 2, none⟩ = some (.string (str e.name))) (⟨HX4, HCE.out.pcC, HCE.out.fcC, (HS.out _ (Bb.refl _ _ _)).2.1⟩) (fun hHeld => ?_)
       refine tz 0 ?_
       refine tl 1 ?_
       refine tz 2 ?_
       refine tl 3 ?_
       refine tl 4 ?_
       refine tz 5 ?_
       refine tz 6 ?_
       refine tz 7 ?_
       refine tl 8 ?_
       refine rdk 9 rfl (fun K hK => ?_)
       go_simp
       refine (isSecret_any x s i fn e.name pb N _ HPB.out HNW.out HCE.out.fi).mono ?_
       rintro z w2 ⟨rfl, hB2⟩
       have HB2 := Lib.hid (show Below w.heap.size w w2 from (Below.refl _ _).drew.trans hB2)
       have HX2 := Lib.hid (HX.out.later HB2.out)
       have hbb2 : Bb bb M w w2 := Bb.of_below HB2.out HX.out.sz
       have HK2 := Lib.hid (show w2.cell? ⟨bb, 2, none⟩ = some (.bool false) ∧ w2.cell? ⟨pc, 0, none⟩ = some (.pointer (some ⟨pb, 0, none⟩)) ∧ w2.cell? ⟨fc, 0, none⟩ = some (.int .i64 (i : Int)) ∧ w2.cell? ⟨eb, eo + 2, none⟩ = some (.string (str e.name)) from ⟨by rw [← hrf]; exact HX2.out.cells.2.2.1, (HCE.out.later hbb2).pcC, (HCE.out.later hbb2).fcC, (HS.out _ hbb2).2.1⟩)
       clear hB2 hbb2
       refine hK.out _ _ ?_ (fun hHeldN => ?_)
       · exact HK2.out
       clear hK K hHeld
       have hHeld := hHeldN
       clear hHeldN
       try simp only [Act.put, List.setIfInBounds_toArray, List.set_cons_zero, List.set_cons_succ]
       refine tz 10 ?_
       refine tz 11 ?_
       refine rdb 12 rfl (fun K hK => ?_)
       have z1 := HK2.out.1
       have f1 := HX2.out.frz 2
       go_simp
       refine hK.out _ _ ?_
       clear hK K
       try simp only [Act.put, List.setIfInBounds_toArray, List.set_cons_zero, List.set_cons_succ]
       refine dnk ?_ (by kernel_rfl) _
       clear hHeld
       have HI6 := Lib.hid (show BasIn (w2.setCell ⟨bb, 2, none⟩ (.bool (secB x fn e.name))) bb M { b with secret := secB x fn e.name } from ⟨_, _, (HX2.out.putS (secB x fn e.name)).1⟩)
       have HF6 := Lib.hid (show Bb bb M w (w2.setCell ⟨bb, 2, none⟩ (.bool (secB x fn e.name))) from (Bb.of_below HB2.out HX.out.sz).trans (HX2.out.putS (secB x fn e.name)).2)
       go_upto_region 6 with fail
       generalize w2.setCell ⟨bb, 2, none⟩ (.bool (secB x fn e.name)) = w6 at HI6 HF6 ⊢
       have HK6 := Lib.hid (HKF.out _ HF6.out.drew)
       have HC := Lib.hid (plc_to (a0.size + 1) a0 (Nat.lt_succ_self _) N bb M pc fc c9 c8 pb i (deep + 1) x s fn ab ao w6.drew { b with secret := secB x fn e.name } (HCE.out.later HF6.out.drew) HA0.out.1 (Ex.At.later (HN.out _ HF6.out.drew) (Nat.le_refl N) a0 ab ao HA0.out.2.2.1 HA0.out.2.1) HA0.out.2.2.1 (by obtain ⟨u, v, h⟩ := HI6.out; exact ⟨u, v, h.drew⟩) (HA0.out.2.2.2 _))
       refine wp_region_held_drew (S := fun W => W.cell? ⟨c9, 0, none⟩ = some (.func (.func 73) #[] #[.pointer (some ⟨bb, 0, none⟩), .pointer (some ⟨pc, 0, none⟩), .pointer (some ⟨fc, 0, none⟩), .pointer (some ⟨c9, 0, none⟩)]) ∧ W.cell? ⟨eb, eo + 3, none⟩ = some (.slice (some ⟨ab, ao, none⟩) 1 ca)) (by kernel_rfl) ?_ (fun hHeld => ?_)
       · exact HK6.out
       refine tq 0 ?_
       refine tq 1 ?_
       refine tq 2 ?_
       refine tq 3 ?_
       refine tq 4 ?_
       refine tq 5 ?_
       refine wpAnyH_ready (rs := [6]) (by kernel_rfl) (by simp) ?_
       refine rdy rfl (fun K hK => ?_) AllReadyH.nil
       go_simp
       refine HC.out.mono ?_
       rintro z w7 ⟨rfl, h7, hB7⟩
       have H7 := Lib.hid h7
       have HB7 := Lib.hid (HF6.out.drew.trans hB7)
       have HK7 := Lib.hid (HKF.out w7 HB7.out)
       clear h7 hB7
       refine hK.out _ _ ?_ (fun hHeldN => ?_)
       · exact HK7.out
       clear hK K hHeld
       have hHeld := hHeldN
       clear hHeldN
       try simp only [Act.put, List.setIfInBounds_toArray, List.set_cons_zero, List.set_cons_succ]
       refine wpAnyH_done (by kernel_rfl) ?_ _
       clear hHeld
       go_wp2_with fail
       go_end0
       exact ⟨rfl, by rw [HBB.out, hrf]; exact H7.out, HB7.out⟩
   · have e3 : (e.op == 3) = false := by simpa using h3
     have HBB := Lib.hid (show e.wit x fn b = e.args.wit x fn b from by rw [HEq.out, if_neg h2, if_neg h3])
     clear h2 h3 HOK HKF0
     have HC := Lib.hid (eachw_any n IH.out e HSZ.out N bb M pc fc c9 c8 pb i (deep + 1) x s fn eb eo w b HCE.out HCH.out.2 (HEA.out w (Bb.refl _ _ _)) HBL.out ⟨_, _, HX.out⟩ (by have := HWT.out; have := HES.out; omega))
     have k8 := HCE.out.c8C
     unfold witV at HC k8
     go_wp2_with fail
     refine HC.out.mono ?_
     rintro z w5 ⟨rfl, h5, hB5⟩
     have H5 := Lib.hid (show BasIn w5 bb M (e.wit x fn b) from by rw [HBB.out]; exact h5)
     have HB5 := Lib.hid hB5
     clear h5 hB5 k8
     go_wp2_with fail
     go_end0
     exact ⟨rfl, H5.out, HB5.out⟩
theorem wit_to : ∀ n, WitTo n
 | 0 => fun _ h => absurd h (Nat.not_lt_zero _)
 | n + 1 => wit_step n (wit_to n)
/- An expression's basis, and its level. -/
open Go.RowKit

def BVal (w : World) (N : Nat) (v : Value) (b : Bas) : Prop := ∃ p c q d, v = .agg #[.slice p b.words.length c, .slice q b.places.length d, .bool b.secret, .bool b.refused] ∧ RowIn N (StrAt w) 1 b.words p ∧ RowIn N (StrAt w) 1 b.places q
theorem BVal.later {w w' : World} {N M : Nat} {v : Value} {b : Bas} (h : BVal w N v b) (hw : Below N w w') (hM : N ≤ M) : BVal w' M v b := by
 obtain ⟨p, c, q, d, h1, h2, h3⟩ := h
 exact ⟨p, c, q, d, h1, h2.imp hM (StrAt.later hw), h3.imp hM (StrAt.later hw)⟩
set_option maxHeartbeats 3200000 in
theorem idxF_any (l T : List (List UInt8)) (mb : Nat) (p : Option Addr) (c N : Nat) (w : World) (hl : RowIn N (StrAt w) 1 l p) (hN : N ≤ w.heap.size) (hM : Mp w mb (mem T)) :
   Calls Tryz.prog 93 #[.slice p l.length c, .func (.func 60) #[.map (some mb)] #[]] w fun z w' => (∃ i, z = .returned (.int .i64 i) ∧ IxIs (mem T) l i) ∧ Below w.heap.size w w' := by
 obtain ⟨b, o, hp, hb, ha⟩ := Row.start hl
 have hm := hl.1
 have HA := Lib.hid (fun (W : World) (h : Below w.heap.size w W) => show Row (StrAt W) 1 l b o ∨ l.length = 0 from by
   rcases hb with hb | hb
   · exact .inl (Row.imp (fun x o hx => StrAt.later (h.mono hN) x b o hb hx) l o ha)
   · exact .inr hb)
 have HM := Lib.hid hM
 clear ha hl hb hM
 go_enter Tryz.func93, Tryz.ntmps93
 go_wp2_with fail
 go_loopw [8] (fun i wr => ∃ (d r : List (List UInt8)), i = .int .i64 d.length ∧ d.length + r.length = l.length ∧ Hid (l = d ++ r) ∧ Hid (d.all (fun y => !(mem T y)) = true) ∧ Hid (Below w.heap.size w wr)) (fun i _ => l.length - (intOf i).toNat)
 case atStart => exact ⟨[], l, rfl, by simp, Lib.hid rfl, Lib.hid rfl, Lib.hid (Below.refl _ _)⟩
 case round =>
   obtain ⟨d, r, rfl, hd, hE, hF, hB⟩ := hrel
   cases r with
   | nil =>
     simp only [List.length_nil] at hd
     have hge : ¬ d.length < l.length := by omega
     have HR := Lib.hid (show IxIs (mem T) l (-1) from .inr ⟨rfl, by rw [hE.out, List.append_nil]; exact hF.out⟩)
     go_wp2_with fail
     go_ret
     exact ⟨⟨_, rfl, HR.out⟩, hB.out⟩
   | cons y r =>
     simp only [List.length_cons] at hd
     have hlt : d.length < l.length := by omega
     rcases hp with h0 | rfl
     · omega
     have d0 := str_get (by rcases HA.out wr hB.out with h | h; exact h; omega) hE.out
     have HC := Lib.hid (lvSecret_any (mem T) y mb wr (HM.out.later hB.out))
     have HY := Lib.hid (show mem T y = true → IxIs (mem T) l (d.length : Int) from fun h => .inl ⟨d.length, y, d, r, rfl, hE.out, rfl, h, hF.out⟩)
     have HN' := Lib.hid (show mem T y = false → (d ++ [y]).all (fun y => !(mem T y)) = true from fun h => by rw [List.all_append, hF.out]; simp [h])
     generalize mem T y = t at HC HY HN'
     go_wp2_with fail
     refine HC.out.mono ?_
     rintro z w2 ⟨rfl, hB2⟩
     have HB2 := Lib.hid (hB.out.trans (hB2.mono hB.out.size))
     clear hB2 HC d0
     cases t with
     | true =>
       have HR1 := Lib.hid (HY.out rfl)
       clear HY HN'
       go_wp2_with fail
       go_ret
       exact ⟨⟨_, rfl, HR1.out⟩, HB2.out⟩
     | false =>
       have HR1 := Lib.hid (HN'.out rfl)
       clear HY HN'
       go_wp2_with fail
       go_roundw
       case rel => exact ⟨d ++ [y], r, by rw [List.length_append]; go_num, by simp; omega, Lib.hid (by rw [hE.out]; simp), HR1, HB2⟩
       case measure => simp [intOf]; omega
theorem conF_any (l T : List (List UInt8)) (mb : Nat) (p : Option Addr) (c N : Nat) (w : World) (hl : RowIn N (StrAt w) 1 l p) (hN : N ≤ w.heap.size) (hM : Mp w mb (mem T)) :
   Calls Tryz.prog 76 #[.slice p l.length c, .func (.func 60) #[.map (some mb)] #[]] w fun z w' => z = .returned (.bool (l.any (mem T))) ∧ Below w.heap.size w w' := by
 have HC := Lib.hid (idxF_any l T mb p c N w hl hN hM)
 clear hl hM
 go_enter Tryz.func76, Tryz.ntmps76
 go_wp2_with fail
 refine HC.out.mono ?_
 rintro z w1 ⟨⟨i, rfl, hi⟩, hB⟩
 have HI := Lib.hid hi.any
 have HB := Lib.hid hB
 clear hi hB
 go_wp2_with fail
 go_ret
 exact ⟨ret_bool HI.out, HB.out⟩
theorem smust_yes (e : Int) (w : World) : Calls Tryz.prog 75 #[.bool true, .int .i64 e] w fun z w' => z = .returned (.tuple #[]) ∧ w = w' := by
 go_enter Tryz.func75, Tryz.ntmps75
 go_wp2_with fail
 go_end0
 exact ⟨rfl, rfl⟩
theorem smust_no (e : Int) (w : World) : Calls Tryz.prog 75 #[.bool false, .int .i64 e] w fun z w' => z = Pn e ∧ w = w' := by
 go_enter Tryz.func75, Tryz.ntmps75
 go_wp2_with fail
 exact ⟨rfl, rfl, rfl⟩
inductive LvEnd (r : Option Bool) (w : World) : Ending → World → Prop where
 | ok {t : Bool} {w' : World} (h : r = some t) (hB : Below w.heap.size w w') : LvEnd r w (.returned (.bool t)) w'
 | no {w' : World} (h : r = none) (hB : Below w.heap.size w w') : LvEnd r w (Pn 10) w'
set_option maxHeartbeats 3200000 in
theorem level_any (b : Bas) (T : List (List UInt8)) (kb mb N : Nat) (v : Value) (w : World) (hV : BVal w N v b) (hk : ∃ p c q d, v = .agg #[.slice p b.words.length c, .slice q b.places.length d, .bool b.secret, .bool b.refused] ∧ w.heap[kb]? = some (.cells #[.slice p b.words.length c, .slice q b.places.length d, .bool b.secret, .bool b.refused] 93 (0, 0))) (hN : N ≤ w.heap.size) (hM : Mp w mb (mem T)) :
   Calls Tryz.prog 41 #[.pointer (some ⟨kb, 0, none⟩), .map (some mb)] w (LvEnd (b.lev T) w) := by
 obtain ⟨p, c, q, d, hv, h1, h2⟩ := hV
 obtain ⟨p', c', q', d', hv', hkb⟩ := hk
 subst hv
 cases hv'
 have HP := Lib.hid (fun (W : World) (h : Below w.heap.size w W) => conF_any b.places T mb q d N W (h2.imp (Nat.le_refl N) (StrAt.later (h.mono hN))) (Nat.le_trans hN h.size) (hM.later h))
 have HW := Lib.hid (fun (W : World) (h : Below w.heap.size w W) => conF_any b.words T mb p c N W (h1.imp (Nat.le_refl N) (StrAt.later (h.mono hN))) (Nat.le_trans hN h.size) (hM.later h))
 have HK := Lib.hid (fun (W : World) (h : Below w.heap.size w W) => show W.heap[kb]? = some (.cells #[.slice p b.words.length c, .slice q b.places.length d, .bool b.secret, .bool b.refused] 93 (0, 0)) from (h.block _ (lt_blk hkb)).trans hkb)
 have HB0 := Lib.hid (Below.refl w.heap.size w)
 have HL := Lib.hid (show b.lev T = if !b.refused && !b.places.any (mem T) then some (b.secret || b.words.any (mem T)) else none from rfl)
 generalize b.lev T = r at HL ⊢
 clear h1 h2 hkb hM
 obtain ⟨bw, bp, bs, br⟩ := b
 dsimp only at HP HW HK HL
 have hkb := HK.out w HB0.out
 have c0 := cell_blk hkb (j := 0) rfl
 have c1 := cell_blk hkb (j := 1) rfl
 have c2 := cell_blk hkb (j := 2) rfl
 have c3 := cell_blk hkb (j := 3) rfl
 clear hkb
 generalize bp.any (mem T) = tp at HP HL
 generalize bw.any (mem T) = tw at HW HL
 cases br with
 | true =>
   have HR := Lib.hid (show r = none from HL.out)
   go_enter Tryz.func41, Tryz.ntmps41
   go_wp2_with fail
   refine (smust_no 10 _).mono ?_
   rintro z w2 ⟨rfl, rfl⟩
   unfold Pn
   go_wp2_with fail
   exact ⟨rfl, .no HR.out HB0.out⟩
 | false =>
   go_enter Tryz.func41, Tryz.ntmps41
   go_wp2_with fail
   refine (HP.out w HB0.out).mono ?_
   rintro z w2 ⟨rfl, hB2⟩
   have HB2 := Lib.hid hB2
   clear hB2 c0 c1 c2 c3
   cases tp with
   | true =>
     have HR := Lib.hid (show r = none from HL.out)
     go_wp2_with fail
     refine (smust_no 10 _).mono ?_
     rintro z w3 ⟨rfl, rfl⟩
     unfold Pn
     go_wp2_with fail
     exact ⟨rfl, .no HR.out HB2.out⟩
   | false =>
     go_wp2_with fail
     refine (smust_yes 10 _).mono ?_
     rintro z w3 ⟨rfl, rfl⟩
     have hkb := HK.out w2 HB2.out
     have c0 := cell_blk hkb (j := 0) rfl
     have c2 := cell_blk hkb (j := 2) rfl
     clear hkb
     cases bs with
     | true =>
       have HR := Lib.hid (show r = some true from HL.out)
       go_wp2_with fail
       go_ret
       exact .ok HR.out HB2.out
     | false =>
       have HR := Lib.hid (show r = some tw from HL.out)
       go_wp2_with fail
       refine (HW.out w2 HB2.out).mono ?_
       rintro z w4 ⟨rfl, hB4⟩
       have HB4 := Lib.hid (HB2.out.trans (hB4.mono HB2.out.size))
       clear hB4 c0 c2
       go_wp2_with fail
       go_ret
       exact .ok HR.out HB4.out
/- An expression's basis. -/
open Go.RowKit

theorem BI.val {w : World} {bb M : Nat} {b : Bas} {wv pv : Value} (h : BI w bb M b wv pv) (hb : b.wt ≤ 4000000) : ∃ p c q d, wv = .slice p b.words.length c ∧ pv = .slice q b.places.length d ∧ RowIn w.heap.size (StrAt w) 1 b.words p ∧ RowIn w.heap.size (StrAt w) 1 b.places q := by
 unfold Bas.wt at hb
 obtain ⟨p, c, h1, h2⟩ := ownStrs h.ws (by omega)
 obtain ⟨q, d, h3, h4⟩ := ownStrs h.ps (by omega)
 exact ⟨p, c, q, d, h1, h3, h2, h4⟩
theorem SRow.base0 {w : World} {M : Nat} {v : Value} {l : List (List UInt8)} (h : SRow w M v l) : SRow w 0 v l := by
 refine ⟨h.1, ?_⟩
 rcases h.2 with hn | ⟨g, cap, cur, rfl, hb, hr⟩
 · exact .inl hn
 · exact .inr ⟨g, cap, cur, rfl, Nat.zero_le _, hr⟩
theorem alloc6 (w : World) (o0 o1 o2 o3 o4 o5 : Obj) : ∃ W : World, ((((((w.alloc o0).alloc o1).alloc o2).alloc o3).alloc o4).alloc o5) = W ∧ (W.heap[w.heap.size]? = some o0 ∧ W.heap[w.heap.size + 1]? = some o1 ∧ W.heap[w.heap.size + 1 + 1]? = some o2 ∧ W.heap[w.heap.size + 1 + 1 + 1]? = some o3 ∧ W.heap[w.heap.size + 1 + 1 + 1 + 1]? = some o4 ∧ W.heap[w.heap.size + 1 + 1 + 1 + 1 + 1]? = some o5) ∧ Below w.heap.size w W ∧ W.heap.size = w.heap.size + 1 + 1 + 1 + 1 + 1 + 1 := by
 have kp : ∀ (A : World) (o o' : Obj) (k : Nat), A.heap[k]? = some o → (A.alloc o').heap[k]? = some o := fun A o o' k h => (Below.heap_alloc _ _ _ (lt_blk h)).trans h
 have nw : ∀ (A : World) (o : Obj) (k : Nat), A.heap.size = k → (A.alloc o).heap[k]? = some o := fun A o k h => by subst h; exact heap_alloc_new A o
 refine ⟨_, rfl, ⟨?_, ?_, ?_, ?_, ?_, ?_⟩, ?_, ?_⟩
 · exact kp _ _ _ _ (kp _ _ _ _ (kp _ _ _ _ (kp _ _ _ _ (kp _ _ _ _ (nw _ _ _ rfl)))))
 · exact kp _ _ _ _ (kp _ _ _ _ (kp _ _ _ _ (kp _ _ _ _ (nw _ _ _ (by simp)))))
 · exact kp _ _ _ _ (kp _ _ _ _ (kp _ _ _ _ (nw _ _ _ (by simp))))
 · exact kp _ _ _ _ (kp _ _ _ _ (nw _ _ _ (by simp)))
 · exact kp _ _ _ _ (nw _ _ _ (by simp))
 · exact nw _ _ _ (by simp)
 · exact (((((((Below.refl _ _).alloc (Nat.le_refl _) _).alloc (by simp) _).alloc (by simp; omega) _).alloc (by simp; omega) _).alloc (by simp; omega) _).alloc (by simp; omega) _)
 · simp
set_option maxRecDepth 100000 in
set_option maxHeartbeats 6400000 in
theorem basisOf_any (x : Prg) (s : PrgP) (i : Nat) (fn : Fnc) (e : Ex) (deep pb eb eo N : Nat) (w : World) (hP : PB w N x pb s.p s.q s.c s.d) (hN : N ≤ w.heap.size) (hi : x.fns[i]? = some fn) (hchk : e.chk x fn deep = 0) (he : e.At w N eb eo) (hb : eb < N) (hsz : e.size ≤ 3000000) :
   Calls Tryz.prog 37 #[.pointer (some ⟨pb, 0, none⟩), .int .i64 (i : Int), .pointer (some ⟨eb, eo, none⟩)] w fun z w' => ∃ p c q d, z = .returned (.agg #[.slice p (e.bas x fn).words.length c, .slice q (e.bas x fn).places.length d, .bool (e.bas x fn).secret, .bool (e.bas x fn).refused]) ∧ SRow w' 0 (.slice p (e.bas x fn).words.length c) (e.bas x fn).words ∧ SRow w' 0 (.slice q (e.bas x fn).places.length d) (e.bas x fn).places ∧ Below w.heap.size w w' := by
 obtain ⟨W, hW, ⟨k0, k1, k2, k3, k4, k5⟩, hB, hz⟩ := alloc6 w (.cells #[.pointer (some ⟨pb, 0, none⟩)] 77) (.cells #[.int .i64 (i : Int)] 3) (.cells #[.slice none 0 0, .slice none 0 0, .bool false, .bool false] 93) (.cells #[.slice none 0 0, .slice none 0 0, .bool false, .bool false] 93) (.cells #[witV (w.heap.size + 1 + 1 + 1) w.heap.size (w.heap.size + 1) (w.heap.size + 1 + 1 + 1 + 1 + 1) (w.heap.size + 1 + 1 + 1 + 1)] 123) (.cells #[plcV (w.heap.size + 1 + 1 + 1) w.heap.size (w.heap.size + 1) (w.heap.size + 1 + 1 + 1 + 1 + 1)] 123)
 have hpb := lt_blk hP.cs
 have HBI : BI W (w.heap.size + 1 + 1 + 1) (w.heap.size + 1 + 1 + 1 + 1 + 1 + 1) bas0 (.slice none 0 0) (.slice none 0 0) :=
   ⟨k3, World.ownsRow_nil _ _ _ _, World.ownsRow_nil _ _ _ _, (fun g h => by simp [Value.ownBlock] at h), by omega, Nat.le_of_eq hz.symm⟩
 have HCE : CE W N (w.heap.size + 1 + 1 + 1) (w.heap.size + 1 + 1 + 1 + 1 + 1 + 1) w.heap.size (w.heap.size + 1) (w.heap.size + 1 + 1 + 1 + 1 + 1) (w.heap.size + 1 + 1 + 1 + 1) pb x s i fn :=
   ⟨cell_blk k0 rfl, cell_blk k1 rfl, cell_blk k5 rfl, cell_blk k4 rfl, ⟨(hB.block _ hpb).trans hP.cs, hP.ok.later (hB.mono hN) (Nat.le_refl N)⟩, hi, by omega⟩
 have HC := Lib.hid (wit_to (e.size + 1) e (Nat.lt_succ_self _) N _ _ _ _ _ _ pb i deep x s fn eb eo W bas0 HCE hchk (Ex.At.later (hB.mono hN) (Nat.le_refl N) e eb eo hb he) hb ⟨_, _, HBI⟩ (by simp [bas0, Bas.wt]; omega))
 have HW := Lib.hid hW
 have HK2 := Lib.hid k2
 have HB := Lib.hid (And.intro hB hz)
 have hwt := e.wit_wt x fn bas0
 have HWT := Lib.hid (show (e.bas x fn).wt ≤ 4000000 by unfold Ex.bas; simp only [show bas0.wt = 0 from rfl] at hwt; omega)
 have k4' := cell_blk k4 (j := 0) rfl
 unfold witV plcV at HW
 unfold witV at k4'
 clear hW k0 k1 k2 k3 k4 k5 hB hz HBI HCE hP hchk he hi hwt
 obtain ⟨B, hBB⟩ : ∃ B, B = e.bas x fn := ⟨_, rfl⟩
 rw [← hBB] at HWT ⊢
 have HBB := Lib.hid hBB
 clear hBB
 go_enter Tryz.func37, Tryz.ntmps37
 go_upto_region 5 with fail
 rw [HW.out]
 clear HW
 go_wp2_with fail
 refine HC.out.mono ?_
 rintro z w2 ⟨rfl, ⟨wv, pv, hI⟩, hF⟩
 change BI w2 _ _ (e.bas x fn) wv pv at hI
 rw [← HBB.out] at hI
 obtain ⟨p, c, q, d, rfl, rfl, h1, h2⟩ := hI.val HWT.out
 have kr := (hF.block (w.heap.size + 1 + 1) (by omega) (by omega)).trans HK2.out
 have HF := Lib.hid (show Below w.heap.size w w2 from HB.out.1.trans (hF.below (by omega) (by omega)))
 have H1 := Lib.hid (show w.heap.size + 1 + 1 < w2.heap.size from lt_blk kr)
 obtain ⟨c0, c1, c2, c3⟩ := hI.cells
 have HR := Lib.hid (fun (v0 v1 v2 v3 : Value) => And.intro ((((hI.ws.set (bb := w.heap.size + 1 + 1) (j := 0) (u := v0) (by omega)).set (bb := w.heap.size + 1 + 1) (j := 1) (u := v1) (by omega)).set (bb := w.heap.size + 1 + 1) (j := 2) (u := v2) (by omega)).set (bb := w.heap.size + 1 + 1) (j := 3) (u := v3) (by omega)) ((((hI.ps.set (bb := w.heap.size + 1 + 1) (j := 0) (u := v0) (by omega)).set (bb := w.heap.size + 1 + 1) (j := 1) (u := v1) (by omega)).set (bb := w.heap.size + 1 + 1) (j := 2) (u := v2) (by omega)).set (bb := w.heap.size + 1 + 1) (j := 3) (u := v3) (by omega)))
 have z0 := cell_blk kr (j := 0) rfl
 have z1 := cell_blk kr (j := 1) rfl
 have z2 := cell_blk kr (j := 2) rfl
 have z3 := cell_blk kr (j := 3) rfl
 have fz : ∀ j, w2.frozen? ⟨w.heap.size + 1 + 1, j, none⟩ = false := fun j => by simp [World.frozen?, kr]
 have f0 := fz 0
 have f1 := fz 1
 have f2 := fz 2
 have f3 := fz 3
 have HKR := Lib.hid kr
 clear hI h1 h2 hF kr fz k4' HC
 go_wp2_with fail
 have hk := set4 HKR.out (.slice p B.words.length c) (.slice q B.places.length d) (.bool B.secret) (.bool B.refused)
 have hb4 := below_set4 HF.out (g := w.heap.size + 1 + 1) (by omega) (.slice p B.words.length c) (.slice q B.places.length d) (.bool B.secret) (.bool B.refused)
 have hr := HR.out (.slice p B.words.length c) (.slice q B.places.length d) (.bool B.secret) (.bool B.refused)
 generalize ((((w2.setCell ⟨w.heap.size + 1 + 1, 0, none⟩ (.slice p B.words.length c)).setCell ⟨w.heap.size + 1 + 1, 1, none⟩ (.slice q B.places.length d)).setCell ⟨w.heap.size + 1 + 1, 2, none⟩ (.bool B.secret)).setCell ⟨w.heap.size + 1 + 1, 3, none⟩ (.bool B.refused)) = W4 at hk hb4 hr ⊢
 have hwt := HWT.out
 unfold Bas.wt at hwt
 have r1 := hr.1.base0
 have r2 := hr.2.base0
 have y0 := cell_blk hk (j := 0) rfl
 have y1 := cell_blk hk (j := 1) rfl
 have y2 := cell_blk hk (j := 2) rfl
 have y3 := cell_blk hk (j := 3) rfl
 refine bodyPost_ret (v := .agg #[.slice p B.words.length c, .slice q B.places.length d, .bool B.secret, .bool B.refused]) ?_ rfl ⟨p, c, q, d, rfl, r1, r2, hb4⟩
 simp [results, Tryz.results37, go_sem, y0, y1, y2, y3]
/- Keys of a number and an address. -/
open Go.RowKit

def keyV (k : Int) (a : Addr) : Value := .agg #[.int .i64 k, .pointer (some a)]
theorem part_int (k : Int) (a : Addr) (w : World) : (part 3 #[.int .i64 k, .pointer (some a)] 0).run Tryz.prog w = .ok (.int .i64 k) w := by
 have h : (isAgg 3).run Tryz.prog w = .ok false w := by kernel_rfl
 simp [part, h, Result.andThen]
theorem part_ptr (k : Int) (a : Addr) (w : World) : (part 95 #[.int .i64 k, .pointer (some a)] 1).run Tryz.prog w = .ok (.pointer (some a)) w := by
 have h : (isAgg 95).run Tryz.prog w = .ok false w := by kernel_rfl
 simp [part, h, Result.andThen]
theorem eq_ptr (d : Nat) (a a' : Addr) (w : World) (ha : ∃ c t, w.heap[a.block]? = some (.cells c t (0, 0))) (ha' : ∃ c t, w.heap[a'.block]? = some (.cells c t (0, 0))) :
   (Op.equalIn (d + 1) 95 (.pointer (some a)) (.pointer (some a'))).run Tryz.prog w = .ok (decide (a = a')) w := by
 obtain ⟨c, t, h⟩ := ha
 obtain ⟨c', t', h'⟩ := ha'
 have hu := Tryz.underlying95
 have hs : (sizeOf 40).run Tryz.prog w = .ok 4 w := by kernel_rfl
 by_cases hn : a = a'
 · subst hn
   simp [Op.equalIn, run_underlying hu, hs, run_sameAddr_same, Result.andThen]
 · simp [Op.equalIn, run_underlying hu, hs, run_sameAddr_other w hn h h', hn, Result.andThen]
theorem eq_key (k k' : Int) (a a' : Addr) (w : World) (ha : ∃ c t, w.heap[a.block]? = some (.cells c t (0, 0))) (ha' : ∃ c t, w.heap[a'.block]? = some (.cells c t (0, 0))) :
   (Op.equal 174 (keyV k a) (keyV k' a')).run Tryz.prog w = .ok (decide (k = k' ∧ a = a')) w := by
 have hp : Tryz.prog.stoodInHeld 174 = false := by kernel_rfl
 have ht : Tryz.prog.underlying 174 = some (.struct (Tryz.prog.fieldsOf 174)) := by kernel_rfl
 have e1 := run_equalIn_struct (P := Tryz.prog) w 9999 174 #[.int .i64 k, .pointer (some a)] #[.int .i64 k', .pointer (some a')] ht hp
 have e0 : Op.equal 174 (keyV k a) (keyV k' a') = Op.equalIn (9999 + 1) 174 (.agg #[.int .i64 k, .pointer (some a)]) (.agg #[.int .i64 k', .pointer (some a')]) := rfl
 rw [e0, e1]
 have hf : (Tryz.prog.fieldsOf 174).toList = [{ name := "f", type := 3, offset := 0, embedded := false, tag := "", pkgPath := "muffle/sectype", byteOffset := 0 }, { name := "e", type := 95, offset := 1, embedded := false, tag := "", pkgPath := "muffle/sectype", byteOffset := 8 }] := by kernel_rfl
 rw [hf]
 have n1 : ¬ ("f" = "_") := by decide
 have n2 : ¬ ("e" = "_") := by decide
 have hi := run_equalIn_int (P := Tryz.prog) w 9998 3 .i64 .i64 k k' Tryz.underlying3
 have hq : (Op.equalIn 9999 95 (.pointer (some a)) (.pointer (some a'))).run Tryz.prog w = .ok (decide (a = a')) w := eq_ptr 9998 a a' w ha ha'
 simp only [Op.eqFields, n1, n2, ne_eq, not_false_eq_true, if_true, Sem.run_bind, part_int, Result.andThen_ok, hi]
 by_cases hk : k = k'
 · subst hk
   have hb : ∀ b : Bool, (decide (a = a')) = b → (Op.equalIn 9999 95 (.pointer (some a)) (.pointer (some a'))).run Tryz.prog w = .ok b w := fun b hb => hb ▸ hq
   by_cases haa : a = a'
   · subst haa
     have := hb true (by simp)
     simp [part_ptr, Result.andThen, this]
   · have := hb false (by simp [haa])
     simp [part_ptr, Result.andThen, this, haa]
 · simp [hk]
end Go.Proofs.YtihmibggonffdaaGreat
