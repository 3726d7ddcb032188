/- LB4, LBC as one. -/
import Derived.Test.YtihmibggonffdaaGreatLB7
/- The document's level of an expression. -/
namespace Go.Proofs.YtihmibggonffdaaGreat
open Go.RowKit

def Told (x : Prg) (fn : Fnc) (L : List Bool) (gg : List UInt8 → Bool) : Prop := ∀ nm j, findK x fn nm = 1 → FindJ x fn nm j → L[j]? = some (gg nm)
def RXL (n : Nat) : Prop := ∀ (e : Ex), e.size < n → ∀ (x : Prg) (s : PrgP) (i : Nat) (fn : Fnc) (gg : List UInt8 → Bool) (deep g M N : Nat) (v : Value) (L : List Bool) (er gn : Nat) (p : Option Addr) (c : Nat) (w : World), x.Ok w N s.p s.q → N ≤ w.heap.size → N ≤ g → x.fns[i]? = some fn → fn.params.length + fn.vars.length ≤ 4000000 → fn.params.all Vr.par = true → Told x fn L gg → Cs w M g x s i v L er gn → e.Ok w N p → e.chk x fn deep = 0 →
   Calls Tryz.prog 15 #[.pointer (some ⟨g, 0, none⟩), e.val p c] w fun z w' => z = .returned (.bool (e.sl x fn gg)) ∧ Cs w' M g x s i v L (erN er (e.bd x fn gg)) gn ∧ Fw (fun k => k = g) w w'
theorem chk_find {x : Prg} {fn : Fnc} {op : Int} {wd : Nat} {nm : List UInt8} {a : Exs} {deep : Nat} (h : (Ex.mk op wd nm a).chk x fn deep = 0) : (op = 2 → findK x fn nm = 1) ∧ (op = 3 → arrayR x fn nm = 0) := by
 rw [Ex.chk, seq_iff, seq_iff, seq_iff] at h
 obtain ⟨_, _, h3, _⟩ := h
 refine ⟨fun e => ?_, fun e => ?_⟩
 · rw [headR, if_pos (show (Ex.mk op wd nm a).op = 2 from e)] at h3
   replace h3 : wordR x fn nm = 0 := h3
   rcases findK_word x fn nm with ⟨_, h2, _⟩ | ⟨h2, _, _⟩ | ⟨_, h2, _⟩
   · rw [h2] at h3; cases h3
   · exact h2
   · rw [h2] at h3; cases h3
 · rw [headR, if_neg (show ¬ (Ex.mk op wd nm a).op = 2 by show ¬ op = 2; omega), if_pos (show (Ex.mk op wd nm a).op = 3 from e)] at h3; exact h3
set_option maxRecDepth 100000 in
set_option maxHeartbeats 12800000 in
theorem rxl_step (n : Nat) (ih : RXL n) : RXL (n + 1) := by
 intro e hes x s i fn gg deep g M N v L er gn pe ce w h hN hNg hi hbig hp hT hC he hchk
 obtain ⟨op, wd, nm, l⟩ := e
 obtain ⟨hsh2, hsh3, hlc⟩ := chk_shape hchk
 obtain ⟨hf2, hf3⟩ := chk_find hchk
 obtain ⟨w1, hw1, k1, hB1, hz1⟩ := one_alloc w (.cells #[.int .i64 op, .int .u64 (wd : Int), .string (str nm), .slice pe l.len ce] 40)
 have hgw : g < w.heap.size := lt_blk hC.k
 have HC1 := Lib.hid (hC.later hB1)
 have HB := Lib.hid (fun (W : World) (hF : Fw (fun k => k = g) w1 W) => show Below N w W from (hB1.mono hN).trans (hF.below (by have := hB1.size; omega) (fun k e => by subst e; exact hNg)))
 have HX := Lib.hid (fun (W : World) (hF : Fw (fun k => k = g) w1 W) => show x.Ok W N s.p s.q from h.later (HB.out W hF) (Nat.le_refl N))
 have HK := Lib.hid (fun (W : World) (hF : Fw (fun k => k = g) w1 W) => show W.cell? ⟨w.heap.size, 0, none⟩ = some (.int .i64 op) ∧ W.cell? ⟨w.heap.size, 2, none⟩ = some (.string (str nm)) ∧ W.cell? ⟨w.heap.size, 3, none⟩ = some (.slice pe l.len ce) from
   have e := (hF.block _ (lt_blk k1) (by omega)).trans k1
   ⟨cell_blk e rfl, cell_blk e rfl, cell_blk e rfl⟩)
 have HEnd := Lib.hid (fun (W : World) (hF : Fw (fun k => k = g) w1 W) => show Fw (fun k => k = g) w W from (Fw.of_below hB1).trans hF)
 have HSz := Lib.hid (fun (W : World) (hF : Fw (fun k => k = g) w1 W) => show N ≤ W.heap.size by have := hF.size; have := hB1.size; omega)
 have h5 : (Ex.mk op wd nm l).size = l.size + 1 := by rw [Ex.size]
 have HL0 := Lib.hid (show l.size < n by omega)
 clear h5
 have HIN := Lib.hid (show l.In w1 N pe from he.1.later (hB1.mono hN) (Nat.le_refl N))
 have HA := Lib.hid (And.intro hi (And.intro hbig (And.intro hp (And.intro hT (And.intro hlc hNg)))))
 have HH := Lib.hid (And.intro hsh2 (And.intro hf2 hf3))
 have IH := Lib.hid ih
 obtain ⟨R, hR⟩ : ∃ R, R = (Ex.mk op wd nm l).sl x fn gg := ⟨_, rfl⟩
 obtain ⟨E, hE⟩ : ∃ E, E = erN er ((Ex.mk op wd nm l).bd x fn gg) := ⟨_, rfl⟩
 rw [← hR, ← hE]
 have HR := Lib.hid (show R = if op = 2 then gg nm else if op = 3 then secB x fn nm else l.sl x fn gg by rw [hR, Ex.sl])
 have HE := Lib.hid (show E = erN er (l.bd x fn gg || (decide (op = 3) && l.sl x fn gg)) by rw [hE, Ex.bd])
 have HW1 := Lib.hid hw1
 have hF0 := Fw.refl (fun k => k = g) w1
 obtain ⟨hm, hs⟩ := HIN.out
 obtain ⟨b, o, hpe, hb, ha⟩ : ∃ b o, (l.len = 0 ∨ pe = some ⟨b, o, none⟩) ∧ (b < N ∨ l.len = 0) ∧ l.At w1 N b o := by
   rcases hs with h0 | ⟨b, o, hp, hb, ha⟩
   · exact ⟨0, 0, .inl h0, .inr h0, by cases l with | nil => trivial | cons => simp [Exs.len] at h0⟩
   · exact ⟨b, o, .inr hp, .inl hb, ha⟩
 have Hb := Lib.hid hb
 have HF0 := Lib.hid hF0
 have HA0 := Lib.hid ha
 clear h hN hNg hi hbig hp hT hC he hchk hsh2 hsh3 hlc hf2 hf3 hw1 k1 hB1 hz1 hgw hes ih hR hE hs hb ha hF0 HIN
 unfold Ex.val
 go_enter Tryz.func15, Tryz.ntmps15
 go_wp2_with fail
 simp only [Ex.op, Ex.word, Ex.name, Ex.args]
 erw [HW1.out]
 go_loopw [5, 6] (fun t j wr => ∃ (k : Nat) (b1 : Bool) (er1 : Nat) (r : Exs), t = .bool b1 ∧ j = .int .i64 k ∧ k + r.len = l.len ∧ Hid (r.size ≤ l.size) ∧ Hid (r.chk x fn (deep + 1) = 0) ∧ Hid (r.At w1 N b (o + k * 4)) ∧ Hid (l.sl x fn gg = (b1 || r.sl x fn gg)) ∧ Hid (erN er (l.bd x fn gg) = erN er1 (r.bd x fn gg)) ∧ Hid (Cs wr M g x s i v L er1 gn) ∧ Hid (Fw (fun k => k = g) w1 wr)) (fun _ j _ => l.len - (intOf j).toNat)
 case atStart => exact ⟨0, false, er, l, rfl, rfl, by omega, Lib.hid (Nat.le_refl _), Lib.hid HA.out.2.2.2.2.1, Lib.hid (by rw [Nat.zero_mul]; exact HA0.out), Lib.hid rfl, Lib.hid rfl, HC1, HF0⟩
 case round =>
   obtain ⟨k, b1, er1, r, rfl, rfl, hk, hrs, hrc, hr, hsl, hbd, hCr, hFr⟩ := hrel
   obtain ⟨c0, c2, c3⟩ := HK.out wr hFr.out
   cases r with
   | nil =>
     simp only [Exs.len] at hk
     have hge : ¬ k < l.len := by omega
     have HB1 := Lib.hid (show l.sl x fn gg = b1 by rw [hsl.out, Exs.sl, Bool.or_false])
     have HE1 := Lib.hid (show erN er (l.bd x fn gg) = er1 by rw [hbd.out, Exs.bd, erN_false])
     clear hrs hrc hr hsl hbd
     by_cases e2 : op = 2
     · subst e2
       obtain rfl := HH.out.1 rfl
       have HK1 := Lib.hid (HH.out.2.1 rfl)
       have HRg := Lib.hid (show R = gg nm by rw [HR.out, if_pos rfl])
       have HEg := Lib.hid (show E = er1 by rw [HE.out, ← HE1.out]; simp)
       have HFi := Lib.hid (fun (W : World) (hW : Below wr.heap.size wr W) => rfind_any x s i fn nm N W ((HX.out wr hFr.out).later (hW.mono (HSz.out wr hFr.out)) (Nat.le_refl N)) (Nat.le_trans (HSz.out wr hFr.out) hW.size) HA.out.1 HA.out.2.1)
       rw [HK1.out] at HFi
       obtain ⟨p, q, c, d⟩ := s
       unfold Prg.v at HFi
       dsimp only at HFi
       have HS := Lib.hid (fun (W : World) (hW : Below wr.heap.size wr W) => show W.cell? ⟨g, 0, none⟩ = some (.slice p x.regs.length c) ∧ W.cell? ⟨g, 1, none⟩ = some (.slice q x.fns.length d) ∧ W.cell? ⟨g, 2, none⟩ = some (.int .i64 (i : Int)) ∧ W.cell? ⟨w.heap.size, 2, none⟩ = some (.string (str nm)) from
         have e := (hCr.out.later hW).k
         ⟨cell_blk e rfl, cell_blk e rfl, cell_blk e rfl, (hW.cell (p := ⟨w.heap.size, 2, none⟩) (World.block_lt_of_cell? _ _ c2)).trans c2⟩)
       have hX : Below wr.heap.size wr wr.drew := (Below.refl _ _).drew
       go_upto_region 9 with fail
       refine wp_region_held_drew (S := fun W => W.cell? ⟨g, 0, none⟩ = some (.slice p x.regs.length c) ∧ W.cell? ⟨g, 1, none⟩ = some (.slice q x.fns.length d) ∧ W.cell? ⟨g, 2, none⟩ = some (.int .i64 (i : Int)) ∧ W.cell? ⟨w.heap.size, 2, none⟩ = some (.string (str nm))) (by kernel_rfl) ?_ (fun hHeld => ?_)
       · exact HS.out _ hX
       refine tq 0 ?_
       refine tq 1 ?_
       refine tq 2 ?_
       refine tq 3 ?_
       refine tq 4 ?_
       refine tq 5 ?_
       refine tq 6 ?_
       refine tq 7 ?_
       refine tq 8 ?_
       refine tq 9 ?_
       refine wpAnyH_ready (rs := [10]) (by kernel_rfl) (by simp) ?_
       refine rdy rfl (fun K hK => ?_) AllReadyH.nil
       go_simp
       refine (HFi.out _ hX).mono ?_
       rintro z w5 ⟨⟨j, rfl, hj⟩, hB5⟩
       have HJ := Lib.hid hj
       have hX5 := hX.trans (hB5.mono hX.size)
       clear hB5 hj
       refine hK.out _ _ ?_ (fun hHeldN => ?_)
       · exact HS.out _ hX5
       clear hK K hHeld
       have hHeld := hHeldN
       clear hHeldN
       try simp only [Act.put, List.setIfInBounds_toArray, List.set_cons_zero, List.set_cons_succ]
       refine tq 11 ?_
       refine tq 12 ?_
       refine tq 13 ?_
       refine tq 14 ?_
       refine tq 15 ?_
       refine wpAnyH_done (by kernel_rfl) ?_ _
       clear hHeld
       obtain ⟨pv, cv, rfl, hrow⟩ := ownBools (hCr.out.later hX5).r
       have hLj := HA.out.2.2.2.1 nm j HK1.out HJ.out
       have hjl : j < L.length := (List.getElem?_eq_some_iff.1 hLj).1
       obtain ⟨qb, rfl, hcell⟩ : ∃ q : Nat, pv = some ⟨q, 0, none⟩ ∧ w5.cell? ⟨q, 0 + j, none⟩ = some (.bool (gg nm)) := by
         rcases hrow with h0 | ⟨q, cur, rfl, _, hqk, hqc⟩
         · omega
         · exact ⟨q, rfl, hqc j _ hLj⟩
       rw [Nat.zero_add] at hcell
       have g3 : w5.cell? ⟨g, 3, none⟩ = some (.slice (some ⟨qb, 0, none⟩) L.length cv) := cell_blk (hCr.out.later hX5).k rfl
       have HCe := Lib.hid (show Cs w5 M g x ⟨p, q, c, d⟩ i (.slice (some ⟨qb, 0, none⟩) L.length cv) L E gn by rw [HEg.out]; exact hCr.out.later hX5)
       have HFe := Lib.hid (HEnd.out w5 (hFr.out.new (Fw.of_below (S := fun _ => False) hX5) (fun _ e => e.elim)))
       clear hLj hrow hX5 hX HS HFi
       go_wp2_with fail
       go_ret
       exact ⟨ret_bool HRg.out.symm, HCe.out, HFe.out⟩
     have hne2 : (op == 2) = false := by simp [e2]
     by_cases e3 : op = 3
     · subst e3
       have HRg := Lib.hid (show R = secB x fn nm by rw [HR.out, if_neg e2, if_pos rfl])
       have HEg := Lib.hid (show E = erN er1 b1 by rw [HE.out, ← erN_or, HE1.out, HB1.out]; simp)
       cases b1
       · have HAr := Lib.hid (rarr_any x s i fn nm g M N v L er1 gn wr (HX.out wr hFr.out) (HSz.out wr hFr.out) HA.out.1 HA.out.2.1 hCr.out (HH.out.2.2 (by first | rfl | trivial)) HA.out.2.2.1)
         have HEe := Lib.hid (show E = er1 by rw [HEg.out, erN_false])
         go_wp2_with fail
         refine HAr.out.mono ?_
         rintro z w5 ⟨rfl, hB5⟩
         have HCe := Lib.hid (show Cs w5 M g x s i v L E gn by rw [HEe.out]; exact hCr.out.later hB5)
         have HFe := Lib.hid (HEnd.out w5 (hFr.out.new (Fw.of_below (S := fun _ => False) hB5) (fun _ e => e.elim)))
         clear hB5 HAr c0 c2 c3
         go_wp2_with fail
         go_ret
         exact ⟨ret_bool HRg.out.symm, HCe.out, HFe.out⟩
       · have HFl := Lib.hid (fail_any 10 er1 gn g _ _ _ _ wr hCr.out.k)
         go_wp2_with fail
         refine HFl.out.mono ?_
         rintro z w4 ⟨rfl, hk4, hF4⟩
         have HC4 := Lib.hid (hCr.out.row hF4 hk4)
         have HF4 := Lib.hid (hFr.out.trans hF4)
         have HAr := Lib.hid (rarr_any x s i fn nm g M N v L _ gn w4 (HX.out w4 HF4.out) (HSz.out w4 HF4.out) HA.out.1 HA.out.2.1 HC4.out (HH.out.2.2 (by first | rfl | trivial)) HA.out.2.2.1)
         have HEe := Lib.hid (show E = if er1 = 0 then 10 else er1 by rw [HEg.out, erN]; simp)
         clear hk4 hF4 HFl c0 c2 c3
         obtain ⟨c0, c2, c3⟩ := HK.out w4 HF4.out
         go_wp2_with fail
         refine HAr.out.mono ?_
         rintro z w5 ⟨rfl, hB5⟩
         have HCe := Lib.hid (show Cs w5 M g x s i v L E gn by rw [HEe.out]; exact HC4.out.later hB5)
         have HFe := Lib.hid (HEnd.out w5 (HF4.out.new (Fw.of_below (S := fun _ => False) hB5) (fun _ e => e.elim)))
         clear hB5 HAr c0 c2 c3
         go_wp2_with fail
         go_ret
         exact ⟨ret_bool HRg.out.symm, HCe.out, HFe.out⟩
     have hne3 : (op == 3) = false := by simp [e3]
     have HRg := Lib.hid (show R = b1 by rw [HR.out, if_neg e2, if_neg e3, HB1.out])
     have HCe := Lib.hid (show Cs wr M g x s i v L E gn by rw [HE.out, decide_eq_false e3, Bool.false_and, Bool.or_false, HE1.out]; exact hCr.out)
     have HFe := Lib.hid (HEnd.out wr hFr.out)
     go_wp2_with fail
     go_ret
     exact ⟨ret_bool HRg.out.symm, HCe.out, HFe.out⟩
   | cons y r =>
     obtain ⟨hy, hr'⟩ := hr.out
     simp only [Exs.len] at hk
     have hlt : k < l.len := by omega
     rcases hpe with h0 | rfl
     · omega
     have hbN : b < N := by have := Hb.out; omega
     have hW1r : Below N w1 wr := hFr.out.below (HSz.out w1 HF0.out) (fun k e => by subst e; exact HA.out.2.2.2.2.2)
     obtain ⟨q, cq, d0, d1, d2, d3, hok⟩ := (Ex.At.later hW1r (Nat.le_refl N) y b (o + k * 4) hbN hy).open'
     obtain ⟨hyc, hrc'⟩ := Exs.chk_cons hrc.out
     have HSr := Lib.hid (show y.size < n ∧ r.size ≤ l.size by have h1 := hrs.out; simp only [Exs.size] at h1; have := HL0.out; omega)
     have HCy := Lib.hid (IH.out y HSr.out.1 x s i fn gg (deep + 1) g M N v L er1 gn q cq wr (HX.out wr hFr.out) (HSz.out wr hFr.out) HA.out.2.2.2.2.2 HA.out.1 HA.out.2.1 HA.out.2.2.1 HA.out.2.2.2.1 hCr.out hok hyc)
     have HRc := Lib.hid hrc'
     have HRr := Lib.hid hr'
     have HSl := Lib.hid (show l.sl x fn gg = ((b1 || y.sl x fn gg) || r.sl x fn gg) by rw [hsl.out, Exs.sl, Bool.or_assoc])
     have HBd := Lib.hid (show erN er (l.bd x fn gg) = erN (erN er1 (y.bd x fn gg)) (r.bd x fn gg) by rw [hbd.out, Exs.bd, erN_or])
     obtain ⟨ty, hty⟩ : ∃ t, t = y.sl x fn gg := ⟨_, rfl⟩
     rw [← hty] at HCy HSl
     unfold Ex.val at HCy
     clear hy hr' hr hok hrs hrc hyc hrc' hsl hbd hCr hty hW1r
     go_wp2_with fail
     refine HCy.out.mono ?_
     rintro z w2 ⟨rfl, hC2, hF2⟩
     have HC2 := Lib.hid hC2
     have HF2 := Lib.hid (hFr.out.trans hF2)
     clear hC2 hF2 HCy d0 d1 d2 d3 c0 c2 c3
     cases ty
     · have HSl2 := Lib.hid (show l.sl x fn gg = (b1 || r.sl x fn gg) by rw [HSl.out, Bool.or_false])
       go_wp2_with fail
       go_roundw
       case rel => exact ⟨k + 1, b1, _, r, rfl, by go_num, by omega, Lib.hid HSr.out.2, HRc, Lib.hid (by rw [show o + (k + 1) * 4 = o + k * 4 + 4 by omega]; exact HRr.out), HSl2, HBd, HC2, HF2⟩
       case measure => simp [intOf]; omega
     · have HSl2 := Lib.hid (show l.sl x fn gg = (true || r.sl x fn gg) by rw [HSl.out, Bool.or_true])
       go_wp2_with fail
       go_roundw
       case rel => exact ⟨k + 1, true, _, r, rfl, by go_num, by omega, Lib.hid HSr.out.2, HRc, Lib.hid (by rw [show o + (k + 1) * 4 = o + k * 4 + 4 by omega]; exact HRr.out), HSl2, HBd, HC2, HF2⟩
       case measure => simp [intOf]; omega
theorem rxl_to : ∀ n, RXL n
 | 0 => fun _ h => absurd h (Nat.not_lt_zero _)
 | n + 1 => rxl_step n (rxl_to n)
/- The law's: has an expression a word of which no level is handed in. -/
open Go.RowKit

def posN (fn : Fnc) (nm : List UInt8) : Nat := (fn.params ++ fn.vars).findIdx (named nm)
theorem find_at {p : Vr → Bool} : ∀ (d : List Vr) (v : Vr) (r : List Vr), d.all (fun y => !p y) = true → p v = true → (d ++ v :: r).findIdx p = d.length
 | [], v, r, _, hv => by simp [List.findIdx_cons, hv]
 | y :: d, v, r, hd, hv => by
   simp only [List.all_cons, Bool.and_eq_true, Bool.not_eq_true'] at hd
   rw [List.cons_append, List.findIdx_cons, hd.1, find_at d v r (by simpa using hd.2) hv]
   rfl
theorem names_one {A : List (List UInt8)} {d r : List Vr} {v : Vr} {nm : List UInt8} (h : newB nz (A ++ vnm (d ++ v :: r)) = true) (hv : named nm v = true) : d.all (fun y => !named nm y) = true := by
 have e1 : A ++ vnm (d ++ v :: r) = (A ++ vnm d) ++ v.name :: vnm r := by simp [vnm]
 rw [e1] at h
 cases hh : nameB v.name && !((A ++ vnm d).any (fun y => y == v.name)) with
 | false => rw [newB_cut hh] at h; cases h
 | true =>
   rw [Bool.and_eq_true, Bool.not_eq_true', List.any_append, Bool.or_eq_false_iff] at hh
   have h2 := hh.2.2
   rw [List.all_eq_true]
   intro y hy
   have hvn : v.name = nm := by simpa [named] using hv
   have h3 := (List.any_eq_false.1 h2) y.name (List.mem_map.2 ⟨y, hy, rfl⟩)
   simp only [named, Bool.not_eq_true', ← hvn]
   simpa using h3
theorem pos_of {x : Prg} {fn : Fnc} {nm : List UInt8} {j : Nat} (hu : newB nz (rnm x.regs ++ vnm (fn.params ++ fn.vars)) = true) (h : FindJ x fn nm j) (hk : findK x fn nm = 1) : posN fn nm = j := by
 obtain ⟨d, v, r, e1, e2, e3, _⟩ := findJ1 h (.inl hk)
 unfold posN
 rw [e1] at hu ⊢
 rw [find_at d v r (names_one hu e3) e3, e2]
def RLk (k : Nat) : Prop := ∀ (e : Ex), e.size < k → ∀ (x : Prg) (s : PrgP) (i : Nat) (fn : Fnc) (n deep : Nat) (p : Option Addr) (c N : Nat) (w : World), x.Ok w N s.p s.q → N ≤ w.heap.size → x.fns[i]? = some fn → fn.params.length + fn.vars.length ≤ 4000000 → newB nz (rnm x.regs ++ vnm (fn.params ++ fn.vars)) = true → n ≤ 140737488355328 → e.Ok w N p → e.chk x fn deep = 0 →
   Calls Tryz.prog 14 #[x.v s, .int .i64 (i : Int), e.val p c, .int .i64 (n : Int)] w fun z w' => z = .returned (.bool (e.any2 (fun s => decide (n ≤ posN fn s)))) ∧ Below w.heap.size w w'
set_option maxRecDepth 100000 in
set_option maxHeartbeats 12800000 in
theorem rlk_step (m : Nat) (ih : RLk m) : RLk (m + 1) := by
 intro e hes x s i fn n deep pe ce N w h hN hi hbig hu hn he hchk
 obtain ⟨op, wd, nm, l⟩ := e
 obtain ⟨hsh2, hsh3, hlc⟩ := chk_shape hchk
 obtain ⟨hf2, _⟩ := chk_find hchk
 obtain ⟨p, q, c, d⟩ := s
 obtain ⟨w1, hw1, k0, k1, hB1, hz1⟩ := two_alloc w (.cells #[.slice p x.regs.length c, .slice q x.fns.length d] 25) (.cells #[.int .i64 op, .int .u64 (wd : Int), .string (str nm), .slice pe l.len ce] 40)
 have HU := Lib.hid (fun (W : World) (hW : Below w1.heap.size w1 W) => show Below w.heap.size w W from hB1.trans (hW.mono hB1.size))
 have HP := Lib.hid (fun (W : World) (hW : Below w1.heap.size w1 W) => show W.cell? ⟨w.heap.size, 0, none⟩ = some (.slice p x.regs.length c) ∧ W.cell? ⟨w.heap.size, 1, none⟩ = some (.slice q x.fns.length d) ∧ W.cell? ⟨w.heap.size + 1, 0, none⟩ = some (.int .i64 op) ∧ W.cell? ⟨w.heap.size + 1, 2, none⟩ = some (.string (str nm)) ∧ W.cell? ⟨w.heap.size + 1, 3, none⟩ = some (.slice pe l.len ce) from
   have a0 := (hW.block _ (lt_blk k0)).trans k0
   have a1 := (hW.block _ (lt_blk k1)).trans k1
   ⟨cell_blk a0 rfl, cell_blk a0 rfl, cell_blk a1 rfl, cell_blk a1 rfl, cell_blk a1 rfl⟩)
 have HX := Lib.hid (fun (W : World) (hW : Below w.heap.size w W) => h.later (hW.mono hN) (Nat.le_refl N))
 have HIN := Lib.hid (fun (W : World) (hW : Below w.heap.size w W) => show l.In W N pe from he.1.later (hW.mono hN) (Nat.le_refl N))
 have h5 : (Ex.mk op wd nm l).size = l.size + 1 := by rw [Ex.size]
 have HL0 := Lib.hid (show l.size < m by omega)
 have HA := Lib.hid (And.intro hi (And.intro hbig (And.intro hu (And.intro hn (And.intro hlc hN)))))
 have HH := Lib.hid (And.intro hsh2 hf2)
 have IH := Lib.hid ih
 obtain ⟨R, hR⟩ : ∃ R, R = (Ex.mk op wd nm l).any2 (fun s => decide (n ≤ posN fn s)) := ⟨_, rfl⟩
 rw [← hR]
 have HR := Lib.hid (show R = ((decide (op = 2) && decide (n ≤ posN fn nm)) || l.any2 (fun s => decide (n ≤ posN fn s))) by rw [hR, Ex.any2])
 have HW1 := Lib.hid hw1
 have HB1 := Lib.hid hB1
 clear h hN hi hbig hu hn he hchk hsh2 hsh3 hlc hf2 hw1 k0 k1 hB1 hz1 hes ih hR h5
 unfold Prg.v Ex.val
 dsimp only [Ex.op, Ex.word, Ex.name, Ex.args]
 by_cases e2 : op = 2
 · subst e2
   obtain rfl := HH.out.1 rfl
   have HFi := Lib.hid (rfind_any x ⟨p, q, c, d⟩ i fn nm N w1 (HX.out _ (HU.out _ (Below.refl _ _))) (Nat.le_trans HA.out.2.2.2.2.2 (HU.out _ (Below.refl _ _)).size) HA.out.1 HA.out.2.1)
   rw [HH.out.2 rfl] at HFi
   unfold Prg.v at HFi
   dsimp only at HFi
   have HK1 := Lib.hid (HH.out.2 rfl)
   obtain ⟨p0, p1, p2, p3, p4⟩ := HP.out w1 (Below.refl _ _)
   go_enter Tryz.func14, Tryz.ntmps14
   go_wp2_with fail
   erw [HW1.out]
   refine HFi.out.mono ?_
   rintro z w2 ⟨⟨j, rfl, hj⟩, hB2⟩
   have HJ := Lib.hid (pos_of HA.out.2.2.1 hj HK1.out)
   have HY := Lib.hid (HB1.out.trans (hB2.mono HB1.out.size))
   have HRj := Lib.hid (show R = decide (n ≤ j) by rw [HR.out, HJ.out]; unfold Exs.any2; simp)
   clear hj hB2 HFi p0 p1 p2 p3 p4
   by_cases hnj : n ≤ j
   · have hi1 : (n : Int) ≤ (j : Int) := by omega
     have HRt := Lib.hid (show R = true by rw [HRj.out, decide_eq_true hnj])
     go_wp2_with fail
     go_ret
     exact ⟨ret_bool HRt.out.symm, HY.out⟩
   · have hi1 : ¬ (n : Int) ≤ (j : Int) := by omega
     have HRt := Lib.hid (show R = false by rw [HRj.out, decide_eq_false hnj])
     go_wp2_with fail
     go_ret
     exact ⟨ret_bool HRt.out.symm, HY.out⟩
 have hne2 : (op == 2) = false := by simp [e2]
 have HRl := Lib.hid (show R = l.any2 (fun s => decide (n ≤ posN fn s)) by rw [HR.out, decide_eq_false e2, Bool.false_and, Bool.false_or])
 obtain ⟨hm, hs⟩ := HIN.out w1 (HU.out _ (Below.refl _ _))
 obtain ⟨b, o, hpe, hb, ha⟩ : ∃ b o, (l.len = 0 ∨ pe = some ⟨b, o, none⟩) ∧ (b < N ∨ l.len = 0) ∧ l.At w1 N b o := by
   rcases hs with h0 | ⟨b, o, hp, hb, ha⟩
   · exact ⟨0, 0, .inl h0, .inr h0, by cases l with | nil => trivial | cons => simp [Exs.len] at h0⟩
   · exact ⟨b, o, .inr hp, .inl hb, ha⟩
 have Hb := Lib.hid hb
 have HA0 := Lib.hid ha
 obtain ⟨p0, p1, p2, p3, p4⟩ := HP.out w1 (Below.refl _ _)
 have hmm := HA.out.2.2.2.1
 clear hs hb ha
 go_enter Tryz.func14, Tryz.ntmps14
 go_wp2_with fail
 erw [HW1.out]
 clear p0 p1 p2 p3 p4
 go_loopw [11] (fun j wr => ∃ (k : Nat) (r : Exs), j = .int .i64 k ∧ k + r.len = l.len ∧ Hid (r.size ≤ l.size) ∧ Hid (r.chk x fn (deep + 1) = 0) ∧ Hid (r.At w1 N b (o + k * 4)) ∧ Hid (R = r.any2 (fun s => decide (n ≤ posN fn s))) ∧ Hid (Below w1.heap.size w1 wr)) (fun j _ => l.len - (intOf j).toNat)
 case atStart => exact ⟨0, l, rfl, by omega, Lib.hid (Nat.le_refl _), Lib.hid HA.out.2.2.2.2.1, Lib.hid (by rw [Nat.zero_mul]; exact HA0.out), HRl, Lib.hid (Below.refl _ _)⟩
 case round =>
   obtain ⟨k, r, rfl, hk, hrs, hrc, hr, hRr, hBr⟩ := hrel
   obtain ⟨p0, p1, p2, p3, p4⟩ := HP.out wr hBr.out
   cases r with
   | nil =>
     simp only [Exs.len] at hk
     have hge : ¬ k < l.len := by omega
     have HRt := Lib.hid (show R = false by rw [hRr.out, Exs.any2])
     have HY := Lib.hid (HU.out _ hBr.out)
     clear hrs hrc hr hRr
     go_wp2_with fail
     go_ret
     exact ⟨ret_bool HRt.out.symm, HY.out⟩
   | cons y r =>
     obtain ⟨hy, hr'⟩ := hr.out
     simp only [Exs.len] at hk
     have hlt : k < l.len := by omega
     rcases hpe with h0 | rfl
     · omega
     have hbN : b < N := by have := Hb.out; omega
     have hNw : N ≤ w1.heap.size := Nat.le_trans HA.out.2.2.2.2.2 HB1.out.size
     obtain ⟨qy, cy, d0, d1, d2, d3, hok⟩ := (Ex.At.later (hBr.out.mono hNw) (Nat.le_refl N) y b (o + k * 4) hbN hy).open'
     obtain ⟨hyc, hrc'⟩ := Exs.chk_cons hrc.out
     have HSr := Lib.hid (show y.size < m ∧ r.size ≤ l.size by have h1 := hrs.out; simp only [Exs.size] at h1; have := HL0.out; omega)
     have HC := Lib.hid (fun (W : World) (hW : Below wr.heap.size wr W) => IH.out y HSr.out.1 x ⟨p, q, c, d⟩ i fn n (deep + 1) qy cy N W (HX.out _ (HU.out _ (hBr.out.trans (hW.mono hBr.out.size)))) (Nat.le_trans (Nat.le_trans hNw hBr.out.size) hW.size) HA.out.1 HA.out.2.1 HA.out.2.2.1 HA.out.2.2.2.1 (hok.later (hW.mono (Nat.le_trans hNw hBr.out.size)) (Nat.le_refl N)) hyc)
     have HS := Lib.hid (fun (W : World) (hW : Below wr.heap.size wr W) => show W.cell? ⟨w.heap.size, 0, none⟩ = some (.slice p x.regs.length c) ∧ W.cell? ⟨w.heap.size, 1, none⟩ = some (.slice q x.fns.length d) ∧ W.cell? ⟨w.heap.size + 1, 3, none⟩ = some (.slice (some ⟨b, o, none⟩) l.len ce) ∧ W.cell? ⟨b, o + k * 4, none⟩ = some (.int .i64 y.op) ∧ W.cell? ⟨b, o + k * 4 + 1, none⟩ = some (.int .u64 (y.word : Int)) ∧ W.cell? ⟨b, o + k * 4 + 2, none⟩ = some (.string (str y.name)) ∧ W.cell? ⟨b, o + k * 4 + 3, none⟩ = some (.slice qy y.args.len cy) from
       have hbw : b < wr.heap.size := Nat.lt_of_lt_of_le hbN (Nat.le_trans hNw hBr.out.size)
       ⟨(HP.out W (hBr.out.trans (hW.mono hBr.out.size))).1, (HP.out W (hBr.out.trans (hW.mono hBr.out.size))).2.1, (HP.out W (hBr.out.trans (hW.mono hBr.out.size))).2.2.2.2, (hW.cell (p := ⟨b, _, none⟩) hbw).trans d0, (hW.cell (p := ⟨b, _, none⟩) hbw).trans d1, (hW.cell (p := ⟨b, _, none⟩) hbw).trans d2, (hW.cell (p := ⟨b, _, none⟩) hbw).trans d3⟩)
     have HRc := Lib.hid hrc'
     have HRr := Lib.hid hr'
     obtain ⟨ty, hty⟩ : ∃ t, t = y.any2 (fun s => decide (n ≤ posN fn s)) := ⟨_, rfl⟩
     have HRy := Lib.hid (show R = (ty || r.any2 (fun s => decide (n ≤ posN fn s))) by rw [hRr.out, Exs.any2, hty])
     rw [← hty] at HC
     unfold Prg.v Ex.val at HC
     dsimp only at HC
     have hX : Below wr.heap.size wr wr.drew := (Below.refl _ _).drew
     clear hy hr' hr hok hrs hrc hyc hrc' hRr hty hNw
     go_upto_region 7 with fail
     clear p0 p1 p2 p3 p4 d0 d1 d2 d3
     refine wp_region_held_drew (S := fun W => W.cell? ⟨w.heap.size, 0, none⟩ = some (.slice p x.regs.length c) ∧ W.cell? ⟨w.heap.size, 1, none⟩ = some (.slice q x.fns.length d) ∧ W.cell? ⟨w.heap.size + 1, 3, none⟩ = some (.slice (some ⟨b, o, none⟩) l.len ce) ∧ W.cell? ⟨b, o + k * 4, none⟩ = some (.int .i64 y.op) ∧ W.cell? ⟨b, o + k * 4 + 1, none⟩ = some (.int .u64 (y.word : Int)) ∧ W.cell? ⟨b, o + k * 4 + 2, none⟩ = some (.string (str y.name)) ∧ W.cell? ⟨b, o + k * 4 + 3, none⟩ = some (.slice qy y.args.len cy)) (by kernel_rfl) ?_ (fun hHeld => ?_)
     · exact HS.out _ hX
     refine tq 0 ?_
     refine tq 1 ?_
     refine tq 2 ?_
     refine tq 3 ?_
     refine tq 4 ?_
     refine tq 5 ?_
     refine tq 6 ?_
     refine tq 7 ?_
     refine wpAnyH_ready (rs := [8]) (by kernel_rfl) (by simp) ?_
     refine rdy rfl (fun K hK => ?_) AllReadyH.nil
     go_simp
     refine (HC.out _ hX).mono ?_
     rintro z w5 ⟨rfl, hB5⟩
     replace hX := hX.trans (hB5.mono hX.size)
     clear hB5
     refine hK.out _ _ ?_ (fun hHeldN => ?_)
     · exact HS.out _ hX
     clear hK K hHeld
     have hHeld := hHeldN
     clear hHeldN
     try simp only [Act.put, List.setIfInBounds_toArray, List.set_cons_zero, List.set_cons_succ]
     refine wpAnyH_done (by kernel_rfl) ?_ _
     clear hHeld
     have HBx := Lib.hid (hBr.out.trans (hX.mono hBr.out.size))
     cases ty
     · have HRy2 := Lib.hid (show R = r.any2 (fun s => decide (n ≤ posN fn s)) by rw [HRy.out, Bool.false_or])
       clear hX HS HC
       go_wp2_with fail
       go_roundw
       case rel => exact ⟨k + 1, r, by go_num, by omega, Lib.hid HSr.out.2, HRc, Lib.hid (by rw [show o + (k + 1) * 4 = o + k * 4 + 4 by omega]; exact HRr.out), HRy2, HBx⟩
       case measure => simp [intOf]; omega
     · have HRt := Lib.hid (show R = true by rw [HRy.out, Bool.true_or])
       have HY := Lib.hid (HU.out _ HBx.out)
       clear hX HS HC
       go_wp2_with fail
       go_ret
       exact ⟨ret_bool HRt.out.symm, HY.out⟩
theorem rlk_to : ∀ n, RLk n
 | 0 => fun _ h => absurd h (Nat.not_lt_zero _)
 | n + 1 => rlk_step n (rlk_to n)
end Go.Proofs.YtihmibggonffdaaGreat
