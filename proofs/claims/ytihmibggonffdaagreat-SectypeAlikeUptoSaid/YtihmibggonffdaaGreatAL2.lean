/- AL1, AL2 as one. -/
import Derived.Test.YtihmibggonffdaaGreatDF
import Derived.Test.YtihmibggonffdaaGreatDH
import Derived.Test.YtihmibggonffdaaGreatF2
/- Inputs with their words; two rows of words are the same. -/
namespace Go.Proofs.YtihmibggonffdaaGreat
open Go.RowKit

def UAt (w : World) (v : Int) (b o : Nat) : Prop := w.cell? ⟨b, o, none⟩ = some (.int .u64 v)
theorem UAt.later {N : Nat} {w w' : World} (hw : Below N w w') (v : Int) (b o : Nat) (hb : b < N) (h : UAt w v b o) : UAt w' v b o := (hw.cell hb).trans h
def WRow (w : World) (N : Nat) (l : List Int) (b o : Nat) : Prop := ∃ p c, w.cell? ⟨b, o, none⟩ = some (.slice p l.length c) ∧ RowIn N (UAt w) 1 l p
theorem WRow.later {N : Nat} {w w' : World} (hw : Below N w w') (l : List Int) (b o : Nat) (hb : b < N) (h : WRow w N l b o) : WRow w' N l b o := by
  obtain ⟨p, c, h1, h2⟩ := h
  exact ⟨p, c, (hw.cell hb).trans h1, h2.imp (Nat.le_refl N) (UAt.later hw)⟩
theorem udrop {w : World} {y : Int} {ds rs : List Int} {b o : Nat} (h : Row (UAt w) 1 (ds ++ y :: rs) b o) : w.cell? ⟨b, o + ds.length, none⟩ = some (.int .u64 y) := by
  have := Row.get (i := ds.length) (x := y) h (by simp)
  rw [Nat.mul_one] at this
  exact this
set_option maxHeartbeats 3200000 in
theorem eqU_any (xs ys : List Int) (p p' : Option Addr) (ca cb N : Nat) (w : World) (h1 : RowIn N (UAt w) 1 xs p) (h2 : RowIn N (UAt w) 1 ys p') (hN : N ≤ w.heap.size) :
    Calls Tryz.prog 48 #[.slice p xs.length ca, .slice p' ys.length cb] w fun e w' => e = .returned (.bool (decide (xs = ys))) ∧ Below w.heap.size w w' := by
  have S1 := Lib.hid h1
  have S2 := Lib.hid h2
  have hm1 := h1.1
  have hm2 := h2.1
  clear h1 h2
  by_cases hl : xs.length = ys.length
  · have HL := Lib.hid hl
    have hl' : ((xs.length : Int) != (ys.length : Int)) = false := by simp [hl]
    clear hl
    go_enter Tryz.func48, Tryz.ntmps48
    go_wp2_with fail
    go_loopw [13] (fun i wr => ∃ (ds rs rs' : List Int), i = .int .i64 ds.length ∧ Hid (xs = ds ++ rs) ∧ Hid (ys = ds ++ rs') ∧ ds.length + rs.length = xs.length ∧ rs'.length = rs.length ∧ Hid (Below w.heap.size w wr)) (fun i _ => xs.length - (intOf i).toNat)
    case atStart => exact ⟨[], xs, ys, rfl, Lib.hid rfl, Lib.hid rfl, by simp, by have := HL.out; omega, Lib.hid (Below.refl _ _)⟩
    case round =>
      obtain ⟨ds, rs, rs', rfl, E1, E2, hd1, hd2, hB⟩ := hrel
      cases rs with
      | nil =>
        cases rs' with
        | cons _ _ => simp at hd2
        | nil =>
          simp only [List.length_nil] at hd1
          have hge : ¬ ds.length < xs.length := by omega
          have EQ := Lib.hid (show true = decide (xs = ys) by rw [E1.out, E2.out]; simp)
          go_wp2_with fail
          go_ret
          exact ⟨ret_bool EQ.out, hB.out⟩
      | cons y1 rs =>
        cases rs' with
        | nil => simp at hd2
        | cons y2 rs' =>
          simp only [List.length_cons] at hd1 hd2
          have hlt1 : ds.length < xs.length := by omega
          have hlt2 : ds.length < ys.length := by have := HL.out; omega
          rcases S1.out.2 with h30 | ⟨b1, o1, rfl, hb1, ha1⟩
          · omega
          rcases S2.out.2 with h30 | ⟨b2, o2, rfl, hb2, ha2⟩
          · omega
          rw [E1.out] at ha1
          rw [E2.out] at ha2
          have u1 := (hB.out.cell (show b1 < w.heap.size by omega)).trans (udrop ha1)
          have u2 := (hB.out.cell (show b2 < w.heap.size by omega)).trans (udrop ha2)
          have HD := Lib.hid hB.out.drew
          clear ha1 ha2
          go_wp2_with fail
          go_region
          all_goals go_wp2_with fail
          · have h : (y1 != y2) = true := by assumption
            go_ret
            exact ⟨ret_bool (by
              symm; rw [decide_eq_false_iff_not]; intro e
              rw [E1.out, E2.out] at e
              have := List.append_cancel_left e
              injection this with e6 _
              rw [e6] at h; simp at h), HD.out⟩
          · have h : (y1 != y2) = false := by assumption
            have hy : y1 = y2 := by simpa using h
            go_roundw
            case rel => exact ⟨ds ++ [y1], rs, rs', by rw [List.length_append]; go_num, Lib.hid (by rw [E1.out]; simp), Lib.hid (by rw [E2.out, hy]; simp), by simp; omega, by omega, HD⟩
            case measure => simp [intOf]; omega
  · have HB := Lib.hid (show false = decide (xs = ys) by symm; rw [decide_eq_false_iff_not]; intro e; exact hl (by rw [e]))
    have hl' : ((xs.length : Int) != (ys.length : Int)) = true := by simp; omega
    clear hl
    go_enter Tryz.func48, Tryz.ntmps48
    go_wp2_with fail
    go_ret
    exact ⟨ret_bool HB.out, Below.refl _ _⟩
structure InW where
  (pa pr : Option Addr) (ca cr : Nat) (args : List Int) (rows : List (List Int))
def InW.p (t : InW) : InP := ⟨t.pa, t.pr, t.args.length, t.ca, t.cr, t.rows.map List.length⟩
def InW.v (t : InW) : Value := .agg #[.slice t.pa t.args.length t.ca, .slice t.pr t.rows.length t.cr]
theorem InW.p_v (t : InW) : t.p.v = t.v := by unfold InP.v InW.v InW.p; simp
structure InW.Ok (w : World) (N : Nat) (t : InW) : Prop where
  args : RowIn N (UAt w) 1 t.args t.pa
  rows : RowIn N (WRow w N) 1 t.rows t.pr
theorem InW.Ok.later {w w' : World} {N : Nat} {t : InW} (h : t.Ok w N) (hB : Below N w w') : t.Ok w' N := ⟨h.args.imp (Nat.le_refl N) (UAt.later hB), h.rows.imp (Nat.le_refl N) (WRow.later hB)⟩
theorem Row.mapLen {w : World} {N b : Nat} : ∀ (l : List (List Int)) (o : Nat), Row (WRow w N) 1 l b o → Row (LenAt w) 1 (l.map List.length) b o
  | [], _, _ => trivial
  | x :: r, o, h => by
    obtain ⟨⟨p, c, h1, h2⟩, h3⟩ := h
    exact ⟨⟨p, c, h1, h2.1⟩, Row.mapLen r _ h3⟩
theorem InW.Ok.p {w : World} {N : Nat} {t : InW} (h : t.Ok w N) : t.p.Ok w N := by
  refine ⟨h.args.1, ?_⟩
  have h1 := h.rows.1
  refine ⟨by show (t.rows.map List.length).length ≤ _; rw [List.length_map]; exact h1, ?_⟩
  rcases h.rows.2 with h0 | ⟨b, o, e, hb, hr⟩
  · exact .inl (by show (t.rows.map List.length).length = 0; rw [List.length_map]; exact h0)
  · exact .inr ⟨b, o, e, hb, Row.mapLen _ _ hr⟩
section
variable {H : Type} {enc : TypeId × Value → H} {w : World}
theorem open_wordsU {fuel : Nat} {cs : List Value} {x : DataW H × List MemPlace} (h : DataW.trod enc Tryz.prog w 0 (fun _ => true) true fuel 63 cs = some x) (hw : Rows.uptoBulk x.1 ≤ 1048576) :
    ∃ (l : List Int) (p : Option Addr) (c : Nat), cs = [.slice p l.length c] ∧ RowIn w.heap.size (UAt w) 1 l p := by
  obtain ⟨m, p, ks, cap, hn, rfl, hsm, hge, hlen, _, hel⟩ := slice_opb cWords.2.2 (by decide) Tryz.underlying63 h hw
  rcases hel with h0 | ⟨bb, off, rfl, hbl, hel⟩
  · exact ⟨[], p, cap, by rw [h0]; rfl, by simp, .inl rfl⟩
  · obtain ⟨l, hl, hr, _⟩ := Row.ofB (A := UAt w) (f := fun _ => 0) (k := 1) (b := bb) ks off fun i m' hi => by
      obtain ⟨cs', y, hl, hc, hr, hy, hyb⟩ := hel i m' hi
      obtain ⟨z, rfl, hz⟩ := opn_u64 Tryz.underlying37 hr
      exact ⟨(z : Int), hc 0 (by decide), Nat.zero_le _⟩
    exact ⟨l, _, cap, by rw [hl], by omega, .inr ⟨bb, off, rfl, hbl, hr⟩⟩
theorem open_inW {fuel : Nat} {cs : List Value} {x : DataW H × List MemPlace} (h : DataW.trod enc Tryz.prog w 0 (fun _ => true) true fuel 66 cs = some x) (hw : Rows.uptoBulk x.1 ≤ 1048576) :
    ∃ t : InW, cs = [.slice t.pa t.args.length t.ca, .slice t.pr t.rows.length t.cr] ∧ t.Ok w w.heap.size := by
  obtain ⟨n, fk, rfl, hl, hfl, hfs, hf⟩ := struct_opb Tryz.underlying66 h hw
  rw [show Tryz.prog.cellsOf 66 = 2 by kernel_rfl] at hl
  obtain ⟨a, b, rfl⟩ := twoL hl
  obtain ⟨y0, h0, g0, w0⟩ := hf 0 _ rfl
  obtain ⟨y1, h1, g1, w1⟩ := hf 1 _ rfl
  replace h0 : DataW.trod enc Tryz.prog w 0 (fun _ => true) true n 63 (List.take (Tryz.prog.cellsOf 63) [a, b]) = some y0 := h0
  replace h1 : DataW.trod enc Tryz.prog w 0 (fun _ => true) true n 64 (List.take (Tryz.prog.cellsOf 64) [b]) = some y1 := h1
  rw [cWords.1] at h0
  rw [cWords.2.1] at h1
  obtain ⟨la, pa, ca, e0, hla⟩ := open_wordsU h0 w0
  obtain ⟨m, p, ks, cap, hn, e1, hsm, hge, hlen, _, hel⟩ := slice_opb cWords.1 (by decide) Tryz.underlying64 h1 w1
  obtain ⟨l, hll, hin⟩ : ∃ l : List (List Int), l.length = ks.length ∧ RowIn w.heap.size (WRow w w.heap.size) 1 l p := by
    rcases hel with h0 | ⟨bb, off, rfl, hbl, hel⟩
    · exact ⟨[], h0.symm, by simp, .inl rfl⟩
    · obtain ⟨l, hl, hr, _⟩ := Row.ofB (A := WRow w w.heap.size) (f := fun _ => 0) (k := 1) (b := bb) ks off fun i m' hi => by
        obtain ⟨cs', y, hl, hc, hr, hy, hyb⟩ := hel i m' hi
        obtain ⟨lw, q, cq, rfl, hn⟩ := open_wordsU hr hyb
        exact ⟨lw, ⟨q, cq, hc 0 (by decide), hn⟩, Nat.zero_le _⟩
      exact ⟨l, hl, by omega, .inr ⟨bb, off, rfl, hbl, hr⟩⟩
  simp at e0 e1
  subst e0; subst e1
  exact ⟨⟨pa, p, ca, cap, la, l⟩, by rw [← hll], hla, hin⟩
end
/- The program's Alike. -/
open Go.RowKit

def lastV (x : Prg) : List Vr := match x.fns.getLast? with | some f => f.params | none => []
def pubA : List Vr → List Int → List Int → Bool
  | v :: vs, a :: as', b :: bs => (v.secret || decide (a = b)) && pubA vs as' bs
  | _, _, _ => true
def pubR : List Rgn → List (List Int) → List (List Int) → Bool
  | r :: rs, a :: as', b :: bs => (r.secret || decide (a = b)) && pubR rs as' bs
  | _, _, _ => true
def fitW (x : Prg) (a : InW) : Bool := fitB x a.p.na a.p.rows
def alB (x : Prg) (a b : InW) : Bool := fitW x a && (fitW x b && (pubA (lastV x) a.args b.args && pubR x.regs a.rows b.rows))
theorem fitW_len {x : Prg} {a : InW} (h : fitW x a = true) : mayR x = 0 ∧ a.args.length = (lastV x).length ∧ a.rows.length = x.regs.length ∧ lenB (a.rows.map List.length) x.regs = true := by
  unfold fitW at h
  have hm : mayR x = 0 := by
    rcases Nat.eq_zero_or_pos (mayR x) with h0 | h0
    · exact h0
    · rw [fit_no (by omega)] at h; cases h
  rw [fit_yes hm] at h
  simp only [Bool.and_eq_true, Bool.not_eq_true', InW.p, List.length_map] at h
  obtain ⟨h1, h2, h3⟩ := h
  obtain ⟨ds, fn, hds, hlp⟩ := last_of (may_fns hm)
  have hv : lastV x = fn.params := by unfold lastV; rw [hds]; simp
  rw [hlp] at h1
  simp only [bne_eq_false_iff_eq] at h1 h2
  exact ⟨hm, by rw [hv]; omega, by omega, h3⟩
theorem row_at {α : Type} {A : α → Nat → Nat → Prop} {N : Nat} {l d r : List α} {y : α} {p : Option Addr} (h : RowIn N A 1 l p) (e : l = d ++ y :: r) : ∃ b o, p = some ⟨b, o, none⟩ ∧ b < N ∧ A y b (o + d.length) := by
  rcases h.2 with h0 | ⟨b, o, hp, hb, hr⟩
  · rw [e] at h0; simp at h0
  · refine ⟨b, o, hp, hb, ?_⟩
    have := Row.get (i := d.length) (x := y) hr (by rw [e]; simp)
    rw [Nat.mul_one] at this
    exact this
theorem row_atk {α : Type} {A : α → Nat → Nat → Prop} {N k : Nat} {l d r : List α} {y : α} {p : Option Addr} (h : RowIn N A k l p) (e : l = d ++ y :: r) : ∃ b o, p = some ⟨b, o, none⟩ ∧ b < N ∧ A y b (o + d.length * k) := by
  rcases h.2 with h0 | ⟨b, o, hp, hb, hr⟩
  · rw [e] at h0; simp at h0
  · exact ⟨b, o, hp, hb, Row.get (i := d.length) (x := y) hr (by rw [e]; simp)⟩
theorem cons_of {α : Type} {l d r : List α} {n : Nat} (e : l = d ++ r) (hd : d.length < n) (hl : l.length = n) : ∃ y r', r = y :: r' := by
  cases r with
  | nil => rw [List.append_nil] at e; rw [e] at hl; omega
  | cons y r' => exact ⟨y, r', rfl⟩
set_option maxRecDepth 100000 in
set_option maxHeartbeats 12800000 in
theorem alike_any (x : Prg) (s : PrgP) (a b : InW) (N : Nat) (w : World) (h : x.Ok w N s.p s.q) (hA : a.Ok w N) (hB : b.Ok w N) (hN : N ≤ w.heap.size) (hc : x.regs.length ≤ s.c) (hd : x.fns.length ≤ s.d) :
    Calls Tryz.prog 16 #[x.v s, a.v, b.v] w fun z w' => z = .returned (.bool (alB x a b)) ∧ Below w.heap.size w w' := by
  obtain ⟨p, q, c, d⟩ := s
  obtain ⟨apa, apr, aca, acr, aa, ar⟩ := a
  obtain ⟨bpa, bpr, bca, bcr, ba, br⟩ := b
  obtain ⟨W0, hW0, k0, k1, k2, hB0, hz0⟩ := three w (.cells #[.slice p x.regs.length c, .slice q x.fns.length d] 25) (.cells #[.slice apa aa.length aca, .slice apr ar.length acr] 66) (.cells #[.slice bpa ba.length bca, .slice bpr br.length bcr] 66)
  have HU := Lib.hid (fun (W : World) (hB : Below W0.heap.size W0 W) => show Below w.heap.size w W from hB0.trans (hB.mono (by omega)))
  have HP := Lib.hid (fun (W : World) (hB : Below W0.heap.size W0 W) => show W.cell? ⟨w.heap.size, 0, none⟩ = some (.slice p x.regs.length c) ∧ W.cell? ⟨w.heap.size, 1, none⟩ = some (.slice q x.fns.length d) ∧ W.cell? ⟨w.heap.size + 1, 0, none⟩ = some (.slice apa aa.length aca) ∧ W.cell? ⟨w.heap.size + 1, 1, none⟩ = some (.slice apr ar.length acr) ∧ W.cell? ⟨w.heap.size + 1 + 1, 0, none⟩ = some (.slice bpa ba.length bca) ∧ W.cell? ⟨w.heap.size + 1 + 1, 1, none⟩ = some (.slice bpr br.length bcr) from
    have e0 := (hB.block _ (lt_blk k0)).trans k0
    have e1 := (hB.block _ (lt_blk k1)).trans k1
    have e2 := (hB.block _ (lt_blk k2)).trans k2
    ⟨cell_blk e0 rfl, cell_blk e0 rfl, cell_blk e1 rfl, cell_blk e1 rfl, cell_blk e2 rfl, cell_blk e2 rfl⟩)
  have HFa := Lib.hid (fun (W : World) (hW : Below w.heap.size w W) => fit_any x ⟨p, q, c, d⟩ (InW.p ⟨apa, apr, aca, acr, aa, ar⟩) N W (h.later (hW.mono hN) (Nat.le_refl N)) (hA.later (hW.mono hN)).p (Nat.le_trans hN hW.size) hc hd)
  have HFb := Lib.hid (fun (W : World) (hW : Below w.heap.size w W) => fit_any x ⟨p, q, c, d⟩ (InW.p ⟨bpa, bpr, bca, bcr, ba, br⟩) N W (h.later (hW.mono hN) (Nat.le_refl N)) (hB.later (hW.mono hN)).p (Nat.le_trans hN hW.size) hc hd)
  have HAa := Lib.hid (fun (W : World) (hW : Below w.heap.size w W) => show RowIn N (UAt W) 1 aa apa ∧ RowIn N (WRow W N) 1 ar apr from ⟨(hA.later (hW.mono hN)).args, (hA.later (hW.mono hN)).rows⟩)
  have HAb := Lib.hid (fun (W : World) (hW : Below w.heap.size w W) => show RowIn N (UAt W) 1 ba bpa ∧ RowIn N (WRow W N) 1 br bpr from ⟨(hB.later (hW.mono hN)).args, (hB.later (hW.mono hN)).rows⟩)
  have HX := Lib.hid (fun (W : World) (hW : Below w.heap.size w W) => h.later (hW.mono hN) (Nat.le_refl N))
  have HN := Lib.hid hN
  obtain ⟨R, hR⟩ : ∃ R, R = alB x ⟨apa, apr, aca, acr, aa, ar⟩ ⟨bpa, bpr, bca, bcr, ba, br⟩ := ⟨_, rfl⟩
  have HR := Lib.hid hR
  rw [← hR]
  obtain ⟨Fa, hFa⟩ : ∃ F, F = fitW x ⟨apa, apr, aca, acr, aa, ar⟩ := ⟨_, rfl⟩
  obtain ⟨Fb, hFb⟩ : ∃ F, F = fitW x ⟨bpa, bpr, bca, bcr, ba, br⟩ := ⟨_, rfl⟩
  have HFA := Lib.hid hFa
  have HFB := Lib.hid hFb
  have HW0 := Lib.hid hW0
  replace HFa := Lib.hid (fun (W : World) (hW : Below w.heap.size w W) => show Calls Tryz.prog 47 #[.agg #[.slice p x.regs.length c, .slice q x.fns.length d], .agg #[.slice apa aa.length aca, .slice apr ar.length acr]] W fun z w' => z = .returned (.int .i64 (fitI Fa)) ∧ Below W.heap.size W w' from by have e := HFa.out W hW; rw [InW.p_v] at e; rw [hFa]; exact e)
  replace HFb := Lib.hid (fun (W : World) (hW : Below w.heap.size w W) => show Calls Tryz.prog 47 #[.agg #[.slice p x.regs.length c, .slice q x.fns.length d], .agg #[.slice bpa ba.length bca, .slice bpr br.length bcr]] W fun z w' => z = .returned (.int .i64 (fitI Fb)) ∧ Below W.heap.size W w' from by have e := HFb.out W hW; rw [InW.p_v] at e; rw [hFb]; exact e)
  unfold Prg.v InW.v
  dsimp only
  have HC := Lib.hid (HFa.out W0 (HU.out _ (Below.refl _ _)))
  obtain ⟨p0, p1, p2, p3, p4, p5⟩ := HP.out W0 (Below.refl _ _)
  clear hW0 k0 k1 k2 hB0 hz0 h hA hB hN hc hd hR hFa hFb HFa
  cases Fa
  · have HRf := Lib.hid (show R = false by rw [HR.out, alB, ← HFA.out]; rfl)
    unfold fitI at HC
    simp only [Bool.false_eq_true, if_false] at HC
    go_enter Tryz.func16, Tryz.ntmps16
    go_wp2_with fail
    erw [HW0.out]
    refine HC.out.mono ?_
    rintro z w1 ⟨rfl, hB1⟩
    have HY := Lib.hid (HU.out _ hB1)
    clear hB1 p0 p1 p2 p3 p4 p5 HC
    go_wp2_with fail
    go_ret
    exact ⟨ret_bool HRf.out.symm, HY.out⟩
  unfold fitI at HC
  simp only [if_true] at HC
  go_enter Tryz.func16, Tryz.ntmps16
  go_wp2_with fail
  erw [HW0.out]
  refine HC.out.mono ?_
  rintro z w1 ⟨rfl, hB1⟩
  have HX1 := Lib.hid hB1
  clear hB1 p0 p1 p2 p3 p4 p5 HC HW0
  obtain ⟨p0, p1, p2, p3, p4, p5⟩ := HP.out w1 HX1.out
  have HC := Lib.hid (HFb.out w1 (HU.out _ HX1.out))
  clear HFb
  cases Fb
  · have HRf := Lib.hid (show R = false by rw [HR.out, alB, ← HFA.out, ← HFB.out]; rfl)
    unfold fitI at HC
    simp only [Bool.false_eq_true, if_false] at HC
    go_wp2_with fail
    refine HC.out.mono ?_
    rintro z w2 ⟨rfl, hB2⟩
    have HY := Lib.hid ((HU.out _ HX1.out).trans (hB2.mono (HU.out _ HX1.out).size))
    clear hB2 p0 p1 p2 p3 p4 p5 HC
    go_wp2_with fail
    go_ret
    exact ⟨ret_bool HRf.out.symm, HY.out⟩
  unfold fitI at HC
  simp only [if_true] at HC
  go_wp2_with fail
  refine HC.out.mono ?_
  rintro z w2 ⟨rfl, hB2⟩
  have HX2 := Lib.hid (HX1.out.trans (hB2.mono HX1.out.size))
  clear hB2 p0 p1 p2 p3 p4 p5 HC HX1
  obtain ⟨hmy, hla, hra, hlna⟩ := fitW_len HFA.out.symm
  obtain ⟨_, hlb, hrb, hlnb⟩ := fitW_len HFB.out.symm
  obtain ⟨ds, fn, hds, hlp⟩ := last_of (may_fns hmy)
  have hv : lastV x = fn.params := by unfold lastV; rw [hds]; simp
  have HRv := Lib.hid (show R = (pubA fn.params aa ba && pubR x.regs ar br) by rw [HR.out, alB, ← HFA.out, ← HFB.out, hv]; rfl)
  rw [hv] at hla hlb
  have HLn := Lib.hid (And.intro (And.intro hla hlb) (And.intro (And.intro hra hrb) (And.intro hlna hlnb)))
  have hxl : x.fns.length = ds.length + 1 := by rw [hds]; simp
  obtain ⟨b', o', hq, hb', ha'⟩ := Row.start (HX.out w (Below.refl _ _)).2
  obtain ⟨⟨pp, pv, pr, pb, cp, cv, cr, cb⟩, e0, e1, e2, e3, e4, hok⟩ := Fnc.At.all (Row.get (i := ds.length) (x := fn) ha' (by rw [hds]; simp))
  have hqs : q = some ⟨b', o', none⟩ := by
    rcases hq with h0 | h0
    · omega
    · exact h0
  subst hqs
  have hlt : ds.length < x.fns.length := by omega
  have hws : IntKind.i64.wrap ((x.fns.length : Int) - 1) = ((ds.length : Nat) : Int) := by rw [hxl]; simp [IntKind.wrap, IntKind.bits, IntKind.signed]; have := (HX.out w (Below.refl _ _)).2.1; omega
  have HPar := Lib.hid (fun (W : World) (hW : Below w.heap.size w W) => show RowIn N (Vr.At W) 4 fn.params pp from hok.1.imp (Nat.le_refl N) (Vr.At.later (hW.mono HN.out)))
  replace e1 := ((HU.out _ HX2.out).cell (p := ⟨b', o' + ds.length * 5 + 1, none⟩) (show b' < w.heap.size by have := HN.out; omega)).trans e1
  obtain ⟨p0, p1, p2, p3, p4, p5⟩ := HP.out w2 HX2.out
  clear hmy hla hlb hra hrb hlna hlnb hds hlp hv hq hb' ha' hok e0 e2 e3 e4
  have hxe : (x.fns.length : Int) - 1 = ((ds.length : Nat) : Int) := by omega
  have hdl : ds.length ≤ 140737488355328 := by have := (HX.out w (Below.refl _ _)).2.1; omega
  have hmp : fn.params.length ≤ 140737488355328 := (HPar.out w (Below.refl _ _)).1
  have hm : x.regs.length ≤ 140737488355328 := (HX.out w (Below.refl _ _)).1.1
  clear hxl hws
  go_wp2_with fail
  clear p0 p1 p2 p3 p4 p5 e1 hlt hxe hdl
  go_loopw [31] (fun i wr => ∃ (d r : List Vr) (da ra db rb : List Int), i = .int .i64 d.length ∧ d.length + r.length = fn.params.length ∧ Hid (fn.params = d ++ r) ∧ Hid (aa = da ++ ra) ∧ Hid (ba = db ++ rb) ∧ Hid (da.length = d.length ∧ db.length = d.length) ∧ Hid (R = (pubA r ra rb && pubR x.regs ar br)) ∧ Hid (Below W0.heap.size W0 wr)) (fun i _ => fn.params.length - (intOf i).toNat)
  case atStart => exact ⟨[], fn.params, [], aa, [], ba, rfl, by rw [List.length_nil]; omega, Lib.hid rfl, Lib.hid rfl, Lib.hid rfl, Lib.hid ⟨rfl, rfl⟩, HRv, HX2⟩
  case round =>
    obtain ⟨d1, r1, da, ra, db, rb, rfl, hk, hE, hEa, hEb, hLd, hRr, hBr⟩ := hrel
    obtain ⟨p0, p1, p2, p3, p4, p5⟩ := HP.out wr hBr.out
    cases r1 with
    | nil =>
      simp only [List.length_nil] at hk
      have hge : ¬ d1.length < fn.params.length := by omega
      have HR2 := Lib.hid (show R = pubR x.regs ar br by rw [hRr.out]; unfold pubA; simp)
      clear hE hEa hEb hLd hRr
      go_wp2_with fail
      clear p0 p1 p2 p3 p4 p5
      go_loopw [56] (fun i wx => ∃ (d r : List Rgn) (da ra db rb : List (List Int)), i = .int .i64 d.length ∧ d.length + r.length = x.regs.length ∧ Hid (x.regs = d ++ r) ∧ Hid (ar = da ++ ra) ∧ Hid (br = db ++ rb) ∧ Hid (da.length = d.length ∧ db.length = d.length) ∧ Hid (R = pubR r ra rb) ∧ Hid (Below W0.heap.size W0 wx)) (fun i _ => x.regs.length - (intOf i).toNat)
      case atStart => exact ⟨[], x.regs, [], ar, [], br, rfl, by rw [List.length_nil]; omega, Lib.hid rfl, Lib.hid rfl, Lib.hid rfl, Lib.hid ⟨rfl, rfl⟩, HR2, hBr⟩
      case round =>
        obtain ⟨d2, r2, da2, ra2, db2, rb2, rfl, hk2, hE2, hEa2, hEb2, hLd2, hRr2, hBr2⟩ := hrel
        cases r2 with
        | nil =>
          simp only [List.length_nil] at hk2
          have hge2 : ¬ d2.length < x.regs.length := by omega
          have HRf := Lib.hid (show R = true by rw [hRr2.out]; unfold pubR; rfl)
          have HY := Lib.hid (HU.out _ hBr2.out)
          clear hE2 hEa2 hEb2 hLd2 hRr2
          go_wp2_with fail
          go_ret
          exact ⟨ret_bool HRf.out.symm, HY.out⟩
        | cons v r2 =>
          simp only [List.length_cons] at hk2
          have hlt2 : d2.length < x.regs.length := by omega
          obtain ⟨ya, ra', rfl⟩ := cons_of hEa2.out (by have := hLd2.out.1; omega) HLn.out.2.1.1
          obtain ⟨yb, rb', rfl⟩ := cons_of hEb2.out (by have := hLd2.out.2; omega) HLn.out.2.1.2
          obtain ⟨xa, oa, rfl, hba, qa, ka, hca, hra⟩ := row_at (HAa.out wr (HU.out _ hBr2.out)).2 hEa2.out
          obtain ⟨xb, ob, rfl, hbb, qb, kb, hcb, hrb⟩ := row_at (HAb.out wr (HU.out _ hBr2.out)).2 hEb2.out
          rw [hLd2.out.1] at hca
          rw [hLd2.out.2] at hcb
          obtain ⟨bp, op, rfl, hbp, hvp⟩ := row_atk (HX.out wr (HU.out _ hBr2.out)).1 hE2.out
          obtain ⟨nm, ad, sz, sc⟩ := v
          obtain ⟨v0, v1, v2, v3⟩ := hvp
          obtain ⟨w3, hw3, k3, hB3, hz3⟩ := one_alloc wr (.cells #[.string (str nm), .int .i64 ad, .int .i64 sz, .bool sc] 83)
          have HW3 := Lib.hid hw3
          have hX3 := hBr2.out.trans (hB3.mono hBr2.out.size)
          have HX3 := Lib.hid hX3
          have hNr : N ≤ wr.heap.size := by have := HN.out; have := (HU.out _ hBr2.out).size; omega
          have HEq := Lib.hid (fun (W : World) (hW : Below w3.heap.size w3 W) => eqU_any ya yb qa qb ka kb N W (hra.imp (Nat.le_refl N) (UAt.later ((hB3.trans (hW.mono hB3.size)).mono hNr))) (hrb.imp (Nat.le_refl N) (UAt.later ((hB3.trans (hW.mono hB3.size)).mono hNr))) (by have := hW.size; have := hB3.size; omega))
          have HKp := Lib.hid (show w3.cell? ⟨wr.heap.size, 3, none⟩ = some (.bool sc) ∧ w3.cell? ⟨xa, oa + d2.length, none⟩ = some (.slice qa ya.length ka) ∧ w3.cell? ⟨xb, ob + d2.length, none⟩ = some (.slice qb yb.length kb) from
            ⟨cell_blk k3 rfl, (hB3.cell (p := ⟨xa, oa + d2.length, none⟩) (show xa < wr.heap.size by omega)).trans hca, (hB3.cell (p := ⟨xb, ob + d2.length, none⟩) (show xb < wr.heap.size by omega)).trans hcb⟩)
          obtain ⟨t, ht⟩ : ∃ t, t = decide (ya = yb) := ⟨_, rfl⟩
          rw [← ht] at HEq
          have HT := Lib.hid ht
          clear ht
          have hlta : d2.length < ar.length := by have := HLn.out.2.1.1; omega
          have hltb : d2.length < br.length := by have := HLn.out.2.1.2; omega
          clear hw3 k3 hB3 hz3 hX3 hca hcb hba hbb hbp hra hrb hNr
          go_upto_region 12 with fail
          erw [HW3.out]
          clear v0 v1 v2 v3
          have HS := Lib.hid (fun W => show Below w3.heap.size w3 W → (W.cell? ⟨wr.heap.size, 3, none⟩ = some (.bool sc) ∧ W.cell? ⟨w.heap.size + 1, 1, none⟩ = some (.slice (some ⟨xa, oa, none⟩) ar.length acr) ∧ W.cell? ⟨w.heap.size + 1 + 1, 1, none⟩ = some (.slice (some ⟨xb, ob, none⟩) br.length bcr) ∧ W.cell? ⟨xa, oa + d2.length, none⟩ = some (.slice qa ya.length ka) ∧ W.cell? ⟨xb, ob + d2.length, none⟩ = some (.slice qb yb.length kb)) from fun hW => ⟨(hW.cell (p := ⟨wr.heap.size, 3, none⟩) (by have := World.block_lt_of_cell? _ _ HKp.out.1; simpa using this)).trans HKp.out.1, (HP.out W (HX3.out.trans (hW.mono HX3.out.size))).2.2.2.1, (HP.out W (HX3.out.trans (hW.mono HX3.out.size))).2.2.2.2.2, (hW.cell (p := ⟨xa, oa + d2.length, none⟩) (by have := World.block_lt_of_cell? _ _ HKp.out.2.1; simpa using this)).trans HKp.out.2.1, (hW.cell (p := ⟨xb, ob + d2.length, none⟩) (by have := World.block_lt_of_cell? _ _ HKp.out.2.2; simpa using this)).trans HKp.out.2.2⟩)
          cases sc with
          | true =>
            refine wp_region_held_drew (S := fun W => W.cell? ⟨wr.heap.size, 3, none⟩ = some (.bool true) ∧ W.cell? ⟨w.heap.size + 1, 1, none⟩ = some (.slice (some ⟨xa, oa, none⟩) ar.length acr) ∧ W.cell? ⟨w.heap.size + 1 + 1, 1, none⟩ = some (.slice (some ⟨xb, ob, none⟩) br.length bcr) ∧ W.cell? ⟨xa, oa + d2.length, none⟩ = some (.slice qa ya.length ka) ∧ W.cell? ⟨xb, ob + d2.length, none⟩ = some (.slice qb yb.length kb)) (by kernel_rfl) ?_ (fun hHeld => ?_)
            · exact HS.out _ (Below.refl w3.heap.size w3).drew
            refine tq 0 ?_
            refine tq 1 ?_
            refine tq 2 ?_
            refine tq 3 ?_
            refine sq 4 ?_
            refine sq 5 ?_
            refine sq 6 ?_
            refine sq 7 ?_
            refine sq 8 ?_
            refine sq 9 ?_
            refine sq 10 ?_
            refine sq 11 ?_
            refine sq 12 ?_
            refine sq 13 ?_
            refine sq 14 ?_
            refine sq 15 ?_
            refine tq 16 ?_
            refine wpAnyH_done (by kernel_rfl) ?_ _
            clear hHeld
            have HRn := Lib.hid (show R = pubR r2 ra' rb' by rw [hRr2.out, pubR]; simp)
            have HXn := Lib.hid HX3.out.drew
            clear HS HKp HX3 HW3 HEq
            go_wp2_with fail
            go_roundw
            case rel => exact ⟨d2 ++ [⟨nm, ad, sz, true⟩], r2, da2 ++ [ya], ra', db2 ++ [yb], rb', by rw [List.length_append]; go_num, by simp; omega, Lib.hid (by rw [hE2.out]; simp), Lib.hid (by rw [hEa2.out]; simp), Lib.hid (by rw [hEb2.out]; simp), Lib.hid (by simp [hLd2.out.1, hLd2.out.2]), HRn, HXn⟩
            case measure => simp [intOf]; omega
          | false =>
            refine wp_region_held_drew (S := fun W => W.cell? ⟨wr.heap.size, 3, none⟩ = some (.bool false) ∧ W.cell? ⟨w.heap.size + 1, 1, none⟩ = some (.slice (some ⟨xa, oa, none⟩) ar.length acr) ∧ W.cell? ⟨w.heap.size + 1 + 1, 1, none⟩ = some (.slice (some ⟨xb, ob, none⟩) br.length bcr) ∧ W.cell? ⟨xa, oa + d2.length, none⟩ = some (.slice qa ya.length ka) ∧ W.cell? ⟨xb, ob + d2.length, none⟩ = some (.slice qb yb.length kb)) (by kernel_rfl) ?_ (fun hHeld => ?_)
            · exact HS.out _ (Below.refl w3.heap.size w3).drew
            refine tq 0 ?_
            refine tq 1 ?_
            refine tq 2 ?_
            refine tq 3 ?_
            refine tq 4 ?_
            refine tq 5 ?_
            refine tq 6 ?_
            refine tq 7 ?_
            refine tq 8 ?_
            refine tq 9 ?_
            refine tq 10 ?_
            refine tq 11 ?_
            refine tq 12 ?_
            refine tq 13 ?_
            refine wpAnyH_ready (rs := [14]) (by kernel_rfl) (by simp) ?_
            refine rdy rfl (fun K hK => ?_) AllReadyH.nil
            go_simp
            refine (HEq.out _ (Below.refl w3.heap.size w3).drew).mono ?_
            rintro z w5 ⟨rfl, hB5⟩
            have hX5 := (Below.refl w3.heap.size w3).drew.trans hB5
            clear hB5
            refine hK.out _ _ ?_ (fun hHeldN => ?_)
            · exact HS.out _ hX5
            clear hK K hHeld
            have hHeld := hHeldN
            clear hHeldN
            try simp only [Act.put, List.setIfInBounds_toArray, List.set_cons_zero, List.set_cons_succ]
            refine tq 15 ?_
            refine tq 16 ?_
            refine wpAnyH_done (by kernel_rfl) ?_ _
            clear hHeld
            have HXn := Lib.hid (HX3.out.trans (hX5.mono HX3.out.size))
            cases t
            · have HRn := Lib.hid (show R = false by rw [hRr2.out, pubR, ← HT.out]; rfl)
              have HYn := Lib.hid (HU.out _ HXn.out)
              clear HS HKp HX3 HW3 HEq hX5 HT
              go_wp2_with fail
              go_ret
              exact ⟨ret_bool HRn.out.symm, HYn.out⟩
            have HRn := Lib.hid (show R = pubR r2 ra' rb' by rw [hRr2.out, pubR, ← HT.out]; simp)
            clear HS HKp HX3 HW3 HEq hX5 HT
            go_wp2_with fail
            go_roundw
            case rel => exact ⟨d2 ++ [⟨nm, ad, sz, false⟩], r2, da2 ++ [ya], ra', db2 ++ [yb], rb', by rw [List.length_append]; go_num, by simp; omega, Lib.hid (by rw [hE2.out]; simp), Lib.hid (by rw [hEa2.out]; simp), Lib.hid (by rw [hEb2.out]; simp), Lib.hid (by simp [hLd2.out.1, hLd2.out.2]), HRn, HXn⟩
            case measure => simp [intOf]; omega
    | cons v r1 =>
      simp only [List.length_cons] at hk
      have hlt1 : d1.length < fn.params.length := by omega
      obtain ⟨ya, ra', rfl⟩ := cons_of hEa.out (by have := hLd.out.1; omega) HLn.out.1.1
      obtain ⟨yb, rb', rfl⟩ := cons_of hEb.out (by have := hLd.out.2; omega) HLn.out.1.2
      obtain ⟨xa, oa, rfl, hba, hca⟩ := row_at (HAa.out wr (HU.out _ hBr.out)).1 hEa.out
      obtain ⟨xb, ob, rfl, hbb, hcb⟩ := row_at (HAb.out wr (HU.out _ hBr.out)).1 hEb.out
      rw [hLd.out.1] at hca
      rw [hLd.out.2] at hcb
      obtain ⟨bp, op, rfl, hbp, hvp⟩ := row_atk (HPar.out wr (HU.out _ hBr.out)) hE.out
      obtain ⟨nm, kd, sz, sc⟩ := v
      obtain ⟨v0, v1, v2, v3⟩ := hvp
      obtain ⟨w3, hw3, k3, hB3, hz3⟩ := one_alloc wr (.cells #[.string (str nm), .int .i64 kd, .int .i64 sz, .bool sc] 58)
      have HW3 := Lib.hid hw3
      have hX3 := hBr.out.trans (hB3.mono hBr.out.size)
      have HX3 := Lib.hid hX3
      have HKp := Lib.hid (show w3.cell? ⟨wr.heap.size, 3, none⟩ = some (.bool sc) ∧ w3.cell? ⟨xa, oa + d1.length, none⟩ = some (.int .u64 ya) ∧ w3.cell? ⟨xb, ob + d1.length, none⟩ = some (.int .u64 yb) from
        have hNr : N ≤ wr.heap.size := by have := HN.out; have := (HU.out _ hBr.out).size; omega
        ⟨cell_blk k3 rfl, (hB3.cell (p := ⟨xa, oa + d1.length, none⟩) (show xa < wr.heap.size by omega)).trans hca, (hB3.cell (p := ⟨xb, ob + d1.length, none⟩) (show xb < wr.heap.size by omega)).trans hcb⟩)
      have hlta : d1.length < aa.length := by have := HLn.out.1.1; omega
      have hltb : d1.length < ba.length := by have := HLn.out.1.2; omega
      clear hw3 k3 hB3 hz3 hX3 hca hcb hba hbb hbp
      go_upto_region 6 with fail
      erw [HW3.out]
      clear v0 v1 v2 v3 p0 p1 p2 p3 p4 p5
      have HS := Lib.hid (fun W => show Below w3.heap.size w3 W → (W.cell? ⟨wr.heap.size, 3, none⟩ = some (.bool sc) ∧ W.cell? ⟨w.heap.size + 1, 0, none⟩ = some (.slice (some ⟨xa, oa, none⟩) aa.length aca) ∧ W.cell? ⟨w.heap.size + 1 + 1, 0, none⟩ = some (.slice (some ⟨xb, ob, none⟩) ba.length bca) ∧ W.cell? ⟨xa, oa + d1.length, none⟩ = some (.int .u64 ya) ∧ W.cell? ⟨xb, ob + d1.length, none⟩ = some (.int .u64 yb)) from fun hW => ⟨(hW.cell (p := ⟨wr.heap.size, 3, none⟩) (by have := World.block_lt_of_cell? _ _ HKp.out.1; simpa using this)).trans HKp.out.1, (HP.out W (HX3.out.trans (hW.mono HX3.out.size))).2.2.1, (HP.out W (HX3.out.trans (hW.mono HX3.out.size))).2.2.2.2.1, (hW.cell (p := ⟨xa, oa + d1.length, none⟩) (by have := World.block_lt_of_cell? _ _ HKp.out.2.1; simpa using this)).trans HKp.out.2.1, (hW.cell (p := ⟨xb, ob + d1.length, none⟩) (by have := World.block_lt_of_cell? _ _ HKp.out.2.2; simpa using this)).trans HKp.out.2.2⟩)
      cases sc with
      | true =>
        refine wp_region_held_drew (S := fun W => W.cell? ⟨wr.heap.size, 3, none⟩ = some (.bool true) ∧ W.cell? ⟨w.heap.size + 1, 0, none⟩ = some (.slice (some ⟨xa, oa, none⟩) aa.length aca) ∧ W.cell? ⟨w.heap.size + 1 + 1, 0, none⟩ = some (.slice (some ⟨xb, ob, none⟩) ba.length bca) ∧ W.cell? ⟨xa, oa + d1.length, none⟩ = some (.int .u64 ya) ∧ W.cell? ⟨xb, ob + d1.length, none⟩ = some (.int .u64 yb)) (by kernel_rfl) ?_ (fun hHeld => ?_)
        · exact HS.out _ (Below.refl w3.heap.size w3).drew
        refine tq 0 ?_
        refine tq 1 ?_
        refine tq 2 ?_
        refine tq 3 ?_
        refine sq 4 ?_
        refine sq 5 ?_
        refine sq 6 ?_
        refine sq 7 ?_
        refine sq 8 ?_
        refine sq 9 ?_
        refine sq 10 ?_
        refine sq 11 ?_
        refine sq 12 ?_
        refine sq 13 ?_
        refine sq 14 ?_
        refine tq 15 ?_
        refine wpAnyH_done (by kernel_rfl) ?_ _
        clear hHeld
        have HRn := Lib.hid (show R = (pubA r1 ra' rb' && pubR x.regs ar br) by rw [hRr.out, pubA]; simp)
        have HXn := Lib.hid HX3.out.drew
        clear HS HKp HX3 HW3
        go_wp2_with fail
        go_roundw
        case rel => exact ⟨d1 ++ [⟨nm, kd, sz, true⟩], r1, da ++ [ya], ra', db ++ [yb], rb', by rw [List.length_append]; go_num, by simp; omega, Lib.hid (by rw [hE.out]; simp), Lib.hid (by rw [hEa.out]; simp), Lib.hid (by rw [hEb.out]; simp), Lib.hid (by simp [hLd.out.1, hLd.out.2]), HRn, HXn⟩
        case measure => simp [intOf]; omega
      | false =>
        by_cases hy : ya = yb
        rotate_left
        · have hne : (ya != yb) = true := by simpa using hy
          refine wp_region_held_drew (S := fun W => W.cell? ⟨wr.heap.size, 3, none⟩ = some (.bool false) ∧ W.cell? ⟨w.heap.size + 1, 0, none⟩ = some (.slice (some ⟨xa, oa, none⟩) aa.length aca) ∧ W.cell? ⟨w.heap.size + 1 + 1, 0, none⟩ = some (.slice (some ⟨xb, ob, none⟩) ba.length bca) ∧ W.cell? ⟨xa, oa + d1.length, none⟩ = some (.int .u64 ya) ∧ W.cell? ⟨xb, ob + d1.length, none⟩ = some (.int .u64 yb)) (by kernel_rfl) ?_ (fun hHeld => ?_)
          · exact HS.out _ (Below.refl w3.heap.size w3).drew
          refine tq 0 ?_
          refine tq 1 ?_
          refine tq 2 ?_
          refine tq 3 ?_
          refine tq 4 ?_
          refine tq 5 ?_
          refine tq 6 ?_
          refine tq 7 ?_
          refine tq 8 ?_
          refine tq 9 ?_
          refine tq 10 ?_
          refine tq 11 ?_
          refine tq 12 ?_
          refine tq 13 ?_
          refine tk 14 (.bool true) rfl (.inl ⟨by rfl, ?_⟩) ?_
          · (intro w hSw; (try dsimp only at hSw); go_simp)
          try simp only [Act.put, List.setIfInBounds_toArray, List.set_cons_zero, List.set_cons_succ]
          refine tq 15 ?_
          refine wpAnyH_done (by kernel_rfl) ?_ _
          clear hHeld
          have HRn := Lib.hid (show R = false by rw [hRr.out, pubA, decide_eq_false hy]; rfl)
          have HXn := Lib.hid (HU.out _ HX3.out.drew)
          clear HS HKp HX3 HW3 hne hy
          go_wp2_with fail
          go_ret
          exact ⟨ret_bool HRn.out.symm, HXn.out⟩
        have hne : (ya != yb) = false := by simp [hy]
        refine wp_region_held_drew (S := fun W => W.cell? ⟨wr.heap.size, 3, none⟩ = some (.bool false) ∧ W.cell? ⟨w.heap.size + 1, 0, none⟩ = some (.slice (some ⟨xa, oa, none⟩) aa.length aca) ∧ W.cell? ⟨w.heap.size + 1 + 1, 0, none⟩ = some (.slice (some ⟨xb, ob, none⟩) ba.length bca) ∧ W.cell? ⟨xa, oa + d1.length, none⟩ = some (.int .u64 ya) ∧ W.cell? ⟨xb, ob + d1.length, none⟩ = some (.int .u64 yb)) (by kernel_rfl) ?_ (fun hHeld => ?_)
        · exact HS.out _ (Below.refl w3.heap.size w3).drew
        refine tq 0 ?_
        refine tq 1 ?_
        refine tq 2 ?_
        refine tq 3 ?_
        refine tq 4 ?_
        refine tq 5 ?_
        refine tq 6 ?_
        refine tq 7 ?_
        refine tq 8 ?_
        refine tq 9 ?_
        refine tq 10 ?_
        refine tq 11 ?_
        refine tq 12 ?_
        refine tq 13 ?_
        refine tk 14 (.bool false) rfl (.inl ⟨by rfl, ?_⟩) ?_
        · (intro w hSw; (try dsimp only at hSw); go_simp)
        try simp only [Act.put, List.setIfInBounds_toArray, List.set_cons_zero, List.set_cons_succ]
        refine tq 15 ?_
        refine wpAnyH_done (by kernel_rfl) ?_ _
        clear hHeld
        have HRn := Lib.hid (show R = (pubA r1 ra' rb' && pubR x.regs ar br) by rw [hRr.out, pubA, decide_eq_true hy]; simp)
        have HXn := Lib.hid HX3.out.drew
        clear HS HKp HX3 HW3 hne hy
        go_wp2_with fail
        go_roundw
        case rel => exact ⟨d1 ++ [⟨nm, kd, sz, false⟩], r1, da ++ [ya], ra', db ++ [yb], rb', by rw [List.length_append]; go_num, by simp; omega, Lib.hid (by rw [hE.out]; simp), Lib.hid (by rw [hEa.out]; simp), Lib.hid (by rw [hEb.out]; simp), Lib.hid (by simp [hLd.out.1, hLd.out.2]), HRn, HXn⟩
        case measure => simp [intOf]; omega
end Go.Proofs.YtihmibggonffdaaGreat
