/- I2, J1 as one. -/
import Derived.Test.YtnghehcjklkoeaaI1
/- What is asked of a function's variables. -/
namespace Go.Proofs.Ytnghehcjklkoeaa
open Go.RowKit

def Vr.par (v : Vr) : Bool := (v.kind == 1) && (v.size == 0)
def Vr.loc (v : Vr) : Bool := if v.kind == 1 then (v.size == 0) && !v.secret else (v.kind == 2) || (v.kind == 3)
def Fnc.varsB (f : Fnc) : Bool := f.params.all Vr.par && f.vars.all Vr.loc
set_option maxRecDepth 100000 in
set_option maxHeartbeats 12800000 in
theorem mustBeVars_any (f : Fnc) (s : FncP) (N : Nat) (w : World) (h : f.Ok w N s) (hN : N ≤ w.heap.size) :
    Calls Try.prog 36 #[f.v s] w (Chk (ask f.varsB 9) w) := by
  obtain ⟨pp, pv, pr, pb, cp, cv, cr, cb⟩ := s
  obtain ⟨W0, hW0, k0, hB0, hz0⟩ := one_alloc w (.cells #[.string (str f.name), .slice pp f.params.length cp, .slice pv f.vars.length cv, .slice pr f.rets.length cr, .slice pb f.body.len cb] 55)
  obtain ⟨b, o, hp, hb, ha⟩ := Row.start h.1
  obtain ⟨b', o', hq, hb', ha'⟩ := Row.start h.2.1
  have hm := h.1.1
  have hm' := h.2.1.1
  have HA := Lib.hid (And.intro ha hb)
  have HA' := Lib.hid (And.intro ha' hb')
  have HB0 := Lib.hid hB0
  have HZ0 := Lib.hid hz0
  have HW0 := Lib.hid hW0
  have HK := Lib.hid k0
  have HNo := Lib.hid (fun (w' : World) (hf : f.varsB = false) (hB : Below w.heap.size w w') => show Chk (ask f.varsB 9) w (Pn 9) w' from Chk.no' (e := 9) (by rw [hf]; rfl) (by decide) hB)
  have c1 : W0.cell? ⟨w.heap.size, 1, none⟩ = some (.slice pp f.params.length cp) := cell_blk k0 rfl
  have HC2 := Lib.hid (fun (W : World) (hB : Below W0.heap.size W0 W) => show W.cell? ⟨w.heap.size, 2, none⟩ = some (.slice pv f.vars.length cv) from cell_blk ((hB.block _ (lt_blk k0)).trans k0) rfl)
  unfold Pn at HNo
  unfold Fnc.v
  clear hW0 k0 hB0 h hb hb' ha ha' hz0
  go_enter Try.func36, Try.ntmps36
  go_upto_region 1 with fail
  rw [HW0.out]
  go_wp2_with fail
  go_loopw [9] (fun i wr => ∃ (k : Nat) (r : List Vr), i = .int .i64 k ∧ k + r.length = f.params.length ∧ Hid (Row (Vr.At w) 4 r b (o + k * 4)) ∧ Hid (Below W0.heap.size W0 wr) ∧ Hid (r.all Vr.par = f.params.all Vr.par)) (fun i _ => f.params.length - (intOf i).toNat)
  case atStart => exact ⟨0, f.params, rfl, by omega, Lib.hid (by rw [Nat.zero_mul]; exact HA.out.1), Lib.hid (Below.refl _ _), Lib.hid rfl⟩
  case round =>
    obtain ⟨k, r, rfl, hk, hr, hB, hE⟩ := hrel
    cases r with
    | cons y r =>
      obtain ⟨hy, hr'⟩ := hr.out
      simp only [List.length_cons] at hk
      have hlt : k < f.params.length := by omega
      rcases hp with h0 | rfl
      · omega
      have hU := HB0.out.trans (hB.out.mono (show w.heap.size ≤ W0.heap.size by have := HZ0.out; omega))
      obtain ⟨d0, d1, d2, d3⟩ := Vr.At.later hU y b _ (by have := HA.out.2; omega) hy
      have HR := Lib.hid hr'
      have HBa := Lib.hid (And.intro (hB.out.alloc hB.out.size (.cells #[.string (str y.name), .int .i64 y.kind, .int .i64 y.size, .bool y.secret] 52)) (hU.alloc hU.size (.cells #[.string (str y.name), .int .i64 y.kind, .int .i64 y.size, .bool y.secret] 52)))
      have HF := Lib.hid (show y.par = false → f.varsB = false from fun h => by have := hE.out; rw [List.all_cons, h, Bool.false_and] at this; simp only [Fnc.varsB, ← this, Bool.false_and])
      have HT := Lib.hid (show y.par = true → r.all Vr.par = f.params.all Vr.par from fun h => by have := hE.out; rw [List.all_cons, h, Bool.true_and] at this; exact this)
      unfold Vr.par at HF HT
      clear hy hr hr' hE hU c1
      generalize e1 : (y.kind == 1) = t1 at HF HT
      generalize e2 : (y.size == 0) = t2 at HF HT
      cases t1 <;> cases t2 <;>
      first
        | (have HX := Lib.hid (HNo.out _ (HF.out rfl) HBa.out.2)
           clear HT HF
           go_wp2_with (go_at_call 57; refine (must_no 9 _).mono ?_; rintro e w' ⟨rfl, rfl⟩; unfold Pn)
           exact ⟨rfl, HX.out⟩)
        | (have HX := Lib.hid (HT.out rfl)
           clear HT HF
           go_wp2_with (go_at_call 57; refine (must_yes 9 _).mono ?_; rintro e w' ⟨rfl, rfl⟩)
           go_roundw
           case rel => exact ⟨k + 1, r, by go_num, by omega, Lib.hid (by rw [show o + (k + 1) * 4 = o + k * 4 + 4 by omega]; exact HR.out), Lib.hid HBa.out.1, HX⟩
           case measure => simp [intOf]; omega)
    | nil =>
      simp only [List.length_nil] at hk
      have hge : ¬ k < f.params.length := by omega
      have HP := Lib.hid (show f.params.all Vr.par = true from hE.out.symm)
      have c2 := HC2.out wr hB.out
      have HB := Lib.hid hB.out
      clear hr hE c1 hB
      go_wp2_with fail
      obtain ⟨wq, rfl⟩ : ∃ wq : World, wq = wr := ⟨_, rfl⟩
      clear c2
      go_loopw [26] (fun i wr => ∃ (k : Nat) (r : List Vr), i = .int .i64 k ∧ k + r.length = f.vars.length ∧ Hid (Row (Vr.At w) 4 r b' (o' + k * 4)) ∧ Hid (Below W0.heap.size W0 wr) ∧ Hid (r.all Vr.loc = f.vars.all Vr.loc)) (fun i _ => f.vars.length - (intOf i).toNat)
      case atStart => exact ⟨0, f.vars, rfl, by omega, Lib.hid (by rw [Nat.zero_mul]; exact HA'.out.1), HB, Lib.hid rfl⟩
      case round =>
        obtain ⟨k', r, rfl, hk', hr, hB, hE⟩ := hrel
        have hU := HB0.out.trans (hB.out.mono (show w.heap.size ≤ W0.heap.size by have := HZ0.out; omega))
        cases r with
        | nil =>
          simp only [List.length_nil] at hk'
          have hge' : ¬ k' < f.vars.length := by omega
          have HOK := Lib.hid (show Chk (ask f.varsB 9) w (.returned (.tuple #[])) wr from .ok (by unfold Fnc.varsB; rw [HP.out, ← hE.out]; rfl) hU)
          clear hU
          go_wp2_with fail
          go_end0
          exact HOK.out
        | cons y r =>
          obtain ⟨hy, hr'⟩ := hr.out
          simp only [List.length_cons] at hk'
          have hlt : k' < f.vars.length := by omega
          rcases hq with h0 | rfl
          · omega
          obtain ⟨d0, d1, d2, d3⟩ := Vr.At.later hU y b' _ (by have := HA'.out.2; omega) hy
          have HR := Lib.hid hr'
          have HBa := Lib.hid (And.intro (hB.out.alloc hB.out.size (.cells #[.string (str y.name), .int .i64 y.kind, .int .i64 y.size, .bool y.secret] 52)) (hU.alloc hU.size (.cells #[.string (str y.name), .int .i64 y.kind, .int .i64 y.size, .bool y.secret] 52)))
          have HF := Lib.hid (show y.loc = false → f.varsB = false from fun h => by have := hE.out; rw [List.all_cons, h, Bool.false_and] at this; simp only [Fnc.varsB, ← this, Bool.and_false])
          have HT := Lib.hid (show y.loc = true → r.all Vr.loc = f.vars.all Vr.loc from fun h => by have := hE.out; rw [List.all_cons, h, Bool.true_and] at this; exact this)
          unfold Vr.loc at HF HT
          clear hy hr hr' hE hU
          obtain ⟨ynm, yk, ysz, ysec⟩ := y
          simp only at d0 d1 d2 d3 HBa HF HT
          generalize e1 : (yk == 1) = t1 at HF HT
          generalize e2 : (ysz == 0) = t2 at HF HT
          generalize e3 : (yk == 2) = t3 at HF HT
          generalize e4 : (yk == 3) = t4 at HF HT
          cases t1 <;> cases t2 <;> cases ysec <;> cases t3 <;> cases t4 <;>
          first
            | (have HX := Lib.hid (HNo.out _ (HF.out rfl) HBa.out.2)
               clear HT HF
               go_wp2_with (go_at_call 57; refine (must_no 9 _).mono ?_; rintro e w' ⟨rfl, rfl⟩; unfold Pn)
               exact ⟨rfl, HX.out⟩)
            | (have HX := Lib.hid (HT.out rfl)
               clear HT HF
               go_wp2_with (go_at_call 57; refine (must_yes 9 _).mono ?_; rintro e w' ⟨rfl, rfl⟩)
               go_roundw
               case rel => exact ⟨k' + 1, r, by go_num, by omega, Lib.hid (by rw [show o' + (k' + 1) * 4 = o' + k' * 4 + 4 by omega]; exact HR.out), Lib.hid HBa.out.1, HX⟩
               case measure => simp [intOf]; omega)
end Go.Proofs.Ytnghehcjklkoeaa
/- The words that count: how many loops have each. -/
namespace Go.Proofs.Ytnghehcjklkoeaa
open Go.RowKit

mutual
def St.fors : St → Nat → List (List UInt8)
  | .mk kd nm _ _ _ _ _ _ bd el, deep => (if kd = 5 then [nm] else []) ++ bd.fors (deep + 1) ++ el.fors (deep + 1)
def Sts.fors : Sts → Nat → List (List UInt8)
  | .nil, _ => []
  | .cons x r, deep => if 64 < deep then [] else x.fors deep ++ r.fors deep
end
def St.forN (x : St) : List (List UInt8) := if x.kind = 5 then [x.name] else []
theorem St.fors_eq (x : St) (deep : Nat) : x.fors deep = x.forN ++ x.body.fors (deep + 1) ++ x.els.fors (deep + 1) := by obtain ⟨kd, nm, ns, e, a, as', lo, hi, bd, el⟩ := x; rw [St.fors]; rfl
theorem Sts.fors_deep : ∀ (l : Sts) (deep : Nat), 64 < deep → l.fors deep = []
  | .nil, _, _ => by rw [Sts.fors]
  | .cons x r, deep, h => by rw [Sts.fors, if_pos h]
theorem Sts.fors_cons {x : St} {r : Sts} {deep : Nat} (h : deep ≤ 64) : (Sts.cons x r).fors deep = x.forN ++ x.body.fors (deep + 1) ++ x.els.fors (deep + 1) ++ r.fors deep := by rw [Sts.fors, if_neg (by omega), St.fors_eq]
theorem adds_more : ∀ (a b : List (List UInt8)) (f : List UInt8 → Nat), adds f (a ++ b) = adds (adds f a) b
  | [], _, _ => rfl
  | s :: a, b, f => by rw [List.cons_append, adds, adds_more a b, adds]
def seeC (g : Nat) : Value := .func (.func 63) #[] #[.pointer (some ⟨g, 0, none⟩)]
set_option maxRecDepth 100000 in
set_option maxHeartbeats 1600000 in
theorem seeC_any (x : St) (deep : Nat) (N b o g m : Nat) (f : List UInt8 → Nat) (w : World) (hx : x.At w N b o) (hM : Nm w g m f) (hf : ∀ s, f s ≤ 1000000) :
    Calls Try.prog 63 #[.pointer (some ⟨b, o, none⟩), .int .i64 (deep : Int), .pointer (some ⟨g, 0, none⟩)] w fun z w' => z = .returned (.tuple #[]) ∧ Nm w' g m (adds f x.forN) ∧ But m w w' := by
  obtain ⟨s, hc, _⟩ := hx.open
  have d0 : w.cell? ⟨b, o, none⟩ = some (.int .i64 x.kind) := hc 0 _ rfl
  have d1 : w.cell? ⟨b, o + 1, none⟩ = some (.string (str x.name)) := hc 1 _ rfl
  have hM0 := hM
  unfold St.forN
  clear hx hc
  by_cases h5 : x.kind = 5
  · have e5 : (x.kind == 5) = true := by simp [h5]
    have c0 : w.cell? ⟨g, 0, none⟩ = some (.map (some m)) := cell_blk hM.1 rfl
    have hlk := (hM.2.1.later (Below.refl _ w).drew).look Try.underlying78 Try.underlying9 zeroInt x.name
    obtain ⟨w2, hup, hcm, hz, hb, ho, ht, hp⟩ := (hM.2.1.later (Below.refl _ w).drew).put Try.underlying78 Try.underlying9 x.name
    have HR := Lib.hid (show Nm w2 g m (adds f [x.name]) ∧ But m w w2 from ⟨⟨(hb g hM.2.2).trans hM.1, hcm, hM.2.2⟩, ⟨ho, ht, hp, Nat.le_of_eq hz.symm, fun k _ hk => hb k hk⟩⟩)
    have hw : IntKind.i64.wrap ((f x.name : Int) + 1) = (f x.name : Int) + 1 := by have := hf x.name; simp [IntKind.wrap, IntKind.bits, IntKind.signed]; omega
    rw [show ((f x.name + 1 : Nat) : Int) = (f x.name : Int) + 1 by omega] at hup
    rw [if_pos h5]
    clear hM hM0 hcm hz hb ho ht hp hf h5
    go_enter Try.func63, Try.ntmps63
    go_wp2_with fail
    go_still_tail 7, (by kernel_rfl)
    change wpList _ _ _ _ _ (World.drew _)
    go_wp2_with fail
    go_end0
    exact ⟨rfl, HR.out⟩
  · have e5 : (x.kind == 5) = false := by simp [h5]
    rw [if_neg h5]
    have HR := Lib.hid (show Nm w g m (adds f []) ∧ But m w w from ⟨hM, But.refl _ _⟩)
    clear hM hM0 hf h5
    go_enter Try.func63, Try.ntmps63
    go_wp2_with fail
    go_end0
    exact ⟨rfl, HR.out⟩
theorem add_le (f : List UInt8 → Nat) (v : Nat) (h : ∀ s, f s ≤ v) (x : St) : ∀ s, adds f x.forN s ≤ v + 1 := by
  intro s
  unfold St.forN
  have := h s
  by_cases h5 : x.kind = 5
  · rw [if_pos h5]; simp only [adds, add]; split <;> omega
  · rw [if_neg h5]; simp only [adds]; omega
def EachC (s : Nat) : Prop := ∀ (l : Sts), l.size < s → ∀ (deep : Nat), deep ≤ 65 → ∀ (p : Option Addr) (c N : Nat) (w : World) (g m K : Nat) (f : List UInt8 → Nat), l.In w N p → N ≤ w.heap.size → N ≤ m → Nm w g m f → (∀ s, f s ≤ K) → K + l.sc deep ≤ 100000 →
    Calls Try.prog 62 #[.slice p l.len c, .int .i64 (deep : Int), seeC g] w fun z w' => z = .returned (.tuple #[]) ∧ Nm w' g m (adds f (l.fors deep)) ∧ But m w w' ∧ ∀ s, adds f (l.fors deep) s ≤ K + l.sc deep
set_option maxHeartbeats 6400000 in
theorem eachC_step (s : Nat) (ih : EachC s) : EachC (s + 1) := by
  intro l hls deep hd p c N w g m K f hl hN hg hM hf hK
  unfold seeC
  by_cases hdp : 64 < deep
  · rw [Sts.fors_deep l deep hdp, Sts.sc_deep l deep hdp]
    have hR := Lib.hid (show Nm w g m (adds f []) ∧ But m w w ∧ ∀ s, adds f [] s ≤ K + 0 from ⟨hM, But.refl _ _, hf⟩)
    have hi : (64 : Int) < (deep : Int) := by omega
    clear hM hl ih hf
    go_enter Try.func62, Try.ntmps62
    go_wp2_with fail
    exact bodyPost_ret (results_none rfl _ _ _) rfl ⟨rfl, hR.out⟩
  have IH := Lib.hid ih
  clear ih
  have hi : ¬ (64 : Int) < (deep : Int) := by omega
  have hwd : IntKind.i64.wrap ((deep : Int) + 1) = ((deep + 1 : Nat) : Int) := by simp [IntKind.wrap, IntKind.bits, IntKind.signed]; omega
  obtain ⟨hm, hs⟩ := hl
  obtain ⟨b, o, hp, hb, ha⟩ : ∃ b o, (l.len = 0 ∨ p = some ⟨b, o, none⟩) ∧ (b < N ∨ l.len = 0) ∧ l.At w N b o := by
    rcases hs with h0 | ⟨b, o, hp, hb, ha⟩
    · exact ⟨0, 0, .inl h0, .inr h0, by cases l with | nil => trivial | cons => simp [Sts.len] at h0⟩
    · exact ⟨b, o, .inr hp, .inl hb, ha⟩
  have HM := Lib.hid (And.intro hM hf)
  have Hb := Lib.hid hb
  clear hs hM hb hf
  go_enter Try.func62, Try.ntmps62
  go_wp2_with fail
  go_loopw [11] (fun i wr => ∃ (k v : Nat) (f' : List UInt8 → Nat) (r : Sts), i = .int .i64 k ∧ k + r.len = l.len ∧ r.size ≤ s ∧ v + r.sc deep = K + l.sc deep ∧ Hid (r.At w N b (o + k * 16)) ∧ Hid (Nm wr g m f' ∧ But m w wr) ∧ Hid (adds f' (r.fors deep) = adds f (l.fors deep)) ∧ Hid (∀ s, f' s ≤ v)) (fun i _ => l.len - (intOf i).toNat)
  case atStart => exact ⟨0, K, f, l, rfl, by omega, by omega, rfl, Lib.hid (by rw [Nat.zero_mul]; exact ha), Lib.hid ⟨HM.out.1, But.refl _ _⟩, Lib.hid rfl, Lib.hid HM.out.2⟩
  case round =>
    obtain ⟨k, v, f', r, rfl, hk, hrs, hv, hr, hCB, hE, hf'⟩ := hrel
    cases r with
    | nil =>
      simp only [Sts.len] at hk
      have hge : ¬ k < l.len := by omega
      have hR := Lib.hid (show Nm wr g m (adds f (l.fors deep)) ∧ But m w wr ∧ ∀ s, adds f (l.fors deep) s ≤ K + l.sc deep by
        have h := hE.out
        rw [Sts.fors] at h
        rw [← h]
        rw [Sts.sc] at hv
        exact ⟨hCB.out.1, hCB.out.2, fun s => by have := hf'.out s; simp only [adds]; omega⟩)
      go_wp2_with fail
      go_end0
      exact ⟨rfl, hR.out⟩
    | cons y r =>
      obtain ⟨hy, hr'⟩ := hr.out
      simp only [Sts.len] at hk
      simp only [Sts.size] at hrs
      have hlt : k < l.len := by omega
      rcases hp with h0 | rfl
      · omega
      rw [Sts.sc_cons (by omega)] at hv
      have HEy := Lib.hid (show adds (adds (adds (adds f' y.forN) (y.body.fors (deep + 1))) (y.els.fors (deep + 1))) (r.fors deep) = adds f (l.fors deep) by rw [← adds_more, ← adds_more, ← adds_more, ← hE.out, Sts.fors_cons (by omega)]; simp only [List.append_assoc])
      have HR := Lib.hid hr'
      have hbN : b < N := by have := Hb.out; omega
      have HY := Lib.hid (And.intro hy hbN)
      have HSz := Lib.hid y.size_eq
      have HCt := Lib.hid (seeC_any y deep N b (o + k * 16) g m f' wr (St.At.later (hCB.out.2.old hg hN) (Nat.le_refl N) y b _ HY.out.2 hy) hCB.out.1 (fun s => by have := hf'.out s; omega))
      have HLe := Lib.hid (add_le f' v hf'.out y)
      clear hy hr' hr hE hbN
      go_wp2_with fail
      refine HCt.out.mono ?_
      rintro z w2 ⟨rfl, h2, h3⟩
      have hCB2 := Lib.hid (And.intro h2 (hCB.out.2.trans h3))
      obtain ⟨q, cq, d0, hok⟩ := St.At.body (St.At.later (hCB2.out.2.old hg hN) (Nat.le_refl N) y b (o + k * 16) HY.out.2 HY.out.1)
      have hCl := Lib.hid (IH.out y.body (by have := HSz.out; omega) (deep + 1) (by omega) q cq N w2 g m (v + 1) _ hok (Nat.le_trans hN hCB2.out.2.size) hg h2 HLe.out (by omega))
      unfold seeC at hCl
      clear h2 h3 hok
      go_wp2_with fail
      refine hCl.out.mono ?_
      rintro z w3 ⟨rfl, h2, h3, h4⟩
      have hCB3 := Lib.hid (And.intro h2 (hCB2.out.2.trans h3))
      obtain ⟨q4, cq4, d4, hok4⟩ := St.At.els (St.At.later (hCB3.out.2.old hg hN) (Nat.le_refl N) y b (o + k * 16) HY.out.2 HY.out.1)
      have hCl4 := Lib.hid (IH.out y.els (by have := HSz.out; omega) (deep + 1) (by omega) q4 cq4 N w3 g m (v + 1 + y.body.sc (deep + 1)) _ hok4 (Nat.le_trans hN hCB3.out.2.size) hg h2 h4 (by omega))
      unfold seeC at hCl4
      clear h2 h3 h4 hok4 d0
      go_wp2_with fail
      refine hCl4.out.mono ?_
      rintro z w4 ⟨rfl, h2, h3, h4⟩
      have hCB4 := Lib.hid (And.intro h2 (hCB3.out.2.trans h3))
      have HL4 := Lib.hid h4
      clear h2 h3 h4 d4
      go_wp2_with fail
      go_roundw
      case rel => exact ⟨k + 1, v + 1 + y.body.sc (deep + 1) + y.els.sc (deep + 1) + y.own deep, _, r, by go_num, by omega, by omega, by omega, Lib.hid (by rw [show o + (k + 1) * 16 = o + k * 16 + 16 by omega]; exact HR.out), hCB4, HEy, Lib.hid (fun s => by have := HL4.out s; omega)⟩
      case measure => simp [intOf]; omega
theorem eachC_to : ∀ n, EachC n
  | 0 => fun _ h => absurd h (Nat.not_lt_zero _)
  | n + 1 => eachC_step n (eachC_to n)
end Go.Proofs.Ytnghehcjklkoeaa
