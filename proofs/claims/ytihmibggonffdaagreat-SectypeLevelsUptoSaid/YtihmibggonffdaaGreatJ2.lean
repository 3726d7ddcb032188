/- I2, J1, J2 as one. -/
import Derived.Test.YtihmibggonffdaaGreatI1
/- What is asked of a function's variables. -/
namespace Go.Proofs.YtihmibggonffdaaGreat
open Go.RowKit

def Vr.par (v : Vr) : Bool := (v.kind == 1) && (v.size == 0)
def Vr.loc (v : Vr) : Bool := if v.kind == 1 then (v.size == 0) && !v.secret else (v.kind == 2) || (v.kind == 3)
def Fnc.varsB (f : Fnc) : Bool := f.params.all Vr.par && f.vars.all Vr.loc
set_option maxRecDepth 100000 in
set_option maxHeartbeats 12800000 in
theorem mustBeVars_any (f : Fnc) (s : FncP) (N : Nat) (w : World) (h : f.Ok w N s) (hN : N ≤ w.heap.size) :
   Calls Tryz.prog 55 #[f.v s] w (Chk (ask f.varsB 9) w) := by
 obtain ⟨pp, pv, pr, pb, cp, cv, cr, cb⟩ := s
 obtain ⟨W0, hW0, k0, hB0, hz0⟩ := one_alloc w (.cells #[.string (str f.name), .slice pp f.params.length cp, .slice pv f.vars.length cv, .slice pr f.rets.length cr, .slice pb f.body.len cb] 48)
 obtain ⟨b, o, hp, hb, ha⟩ := Row.start h.1
 obtain ⟨b', o', hq, hb', ha'⟩ := Row.start h.2.1
 have hm := h.1.1
 have hm' := h.2.1.1
 have HA := Lib.hid (And.intro ha hb)
 have HA' := Lib.hid (And.intro ha' hb')
 have HB0 := Lib.hid hB0
 have HZ0 := Lib.hid hz0
 have HW0 := Lib.hid hW0
 have HK := Lib.hid k0
 have HNo := Lib.hid (fun (w' : World) (hf : f.varsB = false) (hB : Below w.heap.size w w') => show Chk (ask f.varsB 9) w (Pn 9) w' from Chk.no' (e := 9) (by rw [hf]; rfl) (by decide) hB)
 have c1 : W0.cell? ⟨w.heap.size, 1, none⟩ = some (.slice pp f.params.length cp) := cell_blk k0 rfl
 have HC2 := Lib.hid (fun (W : World) (hB : Below W0.heap.size W0 W) => show W.cell? ⟨w.heap.size, 2, none⟩ = some (.slice pv f.vars.length cv) from cell_blk ((hB.block _ (lt_blk k0)).trans k0) rfl)
 unfold Pn at HNo
 unfold Fnc.v
 clear hW0 k0 hB0 h hb hb' ha ha' hz0
 go_enter Tryz.func55, Tryz.ntmps55
 go_upto_region 1 with fail
 rw [HW0.out]
 go_wp2_with fail
 go_loopw [9] (fun i wr => ∃ (k : Nat) (r : List Vr), i = .int .i64 k ∧ k + r.length = f.params.length ∧ Hid (Row (Vr.At w) 4 r b (o + k * 4)) ∧ Hid (Below W0.heap.size W0 wr) ∧ Hid (r.all Vr.par = f.params.all Vr.par)) (fun i _ => f.params.length - (intOf i).toNat)
 case atStart => exact ⟨0, f.params, rfl, by omega, Lib.hid (by rw [Nat.zero_mul]; exact HA.out.1), Lib.hid (Below.refl _ _), Lib.hid rfl⟩
 case round =>
   obtain ⟨k, r, rfl, hk, hr, hB, hE⟩ := hrel
   cases r with
   | cons y r =>
     obtain ⟨hy, hr'⟩ := hr.out
     simp only [List.length_cons] at hk
     have hlt : k < f.params.length := by omega
     rcases hp with h0 | rfl
     · omega
     have hU := HB0.out.trans (hB.out.mono (show w.heap.size ≤ W0.heap.size by have := HZ0.out; omega))
     obtain ⟨d0, d1, d2, d3⟩ := Vr.At.later hU y b _ (by have := HA.out.2; omega) hy
     have HR := Lib.hid hr'
     have HBa := Lib.hid (And.intro (hB.out.alloc hB.out.size (.cells #[.string (str y.name), .int .i64 y.kind, .int .i64 y.size, .bool y.secret] 58)) (hU.alloc hU.size (.cells #[.string (str y.name), .int .i64 y.kind, .int .i64 y.size, .bool y.secret] 58)))
     have HF := Lib.hid (show y.par = false → f.varsB = false from fun h => by have := hE.out; rw [List.all_cons, h, Bool.false_and] at this; simp only [Fnc.varsB, ← this, Bool.false_and])
     have HT := Lib.hid (show y.par = true → r.all Vr.par = f.params.all Vr.par from fun h => by have := hE.out; rw [List.all_cons, h, Bool.true_and] at this; exact this)
     unfold Vr.par at HF HT
     clear hy hr hr' hE hU c1
     generalize e1 : (y.kind == 1) = t1 at HF HT
     generalize e2 : (y.size == 0) = t2 at HF HT
     cases t1 <;> cases t2 <;>
     first
       | (have HX := Lib.hid (HNo.out _ (HF.out rfl) HBa.out.2)
          clear HT HF
          go_wp2_with (go_at_call 79; refine (must_no 9 _).mono ?_; rintro e w' ⟨rfl, rfl⟩; unfold Pn)
          exact ⟨rfl, HX.out⟩)
       | (have HX := Lib.hid (HT.out rfl)
          clear HT HF
          go_wp2_with (go_at_call 79; refine (must_yes 9 _).mono ?_; rintro e w' ⟨rfl, rfl⟩)
          go_roundw
          case rel => exact ⟨k + 1, r, by go_num, by omega, Lib.hid (by rw [show o + (k + 1) * 4 = o + k * 4 + 4 by omega]; exact HR.out), Lib.hid HBa.out.1, HX⟩
          case measure => simp [intOf]; omega)
   | nil =>
     simp only [List.length_nil] at hk
     have hge : ¬ k < f.params.length := by omega
     have HP := Lib.hid (show f.params.all Vr.par = true from hE.out.symm)
     have c2 := HC2.out wr hB.out
     have HB := Lib.hid hB.out
     clear hr hE c1 hB
     go_wp2_with fail
     obtain ⟨wq, rfl⟩ : ∃ wq : World, wq = wr := ⟨_, rfl⟩
     clear c2
     go_loopw [26] (fun i wr => ∃ (k : Nat) (r : List Vr), i = .int .i64 k ∧ k + r.length = f.vars.length ∧ Hid (Row (Vr.At w) 4 r b' (o' + k * 4)) ∧ Hid (Below W0.heap.size W0 wr) ∧ Hid (r.all Vr.loc = f.vars.all Vr.loc)) (fun i _ => f.vars.length - (intOf i).toNat)
     case atStart => exact ⟨0, f.vars, rfl, by omega, Lib.hid (by rw [Nat.zero_mul]; exact HA'.out.1), HB, Lib.hid rfl⟩
     case round =>
       obtain ⟨k', r, rfl, hk', hr, hB, hE⟩ := hrel
       have hU := HB0.out.trans (hB.out.mono (show w.heap.size ≤ W0.heap.size by have := HZ0.out; omega))
       cases r with
       | nil =>
         simp only [List.length_nil] at hk'
         have hge' : ¬ k' < f.vars.length := by omega
         have HOK := Lib.hid (show Chk (ask f.varsB 9) w (.returned (.tuple #[])) wr from .ok (by unfold Fnc.varsB; rw [HP.out, ← hE.out]; rfl) hU)
         clear hU
         go_wp2_with fail
         go_end0
         exact HOK.out
       | cons y r =>
         obtain ⟨hy, hr'⟩ := hr.out
         simp only [List.length_cons] at hk'
         have hlt : k' < f.vars.length := by omega
         rcases hq with h0 | rfl
         · omega
         obtain ⟨d0, d1, d2, d3⟩ := Vr.At.later hU y b' _ (by have := HA'.out.2; omega) hy
         have HR := Lib.hid hr'
         have HBa := Lib.hid (And.intro (hB.out.alloc hB.out.size (.cells #[.string (str y.name), .int .i64 y.kind, .int .i64 y.size, .bool y.secret] 58)) (hU.alloc hU.size (.cells #[.string (str y.name), .int .i64 y.kind, .int .i64 y.size, .bool y.secret] 58)))
         have HF := Lib.hid (show y.loc = false → f.varsB = false from fun h => by have := hE.out; rw [List.all_cons, h, Bool.false_and] at this; simp only [Fnc.varsB, ← this, Bool.and_false])
         have HT := Lib.hid (show y.loc = true → r.all Vr.loc = f.vars.all Vr.loc from fun h => by have := hE.out; rw [List.all_cons, h, Bool.true_and] at this; exact this)
         unfold Vr.loc at HF HT
         clear hy hr hr' hE hU
         obtain ⟨ynm, yk, ysz, ysec⟩ := y
         simp only at d0 d1 d2 d3 HBa HF HT
         generalize e1 : (yk == 1) = t1 at HF HT
         generalize e2 : (ysz == 0) = t2 at HF HT
         generalize e3 : (yk == 2) = t3 at HF HT
         generalize e4 : (yk == 3) = t4 at HF HT
         cases t1 <;> cases t2 <;> cases ysec <;> cases t3 <;> cases t4 <;>
         first
           | (have HX := Lib.hid (HNo.out _ (HF.out rfl) HBa.out.2)
              clear HT HF
              go_wp2_with (go_at_call 79; refine (must_no 9 _).mono ?_; rintro e w' ⟨rfl, rfl⟩; unfold Pn)
              exact ⟨rfl, HX.out⟩)
           | (have HX := Lib.hid (HT.out rfl)
              clear HT HF
              go_wp2_with (go_at_call 79; refine (must_yes 9 _).mono ?_; rintro e w' ⟨rfl, rfl⟩)
              go_roundw
              case rel => exact ⟨k' + 1, r, by go_num, by omega, Lib.hid (by rw [show o' + (k' + 1) * 4 = o' + k' * 4 + 4 by omega]; exact HR.out), Lib.hid HBa.out.1, HX⟩
              case measure => simp [intOf]; omega)
/- The words that count: how many loops have each. -/
open Go.RowKit

mutual
def St.fors : St → Nat → List (List UInt8)
 | .mk kd nm _ _ _ _ _ _ bd el, deep => (if kd = 5 then [nm] else []) ++ bd.fors (deep + 1) ++ el.fors (deep + 1)
def Sts.fors : Sts → Nat → List (List UInt8)
 | .nil, _ => []
 | .cons x r, deep => if 64 < deep then [] else x.fors deep ++ r.fors deep
end
def St.forN (x : St) : List (List UInt8) := if x.kind = 5 then [x.name] else []
theorem St.fors_eq (x : St) (deep : Nat) : x.fors deep = x.forN ++ x.body.fors (deep + 1) ++ x.els.fors (deep + 1) := by obtain ⟨kd, nm, ns, e, a, as', lo, hi, bd, el⟩ := x; rw [St.fors]; rfl
theorem Sts.fors_deep : ∀ (l : Sts) (deep : Nat), 64 < deep → l.fors deep = []
 | .nil, _, _ => by rw [Sts.fors]
 | .cons x r, deep, h => by rw [Sts.fors, if_pos h]
theorem Sts.fors_cons {x : St} {r : Sts} {deep : Nat} (h : deep ≤ 64) : (Sts.cons x r).fors deep = x.forN ++ x.body.fors (deep + 1) ++ x.els.fors (deep + 1) ++ r.fors deep := by rw [Sts.fors, if_neg (by omega), St.fors_eq]
theorem adds_more : ∀ (a b : List (List UInt8)) (f : List UInt8 → Nat), adds f (a ++ b) = adds (adds f a) b
 | [], _, _ => rfl
 | s :: a, b, f => by rw [List.cons_append, adds, adds_more a b, adds]
def seeC (g : Nat) : Value := .func (.func 85) #[] #[.pointer (some ⟨g, 0, none⟩)]
set_option maxRecDepth 100000 in
set_option maxHeartbeats 1600000 in
theorem seeC_any (x : St) (deep : Nat) (N b o g m : Nat) (f : List UInt8 → Nat) (w : World) (hx : x.At w N b o) (hM : Nm w g m f) (hf : ∀ s, f s ≤ 1000000) :
   Calls Tryz.prog 85 #[.pointer (some ⟨b, o, none⟩), .int .i64 (deep : Int), .pointer (some ⟨g, 0, none⟩)] w fun z w' => z = .returned (.tuple #[]) ∧ Nm w' g m (adds f x.forN) ∧ But m w w' := by
 obtain ⟨s, hc, _⟩ := hx.open
 have d0 : w.cell? ⟨b, o, none⟩ = some (.int .i64 x.kind) := hc 0 _ rfl
 have d1 : w.cell? ⟨b, o + 1, none⟩ = some (.string (str x.name)) := hc 1 _ rfl
 have hM0 := hM
 unfold St.forN
 clear hx hc
 by_cases h5 : x.kind = 5
 · have e5 : (x.kind == 5) = true := by simp [h5]
   have c0 : w.cell? ⟨g, 0, none⟩ = some (.map (some m)) := cell_blk hM.1 rfl
   have hlk := (hM.2.1.later (Below.refl _ w).drew).look Tryz.underlying111 Tryz.underlying9 zeroInt x.name
   obtain ⟨w2, hup, hcm, hz, hb, ho, ht, hp⟩ := (hM.2.1.later (Below.refl _ w).drew).put Tryz.underlying111 Tryz.underlying9 x.name
   have HR := Lib.hid (show Nm w2 g m (adds f [x.name]) ∧ But m w w2 from ⟨⟨(hb g hM.2.2).trans hM.1, hcm, hM.2.2⟩, ⟨ho, ht, hp, Nat.le_of_eq hz.symm, fun k _ hk => hb k hk⟩⟩)
   have hw : IntKind.i64.wrap ((f x.name : Int) + 1) = (f x.name : Int) + 1 := by have := hf x.name; simp [IntKind.wrap, IntKind.bits, IntKind.signed]; omega
   rw [show ((f x.name + 1 : Nat) : Int) = (f x.name : Int) + 1 by omega] at hup
   rw [if_pos h5]
   clear hM hM0 hcm hz hb ho ht hp hf h5
   go_enter Tryz.func85, Tryz.ntmps85
   go_wp2_with fail
   go_still_tail 7, (by kernel_rfl)
   change wpList _ _ _ _ _ (World.drew _)
   go_wp2_with fail
   go_end0
   exact ⟨rfl, HR.out⟩
 · have e5 : (x.kind == 5) = false := by simp [h5]
   rw [if_neg h5]
   have HR := Lib.hid (show Nm w g m (adds f []) ∧ But m w w from ⟨hM, But.refl _ _⟩)
   clear hM hM0 hf h5
   go_enter Tryz.func85, Tryz.ntmps85
   go_wp2_with fail
   go_end0
   exact ⟨rfl, HR.out⟩
theorem add_le (f : List UInt8 → Nat) (v : Nat) (h : ∀ s, f s ≤ v) (x : St) : ∀ s, adds f x.forN s ≤ v + 1 := by
 intro s
 unfold St.forN
 have := h s
 by_cases h5 : x.kind = 5
 · rw [if_pos h5]; simp only [adds, add]; split <;> omega
 · rw [if_neg h5]; simp only [adds]; omega
def EachC (s : Nat) : Prop := ∀ (l : Sts), l.size < s → ∀ (deep : Nat), deep ≤ 65 → ∀ (p : Option Addr) (c N : Nat) (w : World) (g m K : Nat) (f : List UInt8 → Nat), l.In w N p → N ≤ w.heap.size → N ≤ m → Nm w g m f → (∀ s, f s ≤ K) → K + l.sc deep ≤ 100000 →
   Calls Tryz.prog 84 #[.slice p l.len c, .int .i64 (deep : Int), seeC g] w fun z w' => z = .returned (.tuple #[]) ∧ Nm w' g m (adds f (l.fors deep)) ∧ But m w w' ∧ ∀ s, adds f (l.fors deep) s ≤ K + l.sc deep
set_option maxHeartbeats 6400000 in
theorem eachC_step (s : Nat) (ih : EachC s) : EachC (s + 1) := by
 intro l hls deep hd p c N w g m K f hl hN hg hM hf hK
 unfold seeC
 by_cases hdp : 64 < deep
 · rw [Sts.fors_deep l deep hdp, Sts.sc_deep l deep hdp]
   have hR := Lib.hid (show Nm w g m (adds f []) ∧ But m w w ∧ ∀ s, adds f [] s ≤ K + 0 from ⟨hM, But.refl _ _, hf⟩)
   have hi : (64 : Int) < (deep : Int) := by omega
   clear hM hl ih hf
   go_enter Tryz.func84, Tryz.ntmps84
   go_wp2_with fail
   exact bodyPost_ret (results_none rfl _ _ _) rfl ⟨rfl, hR.out⟩
 have IH := Lib.hid ih
 clear ih
 have hi : ¬ (64 : Int) < (deep : Int) := by omega
 have hwd : IntKind.i64.wrap ((deep : Int) + 1) = ((deep + 1 : Nat) : Int) := by simp [IntKind.wrap, IntKind.bits, IntKind.signed]; omega
 obtain ⟨hm, hs⟩ := hl
 obtain ⟨b, o, hp, hb, ha⟩ : ∃ b o, (l.len = 0 ∨ p = some ⟨b, o, none⟩) ∧ (b < N ∨ l.len = 0) ∧ l.At w N b o := by
   rcases hs with h0 | ⟨b, o, hp, hb, ha⟩
   · exact ⟨0, 0, .inl h0, .inr h0, by cases l with | nil => trivial | cons => simp [Sts.len] at h0⟩
   · exact ⟨b, o, .inr hp, .inl hb, ha⟩
 have HM := Lib.hid (And.intro hM hf)
 have Hb := Lib.hid hb
 clear hs hM hb hf
 go_enter Tryz.func84, Tryz.ntmps84
 go_wp2_with fail
 go_loopw [11] (fun i wr => ∃ (k v : Nat) (f' : List UInt8 → Nat) (r : Sts), i = .int .i64 k ∧ k + r.len = l.len ∧ r.size ≤ s ∧ v + r.sc deep = K + l.sc deep ∧ Hid (r.At w N b (o + k * 16)) ∧ Hid (Nm wr g m f' ∧ But m w wr) ∧ Hid (adds f' (r.fors deep) = adds f (l.fors deep)) ∧ Hid (∀ s, f' s ≤ v)) (fun i _ => l.len - (intOf i).toNat)
 case atStart => exact ⟨0, K, f, l, rfl, by omega, by omega, rfl, Lib.hid (by rw [Nat.zero_mul]; exact ha), Lib.hid ⟨HM.out.1, But.refl _ _⟩, Lib.hid rfl, Lib.hid HM.out.2⟩
 case round =>
   obtain ⟨k, v, f', r, rfl, hk, hrs, hv, hr, hCB, hE, hf'⟩ := hrel
   cases r with
   | nil =>
     simp only [Sts.len] at hk
     have hge : ¬ k < l.len := by omega
     have hR := Lib.hid (show Nm wr g m (adds f (l.fors deep)) ∧ But m w wr ∧ ∀ s, adds f (l.fors deep) s ≤ K + l.sc deep by
       have h := hE.out
       rw [Sts.fors] at h
       rw [← h]
       rw [Sts.sc] at hv
       exact ⟨hCB.out.1, hCB.out.2, fun s => by have := hf'.out s; simp only [adds]; omega⟩)
     go_wp2_with fail
     go_end0
     exact ⟨rfl, hR.out⟩
   | cons y r =>
     obtain ⟨hy, hr'⟩ := hr.out
     simp only [Sts.len] at hk
     simp only [Sts.size] at hrs
     have hlt : k < l.len := by omega
     rcases hp with h0 | rfl
     · omega
     rw [Sts.sc_cons (by omega)] at hv
     have HEy := Lib.hid (show adds (adds (adds (adds f' y.forN) (y.body.fors (deep + 1))) (y.els.fors (deep + 1))) (r.fors deep) = adds f (l.fors deep) by rw [← adds_more, ← adds_more, ← adds_more, ← hE.out, Sts.fors_cons (by omega)]; simp only [List.append_assoc])
     have HR := Lib.hid hr'
     have hbN : b < N := by have := Hb.out; omega
     have HY := Lib.hid (And.intro hy hbN)
     have HSz := Lib.hid y.size_eq
     have HCt := Lib.hid (seeC_any y deep N b (o + k * 16) g m f' wr (St.At.later (hCB.out.2.old hg hN) (Nat.le_refl N) y b _ HY.out.2 hy) hCB.out.1 (fun s => by have := hf'.out s; omega))
     have HLe := Lib.hid (add_le f' v hf'.out y)
     clear hy hr' hr hE hbN
     go_wp2_with fail
     refine HCt.out.mono ?_
     rintro z w2 ⟨rfl, h2, h3⟩
     have hCB2 := Lib.hid (And.intro h2 (hCB.out.2.trans h3))
     obtain ⟨q, cq, d0, hok⟩ := St.At.body (St.At.later (hCB2.out.2.old hg hN) (Nat.le_refl N) y b (o + k * 16) HY.out.2 HY.out.1)
     have hCl := Lib.hid (IH.out y.body (by have := HSz.out; omega) (deep + 1) (by omega) q cq N w2 g m (v + 1) _ hok (Nat.le_trans hN hCB2.out.2.size) hg h2 HLe.out (by omega))
     unfold seeC at hCl
     clear h2 h3 hok
     go_wp2_with fail
     refine hCl.out.mono ?_
     rintro z w3 ⟨rfl, h2, h3, h4⟩
     have hCB3 := Lib.hid (And.intro h2 (hCB2.out.2.trans h3))
     obtain ⟨q4, cq4, d4, hok4⟩ := St.At.els (St.At.later (hCB3.out.2.old hg hN) (Nat.le_refl N) y b (o + k * 16) HY.out.2 HY.out.1)
     have hCl4 := Lib.hid (IH.out y.els (by have := HSz.out; omega) (deep + 1) (by omega) q4 cq4 N w3 g m (v + 1 + y.body.sc (deep + 1)) _ hok4 (Nat.le_trans hN hCB3.out.2.size) hg h2 h4 (by omega))
     unfold seeC at hCl4
     clear h2 h3 h4 hok4 d0
     go_wp2_with fail
     refine hCl4.out.mono ?_
     rintro z w4 ⟨rfl, h2, h3, h4⟩
     have hCB4 := Lib.hid (And.intro h2 (hCB3.out.2.trans h3))
     have HL4 := Lib.hid h4
     clear h2 h3 h4 d4
     go_wp2_with fail
     go_roundw
     case rel => exact ⟨k + 1, v + 1 + y.body.sc (deep + 1) + y.els.sc (deep + 1) + y.own deep, _, r, by go_num, by omega, by omega, by omega, Lib.hid (by rw [show o + (k + 1) * 16 = o + k * 16 + 16 by omega]; exact HR.out), hCB4, HEy, Lib.hid (fun s => by have := HL4.out s; omega)⟩
     case measure => simp [intOf]; omega
theorem eachC_to : ∀ n, EachC n
 | 0 => fun _ h => absurd h (Nat.not_lt_zero _)
 | n + 1 => eachC_step n (eachC_to n)
/- Find. -/
open Go.RowKit

theorem set4 {w : World} {g : Nat} {a b c d' : Value} {t : TypeId} {fz : Nat × Nat} (h : w.heap[g]? = some (.cells #[a, b, c, d'] t fz)) (v0 v1 v2 v3 : Value) :
   ((((w.setCell ⟨g, 0, none⟩ v0).setCell ⟨g, 1, none⟩ v1).setCell ⟨g, 2, none⟩ v2).setCell ⟨g, 3, none⟩ v3).heap[g]? = some (.cells #[v0, v1, v2, v3] t fz) := by
 have h0 : (w.setCell ⟨g, 0, none⟩ v0).heap[g]? = some (.cells #[v0, b, c, d'] t fz) := by rw [setCell_eq_setRow w g 0 _ t fz _ h]; exact setRow_heap w g _ _ t fz h
 have h1 : ((w.setCell ⟨g, 0, none⟩ v0).setCell ⟨g, 1, none⟩ v1).heap[g]? = some (.cells #[v0, v1, c, d'] t fz) := by rw [setCell_eq_setRow _ g 1 _ t fz _ h0]; exact setRow_heap _ g _ _ t fz h0
 have h2 : (((w.setCell ⟨g, 0, none⟩ v0).setCell ⟨g, 1, none⟩ v1).setCell ⟨g, 2, none⟩ v2).heap[g]? = some (.cells #[v0, v1, v2, d'] t fz) := by rw [setCell_eq_setRow _ g 2 _ t fz _ h1]; exact setRow_heap _ g _ _ t fz h1
 rw [setCell_eq_setRow _ g 3 _ t fz _ h2]; exact setRow_heap _ g _ _ t fz h2
theorem below_set4 {B : Nat} {a w : World} (h : Below B a w) {g : Nat} (hg : B ≤ g) (v0 v1 v2 v3 : Value) : Below B a ((((w.setCell ⟨g, 0, none⟩ v0).setCell ⟨g, 1, none⟩ v1).setCell ⟨g, 2, none⟩ v2).setCell ⟨g, 3, none⟩ v3) :=
 (((h.setCell (p := ⟨g, 0, none⟩) hg v0).setCell (p := ⟨g, 1, none⟩) hg v1).setCell (p := ⟨g, 2, none⟩) hg v2).setCell (p := ⟨g, 3, none⟩) hg v3
def rgNamed (nm : List UInt8) (v : Rgn) : Bool := v.name == nm
def found (x : Prg) (f : Fnc) (nm : List UInt8) : Vr × Bool × Bool :=
 match (f.params ++ f.vars).find? (named nm) with
 | some v => (v, true, false)
 | none => match x.regs.find? (rgNamed nm) with
   | some r => (⟨r.name, 3, r.size, r.secret⟩, true, true)
   | none => (⟨[], 0, 0, false⟩, false, false)
theorem found_var {x : Prg} {f : Fnc} {nm : List UInt8} {d r : List Vr} {v : Vr} (h : f.params ++ f.vars = d ++ v :: r) (hv : named nm v = true) (hd : d.all (fun y => !named nm y) = true) : found x f nm = (v, true, false) := by
 have : (f.params ++ f.vars).find? (named nm) = some v := by
   rw [h, List.find?_append]
   have h1 : d.find? (named nm) = none := List.find?_eq_none.2 fun y hy => by have := List.all_eq_true.1 hd y hy; simpa using this
   rw [h1]; simp [hv]
 unfold found
 rw [this]
theorem found_rgn {x : Prg} {f : Fnc} {nm : List UInt8} {d r : List Rgn} {v : Rgn} (h0 : (f.params ++ f.vars).all (fun y => !named nm y) = true) (h : x.regs = d ++ v :: r) (hv : rgNamed nm v = true) (hd : d.all (fun y => !rgNamed nm y) = true) : found x f nm = (⟨v.name, 3, v.size, v.secret⟩, true, true) := by
 have h1 : (f.params ++ f.vars).find? (named nm) = none := List.find?_eq_none.2 fun y hy => by have := List.all_eq_true.1 h0 y hy; simpa using this
 have h2 : x.regs.find? (rgNamed nm) = some v := by
   rw [h, List.find?_append]
   have h1 : d.find? (rgNamed nm) = none := List.find?_eq_none.2 fun y hy => by have := List.all_eq_true.1 hd y hy; simpa using this
   rw [h1]; simp [hv]
 unfold found
 rw [h1, h2]
theorem found_none {x : Prg} {f : Fnc} {nm : List UInt8} (h0 : (f.params ++ f.vars).all (fun y => !named nm y) = true) (h : x.regs.all (fun y => !rgNamed nm y) = true) : found x f nm = (⟨[], 0, 0, false⟩, false, false) := by
 have h1 : (f.params ++ f.vars).find? (named nm) = none := List.find?_eq_none.2 fun y hy => by have := List.all_eq_true.1 h0 y hy; simpa using this
 have h2 : x.regs.find? (rgNamed nm) = none := List.find?_eq_none.2 fun y hy => by have := List.all_eq_true.1 h y hy; simpa using this
 unfold found
 rw [h1, h2]
def foundV (r : Vr × Bool × Bool) : Value := .tuple #[vrV r.1, .bool r.2.1, .bool r.2.2]
theorem all_snoc {α : Type} {f : α → Bool} {d : List α} {y : α} (h : d.all (fun y => !f y) = true) (hy : f y = false) : (d ++ [y]).all (fun y => !f y) = true := by rw [List.all_append, h]; simp [hy]
set_option maxRecDepth 100000 in
set_option maxHeartbeats 12800000 in
theorem find_any (x : Prg) (s : PrgP) (i : Nat) (fn : Fnc) (nm : List UInt8) (N : Nat) (w : World) (h : x.Ok w N s.p s.q) (hN : N ≤ w.heap.size) (hi : x.fns[i]? = some fn) :
   Calls Tryz.prog 92 #[x.v s, .int .i64 (i : Int), .string (str nm)] w fun z w' => z = .returned (foundV (found x fn nm)) ∧ Below w.heap.size w w' := by
 obtain ⟨p, q, c, d⟩ := s
 have hil : i < x.fns.length := (List.getElem?_eq_some_iff.1 hi).1
 obtain ⟨W0, hW0, k0, kr, hB0, hz0⟩ := two_alloc w (.cells #[.slice p x.regs.length c, .slice q x.fns.length d] 25) (.cells #[.string ⟨#[]⟩, .int .i64 0, .int .i64 0, .bool false] 58)
 obtain ⟨b, o, hp, hb, ha⟩ := Row.start h.1
 obtain ⟨b', o', hq, hb', ha'⟩ := Row.start h.2
 have hm := h.1.1
 have hm' := h.2.1
 have HA := Lib.hid (And.intro ha hb)
 obtain ⟨⟨pp, pv, pr, pb, cp, cv, cr, cb⟩, e0, e1, e2, e3, e4, hok⟩ := Fnc.At.all (Row.get ha' hi)
 have hbw : b' < w.heap.size := by omega
 have g1 := (hB0.cell (p := ⟨b', o' + i * 5 + 1, none⟩) hbw).trans e1
 have g2 := (hB0.cell (p := ⟨b', o' + i * 5 + 2, none⟩) hbw).trans e2
 have HPB := Lib.hid (Row.start hok.1)
 have HVB := Lib.hid (Row.start hok.2.1)
 have hmp := hok.1.1
 have hmv := hok.2.1.1
 have HB0 := Lib.hid (And.intro hB0 (show w.heap.size ≤ W0.heap.size by omega))
 have HW0 := Lib.hid hW0
 have HK := Lib.hid (And.intro k0 kr)
 have c0 : W0.cell? ⟨w.heap.size, 0, none⟩ = some (.slice p x.regs.length c) := cell_blk k0 rfl
 have c1 : W0.cell? ⟨w.heap.size, 1, none⟩ = some (.slice q x.fns.length d) := cell_blk k0 rfl
 have hlt0 : ¬ (i : Int) < 0 := by omega
 have hge0 : ¬ (x.fns.length : Int) ≤ (i : Int) := by omega
 have HEnd := Lib.hid (fun (W : World) (hB : Below W0.heap.size W0 W) (v0 v1 v2 v3 : Value) => show ((((W.setCell ⟨w.heap.size + 1, 0, none⟩ v0).setCell ⟨w.heap.size + 1, 1, none⟩ v1).setCell ⟨w.heap.size + 1, 2, none⟩ v2).setCell ⟨w.heap.size + 1, 3, none⟩ v3).heap[w.heap.size + 1]? = some (.cells #[v0, v1, v2, v3] 58 (0, 0)) ∧ Below w.heap.size w ((((W.setCell ⟨w.heap.size + 1, 0, none⟩ v0).setCell ⟨w.heap.size + 1, 1, none⟩ v1).setCell ⟨w.heap.size + 1, 2, none⟩ v2).setCell ⟨w.heap.size + 1, 3, none⟩ v3) from
   ⟨set4 ((hB.block _ (lt_blk kr)).trans kr) _ _ _ _, below_set4 (hB0.trans (hB.mono (by omega))) (Nat.le_succ _) _ _ _ _⟩)
 have HZ := Lib.hid (fun (W : World) (hB : Below W0.heap.size W0 W) => show W.heap[w.heap.size + 1]? = some (.cells #[.string ⟨#[]⟩, .int .i64 0, .int .i64 0, .bool false] 58 (0, 0)) from (hB.block _ (lt_blk kr)).trans kr)
 have HCR := Lib.hid (fun (W : World) (hB : Below W0.heap.size W0 W) => show W.cell? ⟨w.heap.size, 0, none⟩ = some (.slice p x.regs.length c) from cell_blk ((hB.block _ (lt_blk k0)).trans k0) rfl)
 unfold Prg.v foundV vrV
 clear hW0 k0 kr hB0 h hb hb' ha ha' e0 e1 e2 e3 e4 hok hi
 have hqs : q = some ⟨b', o', none⟩ := by
   rcases hq with h0 | h0
   · omega
   · exact h0
 subst hqs
 clear hq
 go_enter Tryz.func92, Tryz.ntmps92
 go_upto_region 1 with fail
 rw [HW0.out]
 go_wp2_with fail
 go_quiet (fail)
 go_wp2_with fail
 have HBz := Lib.hid (below_drewN (Below.refl W0.heap.size W0) nq)
 generalize W0.drewN nq = wz at HBz ⊢
 clear c0 c1 g1 g2
 go_loopw [38] (fun i wr => ∃ (k3 : Nat), i = .int .i64 k3 ∧ k3 ≤ 2 ∧ Hid (Below W0.heap.size W0 wr) ∧ Hid ((1 ≤ k3 → fn.params.all (fun y => !named nm y) = true) ∧ (2 ≤ k3 → fn.vars.all (fun y => !named nm y) = true))) (fun i _ => 2 - (intOf i).toNat)
 case atStart => exact ⟨0, rfl, by omega, HBz, Lib.hid ⟨fun h => by omega, fun h => by omega⟩⟩
 case round =>
   obtain ⟨wl, rfl⟩ : ∃ wl : World, wl = wr := ⟨_, rfl⟩
   obtain ⟨k3, rfl, hk3, hB3, hp3⟩ := hrel
   rcases (show k3 = 0 ∨ k3 = 1 ∨ k3 = 2 by omega) with rfl | rfl | rfl
   · obtain ⟨b4, o4, hp4, hb4, ha4⟩ := HPB.out
     have HA4 := Lib.hid (And.intro ha4 hb4)
     clear ha4 hb4
     have hi0 := index_0
     have hi1 := index_1
     go_wp2_with fail
     clear hi0 hi1
     go_loopw [43] (fun i wr => ∃ (d r : List Vr), i = .int .i64 d.length ∧ d.length + r.length = fn.params.length ∧ Hid (fn.params = d ++ r) ∧ Hid (Row (Vr.At w) 4 r b4 (o4 + d.length * 4)) ∧ Hid (Below W0.heap.size W0 wr) ∧ Hid (d.all (fun y => !named nm y) = true)) (fun i _ => fn.params.length - (intOf i).toNat)
     case atStart => exact ⟨[], fn.params, rfl, by rw [List.length_nil]; omega, Lib.hid rfl, Lib.hid (by simpa using HA4.out.1), hB3, Lib.hid rfl⟩
     case round =>
       obtain ⟨d4, r4, rfl, hk4, hd4, hr4, hB4, hE4⟩ := hrel
       cases r4 with
       | nil =>
         simp only [List.length_nil] at hk4
         have hge4 : ¬ d4.length < fn.params.length := by omega
         have HE4 := Lib.hid (show fn.params.all (fun y => !named nm y) = true by rw [hd4.out, List.append_nil]; exact hE4.out)
         clear hE4
         go_wp2_with fail
         go_roundw
         case rel => exact ⟨1, by go_num, by omega, hB4, Lib.hid ⟨fun _ => HE4.out, fun h => by omega⟩⟩
         case measure => simp [intOf]
       | cons v r4 =>
         simp only [List.length_cons] at hk4
         have hlt4 : d4.length < fn.params.length := by omega
         rcases hp4 with h0 | rfl
         · omega
         have hbN : b4 < w.heap.size := by have := HA4.out.2; omega
         obtain ⟨hv, hr4'⟩ := hr4.out
         have hU := HB0.out.1.trans (hB4.out.mono HB0.out.2)
         obtain ⟨d0, d1, d2, d3⟩ := Vr.At.later hU v b4 _ hbN hv
         have HR4 := Lib.hid hr4'
         obtain ⟨Wa, hWa, ka, hBa, hza⟩ := one_alloc wr (.cells #[.string (str v.name), .int .i64 v.kind, .int .i64 v.size, .bool v.secret] 58)
         have HWa := Lib.hid hWa
         have hBW := hB4.out.trans (hBa.mono hB4.out.size)
         have HBa := Lib.hid hBW
         have a0 : Wa.cell? ⟨wr.heap.size, 0, none⟩ = some (.string (str v.name)) := cell_blk ka rfl
         have a1 : Wa.cell? ⟨wr.heap.size, 1, none⟩ = some (.int .i64 v.kind) := cell_blk ka rfl
         have a2 : Wa.cell? ⟨wr.heap.size, 2, none⟩ = some (.int .i64 v.size) := cell_blk ka rfl
         have a3 : Wa.cell? ⟨wr.heap.size, 3, none⟩ = some (.bool v.secret) := cell_blk ka rfl
         have e1 := str_eqb v.name nm
         have HN4 := Lib.hid (show (v.name == nm) = named nm v from rfl)
         have HR := Lib.hid (HEnd.out Wa hBW (.string (str v.name)) (.int .i64 v.kind) (.int .i64 v.size) (.bool v.secret))
         have hz := HZ.out Wa hBW
         have q0 := cell_blk hz (j := 0) rfl
         have q1 := cell_blk hz (j := 1) rfl
         have q2 := cell_blk hz (j := 2) rfl
         have q3 := cell_blk hz (j := 3) rfl
         have hfz : ∀ j, Wa.frozen? ⟨w.heap.size + 1, j, none⟩ = false := fun j => by simp [World.frozen?, hz]
         have f0 := hfz 0
         have f1 := hfz 1
         have f2 := hfz 2
         have f3 := hfz 3
         have hne1 : w.heap.size + 1 ≠ wr.heap.size := by have := lt_blk HK.out.2; have := hB4.out.size; omega
         clear hv hr4 hr4' hU hWa ka hBa hza hBW hz hfz
         go_upto_region 9 with fail
         rw [HWa.out]
         clear d0 d1 d2 d3 HWa
         generalize (v.name == nm) = t1 at e1 HN4
         cases t1 with
         | true =>
           have HF := Lib.hid (found_var (x := x) (f := fn) (nm := nm) (v := v) (d := d4) (r := r4 ++ fn.vars) (by rw [hd4.out]; simp) HN4.out.symm hE4.out)
           clear hE4
           go_wp2_with fail
           generalize (((Wa.setCell ⟨w.heap.size + 1, 0, none⟩ (.string (str v.name))).setCell ⟨w.heap.size + 1, 1, none⟩ (.int .i64 v.kind)).setCell ⟨w.heap.size + 1, 2, none⟩ (.int .i64 v.size)).setCell ⟨w.heap.size + 1, 3, none⟩ (.bool v.secret) = F at HR ⊢
           have y0 := cell_blk HR.out.1 (j := 0) rfl
           have y1 := cell_blk HR.out.1 (j := 1) rfl
           have y2 := cell_blk HR.out.1 (j := 2) rfl
           have y3 := cell_blk HR.out.1 (j := 3) rfl
           refine bodyPost_ret (v := .tuple #[.agg #[.string (str v.name), .int .i64 v.kind, .int .i64 v.size, .bool v.secret], .bool true, .bool false]) ?_ rfl ⟨by rw [HF.out]; first | done | rfl, HR.out.2⟩
           simp [results, Tryz.results92, go_sem, y0, y1, y2, y3]
         | false =>
           have HE5 := Lib.hid (all_snoc hE4.out HN4.out.symm)
           clear hE4 HR
           go_wp2_with fail
           go_roundw
           case rel => exact ⟨d4 ++ [v], r4, by rw [List.length_append]; go_num, by simp; omega, Lib.hid (by rw [hd4.out]; simp), Lib.hid (by rw [List.length_append, List.length_singleton, show o4 + (d4.length + 1) * 4 = o4 + d4.length * 4 + 4 by omega]; exact HR4.out), HBa, HE5⟩
           case measure => simp [intOf]; omega
   · obtain ⟨b4, o4, hp4, hb4, ha4⟩ := HVB.out
     have HA4 := Lib.hid (And.intro ha4 hb4)
     clear ha4 hb4
     have hi0 := index_0
     have hi1 := index_1
     go_wp2_with fail
     clear hi0 hi1
     go_loopw [43] (fun i wr => ∃ (d r : List Vr), i = .int .i64 d.length ∧ d.length + r.length = fn.vars.length ∧ Hid (fn.vars = d ++ r) ∧ Hid (Row (Vr.At w) 4 r b4 (o4 + d.length * 4)) ∧ Hid (Below W0.heap.size W0 wr) ∧ Hid (d.all (fun y => !named nm y) = true)) (fun i _ => fn.vars.length - (intOf i).toNat)
     case atStart => exact ⟨[], fn.vars, rfl, by rw [List.length_nil]; omega, Lib.hid rfl, Lib.hid (by simpa using HA4.out.1), hB3, Lib.hid rfl⟩
     case round =>
       obtain ⟨d4, r4, rfl, hk4, hd4, hr4, hB4, hE4⟩ := hrel
       cases r4 with
       | nil =>
         simp only [List.length_nil] at hk4
         have hge4 : ¬ d4.length < fn.vars.length := by omega
         have HE4 := Lib.hid (show fn.vars.all (fun y => !named nm y) = true by rw [hd4.out, List.append_nil]; exact hE4.out)
         clear hE4
         go_wp2_with fail
         go_roundw
         case rel => exact ⟨2, by go_num, by omega, hB4, Lib.hid ⟨fun _ => hp3.out.1 (by omega), fun _ => HE4.out⟩⟩
         case measure => simp [intOf]
       | cons v r4 =>
         simp only [List.length_cons] at hk4
         have hlt4 : d4.length < fn.vars.length := by omega
         rcases hp4 with h0 | rfl
         · omega
         have hbN : b4 < w.heap.size := by have := HA4.out.2; omega
         obtain ⟨hv, hr4'⟩ := hr4.out
         have hU := HB0.out.1.trans (hB4.out.mono HB0.out.2)
         obtain ⟨d0, d1, d2, d3⟩ := Vr.At.later hU v b4 _ hbN hv
         have HR4 := Lib.hid hr4'
         obtain ⟨Wa, hWa, ka, hBa, hza⟩ := one_alloc wr (.cells #[.string (str v.name), .int .i64 v.kind, .int .i64 v.size, .bool v.secret] 58)
         have HWa := Lib.hid hWa
         have hBW := hB4.out.trans (hBa.mono hB4.out.size)
         have HBa := Lib.hid hBW
         have a0 : Wa.cell? ⟨wr.heap.size, 0, none⟩ = some (.string (str v.name)) := cell_blk ka rfl
         have a1 : Wa.cell? ⟨wr.heap.size, 1, none⟩ = some (.int .i64 v.kind) := cell_blk ka rfl
         have a2 : Wa.cell? ⟨wr.heap.size, 2, none⟩ = some (.int .i64 v.size) := cell_blk ka rfl
         have a3 : Wa.cell? ⟨wr.heap.size, 3, none⟩ = some (.bool v.secret) := cell_blk ka rfl
         have e1 := str_eqb v.name nm
         have HN4 := Lib.hid (show (v.name == nm) = named nm v from rfl)
         have HR := Lib.hid (HEnd.out Wa hBW (.string (str v.name)) (.int .i64 v.kind) (.int .i64 v.size) (.bool v.secret))
         have hz := HZ.out Wa hBW
         have q0 := cell_blk hz (j := 0) rfl
         have q1 := cell_blk hz (j := 1) rfl
         have q2 := cell_blk hz (j := 2) rfl
         have q3 := cell_blk hz (j := 3) rfl
         have hfz : ∀ j, Wa.frozen? ⟨w.heap.size + 1, j, none⟩ = false := fun j => by simp [World.frozen?, hz]
         have f0 := hfz 0
         have f1 := hfz 1
         have f2 := hfz 2
         have f3 := hfz 3
         have hne1 : w.heap.size + 1 ≠ wr.heap.size := by have := lt_blk HK.out.2; have := hB4.out.size; omega
         clear hv hr4 hr4' hU hWa ka hBa hza hBW hz hfz
         go_upto_region 9 with fail
         rw [HWa.out]
         clear d0 d1 d2 d3 HWa
         generalize (v.name == nm) = t1 at e1 HN4
         cases t1 with
         | true =>
           have HF := Lib.hid (found_var (x := x) (f := fn) (nm := nm) (v := v) (d := fn.params ++ d4) (r := r4) (by rw [hd4.out]; simp) HN4.out.symm (by rw [List.all_append, hp3.out.1 (by omega), hE4.out]; rfl))
           clear hE4
           go_wp2_with fail
           generalize (((Wa.setCell ⟨w.heap.size + 1, 0, none⟩ (.string (str v.name))).setCell ⟨w.heap.size + 1, 1, none⟩ (.int .i64 v.kind)).setCell ⟨w.heap.size + 1, 2, none⟩ (.int .i64 v.size)).setCell ⟨w.heap.size + 1, 3, none⟩ (.bool v.secret) = F at HR ⊢
           have y0 := cell_blk HR.out.1 (j := 0) rfl
           have y1 := cell_blk HR.out.1 (j := 1) rfl
           have y2 := cell_blk HR.out.1 (j := 2) rfl
           have y3 := cell_blk HR.out.1 (j := 3) rfl
           refine bodyPost_ret (v := .tuple #[.agg #[.string (str v.name), .int .i64 v.kind, .int .i64 v.size, .bool v.secret], .bool true, .bool false]) ?_ rfl ⟨by rw [HF.out]; first | done | rfl, HR.out.2⟩
           simp [results, Tryz.results92, go_sem, y0, y1, y2, y3]
         | false =>
           have HE5 := Lib.hid (all_snoc hE4.out HN4.out.symm)
           clear hE4 HR
           go_wp2_with fail
           go_roundw
           case rel => exact ⟨d4 ++ [v], r4, by rw [List.length_append]; go_num, by simp; omega, Lib.hid (by rw [hd4.out]; simp), Lib.hid (by rw [List.length_append, List.length_singleton, show o4 + (d4.length + 1) * 4 = o4 + d4.length * 4 + 4 by omega]; exact HR4.out), HBa, HE5⟩
           case measure => simp [intOf]; omega
   · have HNone := Lib.hid (show (fn.params ++ fn.vars).all (fun y => !named nm y) = true by rw [List.all_append, hp3.out.1 (by omega), hp3.out.2 (by omega)]; rfl)
     have c0 := HCR.out _ hB3.out
     clear hp3
     go_wp2_with fail
     clear c0
     go_loopw [57] (fun i wr => ∃ (d r : List Rgn), i = .int .i64 d.length ∧ d.length + r.length = x.regs.length ∧ Hid (x.regs = d ++ r) ∧ Hid (Row (Rgn.At w) 4 r b (o + d.length * 4)) ∧ Hid (Below W0.heap.size W0 wr) ∧ Hid (d.all (fun y => !rgNamed nm y) = true)) (fun i _ => x.regs.length - (intOf i).toNat)
     case atStart => exact ⟨[], x.regs, rfl, by rw [List.length_nil]; omega, Lib.hid rfl, Lib.hid (by simpa using HA.out.1), hB3, Lib.hid rfl⟩
     case round =>
       obtain ⟨d4, r4, rfl, hk4, hd4, hr4, hB4, hE4⟩ := hrel
       cases r4 with
       | nil =>
         simp only [List.length_nil] at hk4
         have hge4 : ¬ d4.length < x.regs.length := by omega
         have HF := Lib.hid (found_none (x := x) (f := fn) (nm := nm) HNone.out (by rw [hd4.out, List.append_nil]; exact hE4.out))
         have HR := Lib.hid (HEnd.out wr hB4.out (.string ⟨#[]⟩) (.int .i64 0) (.int .i64 0) (.bool false))
         have hz := HZ.out wr hB4.out
         have q0 := cell_blk hz (j := 0) rfl
         have q1 := cell_blk hz (j := 1) rfl
         have q2 := cell_blk hz (j := 2) rfl
         have q3 := cell_blk hz (j := 3) rfl
         have hfz : ∀ j, wr.frozen? ⟨w.heap.size + 1, j, none⟩ = false := fun j => by simp [World.frozen?, hz]
         have f0 := hfz 0
         have f1 := hfz 1
         have f2 := hfz 2
         have f3 := hfz 3
         clear hE4 hz hfz
         go_wp2_with fail
         generalize (((wr.setCell ⟨w.heap.size + 1, 0, none⟩ (.string ⟨#[]⟩)).setCell ⟨w.heap.size + 1, 1, none⟩ (.int .i64 0)).setCell ⟨w.heap.size + 1, 2, none⟩ (.int .i64 0)).setCell ⟨w.heap.size + 1, 3, none⟩ (.bool false) = F at HR ⊢
         have y0 := cell_blk HR.out.1 (j := 0) rfl
         have y1 := cell_blk HR.out.1 (j := 1) rfl
         have y2 := cell_blk HR.out.1 (j := 2) rfl
         have y3 := cell_blk HR.out.1 (j := 3) rfl
         refine bodyPost_ret (v := .tuple #[.agg #[.string ⟨#[]⟩, .int .i64 0, .int .i64 0, .bool false], .bool false, .bool false]) ?_ rfl ⟨by rw [HF.out]; first | done | rfl, HR.out.2⟩
         simp [results, Tryz.results92, go_sem, y0, y1, y2, y3]
       | cons v r4 =>
         simp only [List.length_cons] at hk4
         have hlt4 : d4.length < x.regs.length := by omega
         rcases hp with h0 | rfl
         · omega
         have hbN : b < w.heap.size := by have := HA.out.2; omega
         obtain ⟨hv, hr4'⟩ := hr4.out
         have hU := HB0.out.1.trans (hB4.out.mono HB0.out.2)
         obtain ⟨d0, d1, d2, d3⟩ := Rgn.At.later hU v b _ hbN hv
         have HR4 := Lib.hid hr4'
         obtain ⟨Wa, hWa, ka, hBa, hza⟩ := one_alloc wr (.cells #[.string (str v.name), .int .i64 v.addr, .int .i64 v.size, .bool v.secret] 83)
         have HWa := Lib.hid hWa
         have hBW := hB4.out.trans (hBa.mono hB4.out.size)
         have HBa := Lib.hid hBW
         have a0 : Wa.cell? ⟨wr.heap.size, 0, none⟩ = some (.string (str v.name)) := cell_blk ka rfl
         have a1 : Wa.cell? ⟨wr.heap.size, 1, none⟩ = some (.int .i64 v.addr) := cell_blk ka rfl
         have a2 : Wa.cell? ⟨wr.heap.size, 2, none⟩ = some (.int .i64 v.size) := cell_blk ka rfl
         have a3 : Wa.cell? ⟨wr.heap.size, 3, none⟩ = some (.bool v.secret) := cell_blk ka rfl
         have e1 := str_eqb v.name nm
         have HN4 := Lib.hid (show (v.name == nm) = rgNamed nm v from rfl)
         have HR := Lib.hid (HEnd.out Wa hBW (.string (str v.name)) (.int .i64 3) (.int .i64 v.size) (.bool v.secret))
         have hz := HZ.out Wa hBW
         have q0 := cell_blk hz (j := 0) rfl
         have q1 := cell_blk hz (j := 1) rfl
         have q2 := cell_blk hz (j := 2) rfl
         have q3 := cell_blk hz (j := 3) rfl
         have hfz : ∀ j, Wa.frozen? ⟨w.heap.size + 1, j, none⟩ = false := fun j => by simp [World.frozen?, hz]
         have f0 := hfz 0
         have f1 := hfz 1
         have f2 := hfz 2
         have f3 := hfz 3
         clear hv hr4 hr4' hU hWa ka hBa hza hBW hz hfz
         go_upto_region 16 with fail
         rw [HWa.out]
         clear d0 d1 d2 d3 HWa
         generalize (v.name == nm) = t1 at e1 HN4
         cases t1 with
         | true =>
           have HF := Lib.hid (found_rgn (x := x) (f := fn) (nm := nm) (v := v) HNone.out hd4.out HN4.out.symm hE4.out)
           clear hE4
           go_wp2_with fail
           generalize (((Wa.setCell ⟨w.heap.size + 1, 0, none⟩ (.string (str v.name))).setCell ⟨w.heap.size + 1, 1, none⟩ (.int .i64 3)).setCell ⟨w.heap.size + 1, 2, none⟩ (.int .i64 v.size)).setCell ⟨w.heap.size + 1, 3, none⟩ (.bool v.secret) = F at HR ⊢
           have y0 := cell_blk HR.out.1 (j := 0) rfl
           have y1 := cell_blk HR.out.1 (j := 1) rfl
           have y2 := cell_blk HR.out.1 (j := 2) rfl
           have y3 := cell_blk HR.out.1 (j := 3) rfl
           refine bodyPost_ret (v := .tuple #[.agg #[.string (str v.name), .int .i64 3, .int .i64 v.size, .bool v.secret], .bool true, .bool true]) ?_ rfl ⟨by rw [HF.out]; first | done | rfl, HR.out.2⟩
           simp [results, Tryz.results92, go_sem, y0, y1, y2, y3]
         | false =>
           have HE5 := Lib.hid (all_snoc hE4.out HN4.out.symm)
           clear hE4 HR
           go_wp2_with fail
           go_roundw
           case rel => exact ⟨d4 ++ [v], r4, by rw [List.length_append]; go_num, by simp; omega, Lib.hid (by rw [hd4.out]; simp), Lib.hid (by rw [List.length_append, List.length_singleton, show o + (d4.length + 1) * 4 = o + d4.length * 4 + 4 by omega]; exact HR4.out), HBa, HE5⟩
           case measure => simp [intOf]; omega
end Go.Proofs.YtihmibggonffdaaGreat
