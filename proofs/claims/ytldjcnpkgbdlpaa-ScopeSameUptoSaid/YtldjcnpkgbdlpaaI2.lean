/- What is asked of a function's variables. -/
import Derived.Test.YtldjcnpkgbdlpaaI1
namespace Go.Proofs.Ytldjcnpkgbdlpaa
open Go.RowKit

def Vr.par (v : Vr) : Bool := (v.kind == 1) && (v.size == 0)
def Vr.loc (v : Vr) : Bool := if v.kind == 1 then (v.size == 0) && !v.secret else (v.kind == 2) || (v.kind == 3)
def Fnc.varsB (f : Fnc) : Bool := f.params.all Vr.par && f.vars.all Vr.loc
def Fnc.v (f : Fnc) (s : FncP) : Value := .agg #[.string (str f.name), .slice s.pp f.params.length s.cp, .slice s.pv f.vars.length s.cv, .slice s.pr f.rets.length s.cr, .slice s.pb f.body.len s.cb]
set_option maxRecDepth 100000 in
set_option maxHeartbeats 12800000 in
theorem mustBeVars_any (f : Fnc) (s : FncP) (N : Nat) (w : World) (h : f.Ok w N s) (hN : N ≤ w.heap.size) :
    Calls Try.prog 32 #[f.v s] w (Chk (ask f.varsB 9) w) := by
  obtain ⟨pp, pv, pr, pb, cp, cv, cr, cb⟩ := s
  obtain ⟨W0, hW0, k0, hB0, hz0⟩ := one_alloc w (.cells #[.string (str f.name), .slice pp f.params.length cp, .slice pv f.vars.length cv, .slice pr f.rets.length cr, .slice pb f.body.len cb] 35)
  obtain ⟨b, o, hp, hb, ha⟩ := Row.start h.1
  obtain ⟨b', o', hq, hb', ha'⟩ := Row.start h.2.1
  have hm := h.1.1
  have hm' := h.2.1.1
  have HA := Lib.hid (And.intro ha hb)
  have HA' := Lib.hid (And.intro ha' hb')
  have HB0 := Lib.hid hB0
  have HZ0 := Lib.hid hz0
  have HW0 := Lib.hid hW0
  have HK := Lib.hid k0
  have HNo := Lib.hid (fun (w' : World) (hf : f.varsB = false) (hB : Below w.heap.size w w') => show Chk (ask f.varsB 9) w (Pn 9) w' from Chk.no' (e := 9) (by rw [hf]; rfl) (by decide) hB)
  have c1 : W0.cell? ⟨w.heap.size, 1, none⟩ = some (.slice pp f.params.length cp) := cell_blk k0 rfl
  have HC2 := Lib.hid (fun (W : World) (hB : Below W0.heap.size W0 W) => show W.cell? ⟨w.heap.size, 2, none⟩ = some (.slice pv f.vars.length cv) from cell_blk ((hB.block _ (lt_blk k0)).trans k0) rfl)
  unfold Pn at HNo
  unfold Fnc.v
  clear hW0 k0 hB0 h hb hb' ha ha' hz0
  go_enter Try.func32, Try.ntmps32
  go_upto_region 1 with fail
  rw [HW0.out]
  go_wp2_with fail
  go_loopw [9] (fun i wr => ∃ (k : Nat) (r : List Vr), i = .int .i64 k ∧ k + r.length = f.params.length ∧ Hid (Row (Vr.At w) 4 r b (o + k * 4)) ∧ Hid (Below W0.heap.size W0 wr) ∧ Hid (r.all Vr.par = f.params.all Vr.par)) (fun i _ => f.params.length - (intOf i).toNat)
  case atStart => exact ⟨0, f.params, rfl, by omega, Lib.hid (by rw [Nat.zero_mul]; exact HA.out.1), Lib.hid (Below.refl _ _), Lib.hid rfl⟩
  case round =>
    obtain ⟨k, r, rfl, hk, hr, hB, hE⟩ := hrel
    cases r with
    | cons y r =>
      obtain ⟨hy, hr'⟩ := hr.out
      simp only [List.length_cons] at hk
      have hlt : k < f.params.length := by omega
      rcases hp with h0 | rfl
      · omega
      have hU := HB0.out.trans (hB.out.mono (show w.heap.size ≤ W0.heap.size by have := HZ0.out; omega))
      obtain ⟨d0, d1, d2, d3⟩ := Vr.At.later hU y b _ (by have := HA.out.2; omega) hy
      have HR := Lib.hid hr'
      have HBa := Lib.hid (And.intro (hB.out.alloc hB.out.size (.cells #[.string (str y.name), .int .i64 y.kind, .int .i64 y.size, .bool y.secret] 61)) (hU.alloc hU.size (.cells #[.string (str y.name), .int .i64 y.kind, .int .i64 y.size, .bool y.secret] 61)))
      have HF := Lib.hid (show y.par = false → f.varsB = false from fun h => by have := hE.out; rw [List.all_cons, h, Bool.false_and] at this; simp only [Fnc.varsB, ← this, Bool.false_and])
      have HT := Lib.hid (show y.par = true → r.all Vr.par = f.params.all Vr.par from fun h => by have := hE.out; rw [List.all_cons, h, Bool.true_and] at this; exact this)
      unfold Vr.par at HF HT
      clear hy hr hr' hE hU c1
      generalize e1 : (y.kind == 1) = t1 at HF HT
      generalize e2 : (y.size == 0) = t2 at HF HT
      cases t1 <;> cases t2 <;>
      first
        | (have HX := Lib.hid (HNo.out _ (HF.out rfl) HBa.out.2)
           clear HT HF
           go_wp2_with (go_at_call 47; refine (must_no 9 _).mono ?_; rintro e w' ⟨rfl, rfl⟩; unfold Pn)
           exact ⟨rfl, HX.out⟩)
        | (have HX := Lib.hid (HT.out rfl)
           clear HT HF
           go_wp2_with (go_at_call 47; refine (must_yes 9 _).mono ?_; rintro e w' ⟨rfl, rfl⟩)
           go_roundw
           case rel => exact ⟨k + 1, r, by go_num, by omega, Lib.hid (by rw [show o + (k + 1) * 4 = o + k * 4 + 4 by omega]; exact HR.out), Lib.hid HBa.out.1, HX⟩
           case measure => simp [intOf]; omega)
    | nil =>
      simp only [List.length_nil] at hk
      have hge : ¬ k < f.params.length := by omega
      have HP := Lib.hid (show f.params.all Vr.par = true from hE.out.symm)
      have c2 := HC2.out wr hB.out
      have HB := Lib.hid hB.out
      clear hr hE c1 hB
      go_wp2_with fail
      obtain ⟨wq, rfl⟩ : ∃ wq : World, wq = wr := ⟨_, rfl⟩
      clear c2
      go_loopw [26] (fun i wr => ∃ (k : Nat) (r : List Vr), i = .int .i64 k ∧ k + r.length = f.vars.length ∧ Hid (Row (Vr.At w) 4 r b' (o' + k * 4)) ∧ Hid (Below W0.heap.size W0 wr) ∧ Hid (r.all Vr.loc = f.vars.all Vr.loc)) (fun i _ => f.vars.length - (intOf i).toNat)
      case atStart => exact ⟨0, f.vars, rfl, by omega, Lib.hid (by rw [Nat.zero_mul]; exact HA'.out.1), HB, Lib.hid rfl⟩
      case round =>
        obtain ⟨k', r, rfl, hk', hr, hB, hE⟩ := hrel
        have hU := HB0.out.trans (hB.out.mono (show w.heap.size ≤ W0.heap.size by have := HZ0.out; omega))
        cases r with
        | nil =>
          simp only [List.length_nil] at hk'
          have hge' : ¬ k' < f.vars.length := by omega
          have HOK := Lib.hid (show Chk (ask f.varsB 9) w (.returned (.tuple #[])) wr from .ok (by unfold Fnc.varsB; rw [HP.out, ← hE.out]; rfl) hU)
          clear hU
          go_wp2_with fail
          go_end0
          exact HOK.out
        | cons y r =>
          obtain ⟨hy, hr'⟩ := hr.out
          simp only [List.length_cons] at hk'
          have hlt : k' < f.vars.length := by omega
          rcases hq with h0 | rfl
          · omega
          obtain ⟨d0, d1, d2, d3⟩ := Vr.At.later hU y b' _ (by have := HA'.out.2; omega) hy
          have HR := Lib.hid hr'
          have HBa := Lib.hid (And.intro (hB.out.alloc hB.out.size (.cells #[.string (str y.name), .int .i64 y.kind, .int .i64 y.size, .bool y.secret] 61)) (hU.alloc hU.size (.cells #[.string (str y.name), .int .i64 y.kind, .int .i64 y.size, .bool y.secret] 61)))
          have HF := Lib.hid (show y.loc = false → f.varsB = false from fun h => by have := hE.out; rw [List.all_cons, h, Bool.false_and] at this; simp only [Fnc.varsB, ← this, Bool.and_false])
          have HT := Lib.hid (show y.loc = true → r.all Vr.loc = f.vars.all Vr.loc from fun h => by have := hE.out; rw [List.all_cons, h, Bool.true_and] at this; exact this)
          unfold Vr.loc at HF HT
          clear hy hr hr' hE hU
          obtain ⟨ynm, yk, ysz, ysec⟩ := y
          simp only at d0 d1 d2 d3 HBa HF HT
          generalize e1 : (yk == 1) = t1 at HF HT
          generalize e2 : (ysz == 0) = t2 at HF HT
          generalize e3 : (yk == 2) = t3 at HF HT
          generalize e4 : (yk == 3) = t4 at HF HT
          cases t1 <;> cases t2 <;> cases ysec <;> cases t3 <;> cases t4 <;>
          first
            | (have HX := Lib.hid (HNo.out _ (HF.out rfl) HBa.out.2)
               clear HT HF
               go_wp2_with (go_at_call 47; refine (must_no 9 _).mono ?_; rintro e w' ⟨rfl, rfl⟩; unfold Pn)
               exact ⟨rfl, HX.out⟩)
            | (have HX := Lib.hid (HT.out rfl)
               clear HT HF
               go_wp2_with (go_at_call 47; refine (must_yes 9 _).mono ?_; rintro e w' ⟨rfl, rfl⟩)
               go_roundw
               case rel => exact ⟨k' + 1, r, by go_num, by omega, Lib.hid (by rw [show o' + (k' + 1) * 4 = o' + k' * 4 + 4 by omega]; exact HR.out), Lib.hid HBa.out.1, HX⟩
               case measure => simp [intOf]; omega)
end Go.Proofs.Ytldjcnpkgbdlpaa
