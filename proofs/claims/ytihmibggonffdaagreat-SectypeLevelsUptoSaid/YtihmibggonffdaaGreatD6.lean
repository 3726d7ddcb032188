/- D5, D6 as one. -/
import Derived.Test.YtihmibggonffdaaGreatD4
/- The document's: what a name is in a function. -/
namespace Go.Proofs.YtihmibggonffdaaGreat
open Go.RowKit

def findK (x : Prg) (fn : Fnc) (nm : List UInt8) : Nat :=
 if (found x fn nm).2.1 then (if (found x fn nm).2.2 then 3 else if (found x fn nm).1.kind == 1 then 1 else 2) else 0
theorem findK_word (x : Prg) (fn : Fnc) (nm : List UInt8) : (findK x fn nm = 0 ∧ wordR x fn nm = 8 ∧ arrayR x fn nm = 8) ∨ (findK x fn nm = 1 ∧ wordR x fn nm = 0 ∧ arrayR x fn nm = 9) ∨ ((findK x fn nm = 2 ∨ findK x fn nm = 3) ∧ wordR x fn nm = 9 ∧ arrayR x fn nm = 0) := by
 unfold findK wordR arrayR ask
 have hreg : (found x fn nm).2.2 = true → (found x fn nm).1.kind = 3 := by
   unfold found
   split
   · intro h; cases h
   · split
     · intro _; rfl
     · intro h; cases h
 cases h1 : (found x fn nm).2.1
 · simp
 · cases h2 : (found x fn nm).2.2
   · cases h3 : (found x fn nm).1.kind == 1
     · have : ((found x fn nm).1.kind != 1) = true := by simp [bne, h3]
       simp [this]
     · have : ((found x fn nm).1.kind != 1) = false := by simp [bne, h3]
       simp [this]
   · have := hreg h2
     simp [this]
theorem ret_two {k : Nat} {j : Int} {k2 : Nat} (h : k = k2) : Ending.returned (.tuple #[.int .i64 (k : Int), .int .i64 j]) = Ending.returned (.tuple #[.int .i64 (k2 : Int), .int .i64 j]) := by rw [h]
def FindJ (x : Prg) (fn : Fnc) (nm : List UInt8) (j : Nat) : Prop :=
 (∃ d v r, fn.params ++ fn.vars = d ++ v :: r ∧ d.length = j ∧ named nm v = true ∧ found x fn nm = (v, true, false)) ∨
 (∃ d v r, x.regs = d ++ v :: r ∧ d.length = j ∧ found x fn nm = (⟨v.name, 3, v.size, v.secret⟩, true, true)) ∨ findK x fn nm = 0
set_option maxRecDepth 100000 in
set_option maxHeartbeats 6400000 in
theorem rfind_any (x : Prg) (s : PrgP) (i : Nat) (fn : Fnc) (nm : List UInt8) (N : Nat) (w : World) (h : x.Ok w N s.p s.q) (hN : N ≤ w.heap.size) (hi : x.fns[i]? = some fn) (hbig : fn.params.length + fn.vars.length ≤ 4000000) :
   Calls Tryz.prog 35 #[x.v s, .int .i64 (i : Int), .string (str nm)] w fun z w' => (∃ j : Nat, z = .returned (.tuple #[.int .i64 (findK x fn nm : Nat), .int .i64 (j : Int)]) ∧ FindJ x fn nm j) ∧ Below w.heap.size w w' := by
 obtain ⟨p, q, c, d⟩ := s
 have hil : i < x.fns.length := (List.getElem?_eq_some_iff.1 hi).1
 obtain ⟨w1, hw1, k0, hB1, hz1⟩ := one_alloc w (.cells #[.slice p x.regs.length c, .slice q x.fns.length d] 25)
 obtain ⟨b, o, hp, hb, ha⟩ := Row.start h.1
 obtain ⟨b', o', hq, hb', ha'⟩ := Row.start h.2
 have hm := h.1.1
 have hm' := h.2.1
 have HA := Lib.hid (And.intro ha hb)
 obtain ⟨⟨pp, pv, pr, pb, cp, cv, cr, cb⟩, e0, e1, e2, e3, e4, hok⟩ := Fnc.At.all (Row.get ha' hi)
 have hbw : b' < w.heap.size := by omega
 have g0 := (hB1.cell (p := ⟨b', o' + i * 5, none⟩) hbw).trans e0
 have g1 := (hB1.cell (p := ⟨b', o' + i * 5 + 1, none⟩) hbw).trans e1
 have g2 := (hB1.cell (p := ⟨b', o' + i * 5 + 2, none⟩) hbw).trans e2
 have g3 := (hB1.cell (p := ⟨b', o' + i * 5 + 3, none⟩) hbw).trans e3
 have g4 := (hB1.cell (p := ⟨b', o' + i * 5 + 4, none⟩) hbw).trans e4
 have HV := Lib.hid (rvars_any fn ⟨pp, pv, pr, pb, cp, cv, cr, cb⟩ N w1 (hok.later (hB1.mono hN) (Nat.le_refl N)) (by omega) hbig)
 have c1 : w1.cell? ⟨w.heap.size, 1, none⟩ = some (.slice q x.fns.length d) := cell_blk k0 rfl
 have HB1 := Lib.hid hB1
 have HZ1 := Lib.hid hz1
 have HCR := Lib.hid (fun (W : World) (hB : Below w1.heap.size w1 W) => show W.cell? ⟨w.heap.size, 0, none⟩ = some (.slice p x.regs.length c) from cell_blk ((hB.block _ (lt_blk k0)).trans k0) rfl)
 have hlt0 : ¬ (i : Int) < 0 := by omega
 have hge0 : ¬ (x.fns.length : Int) ≤ (i : Int) := by omega
 have HBig := Lib.hid hbig
 have HN := Lib.hid hN
 unfold Fnc.v at HV
 unfold Prg.v
 have hqs : q = some ⟨b', o', none⟩ := by
   rcases hq with h0 | h0
   · omega
   · exact h0
 subst hqs
 obtain ⟨l, hl⟩ : ∃ l, l = fn.params ++ fn.vars := ⟨_, rfl⟩
 rw [← hl] at HV
 have hlen : l.length ≤ 4000000 := by rw [hl, List.length_append]; exact hbig
 have HL := Lib.hid hl
 clear hq k0 hB1 h hb hb' ha ha' e0 e1 e2 e3 e4 hok hi hl hbig hN hz1
 go_enter Tryz.func35, Tryz.ntmps35
 go_wp2_with fail
 refine HV.out.mono ?_
 rintro z w2 ⟨pl, cl, rfl, hrow, hB2⟩
 obtain ⟨b4, o4, hp4, hb4, ha4⟩ := Row.start hrow
 have HA4 := Lib.hid (And.intro ha4 hb4)
 have HB2 := Lib.hid hB2
 have HEnd := Lib.hid (show Below w.heap.size w w2 from HB1.out.trans (hB2.mono (by have := HZ1.out; omega)))
 clear g0 g1 g2 g3 g4 c1 hrow hB2 hb4 ha4 HV hw1
 go_wp2_with fail
 go_loopw [9] (fun i wr => ∃ (d r : List Vr), i = .int .i64 d.length ∧ d.length + r.length = l.length ∧ Hid (l = d ++ r) ∧ Hid (Row (Vr.At w2) 4 r b4 (o4 + d.length * 4)) ∧ wr = w2 ∧ Hid (d.all (fun y => !named nm y) = true)) (fun i _ => l.length - (intOf i).toNat)
 case atStart => exact ⟨[], l, rfl, by rw [List.length_nil]; omega, Lib.hid rfl, Lib.hid (by simpa using HA4.out.1), rfl, Lib.hid rfl⟩
 case round =>
   obtain ⟨d4, r4, rfl, hk4, hd4, hr4, rfl, hE4⟩ := hrel
   cases r4 with
   | nil =>
     simp only [List.length_nil] at hk4
     have hge4 : ¬ d4.length < l.length := by omega
     have HE4 := Lib.hid (show (fn.params ++ fn.vars).all (fun y => !named nm y) = true by rw [← HL.out, hd4.out, List.append_nil]; exact hE4.out)
     have c0 := HCR.out _ HB2.out
     clear hE4
     go_wp2_with fail
     clear c0
     go_loopw [10] (fun i wx => ∃ (d r : List Rgn), i = .int .i64 d.length ∧ d.length + r.length = x.regs.length ∧ Hid (x.regs = d ++ r) ∧ Hid (Row (Rgn.At w) 4 r b (o + d.length * 4)) ∧ wx = wr ∧ Hid (d.all (fun y => !rgNamed nm y) = true)) (fun i _ => x.regs.length - (intOf i).toNat)
     case atStart => exact ⟨[], x.regs, rfl, by rw [List.length_nil]; omega, Lib.hid rfl, Lib.hid (by simpa using HA.out.1), rfl, Lib.hid rfl⟩
     case round =>
       obtain ⟨d5, r5, rfl, hk5, hd5, hr5, rfl, hE5⟩ := hrel
       have c0 := HCR.out _ HB2.out
       cases r5 with
       | nil =>
         simp only [List.length_nil] at hk5
         have hge5 : ¬ d5.length < x.regs.length := by omega
         have HF := Lib.hid (found_none (x := x) (f := fn) (nm := nm) HE4.out (by rw [hd5.out, List.append_nil]; exact hE5.out))
         have HK := Lib.hid (show 0 = findK x fn nm by unfold findK; rw [HF.out]; rfl)
         clear hE5
         go_wp2_with fail
         go_ret2
         exact ⟨⟨0, ret_two HK.out, .inr (.inr HK.out.symm)⟩, HEnd.out⟩
       | cons v r5 =>
         simp only [List.length_cons] at hk5
         have hlt5 : d5.length < x.regs.length := by omega
         rcases hp with h0 | rfl
         · omega
         have hbN : b < w.heap.size := by have := HA.out.2; have := HN.out; omega
         obtain ⟨hv, hr5'⟩ := hr5.out
         obtain ⟨d0, d1, d2, d3⟩ := Rgn.At.later HEnd.out v b _ hbN hv
         have HR5 := Lib.hid hr5'
         have e1 := str_eqb v.name nm
         have HN4 := Lib.hid (show (v.name == nm) = rgNamed nm v from rfl)
         clear hv hr5 hr5'
         generalize (v.name == nm) = t1 at e1 HN4
         cases t1 with
         | true =>
           have HF := Lib.hid (found_rgn (x := x) (f := fn) (nm := nm) (v := v) (d := d5) (r := r5) HE4.out hd5.out HN4.out.symm hE5.out)
           have HK := Lib.hid (show 3 = findK x fn nm by unfold findK; rw [HF.out]; rfl)
           clear hE5
           go_wp2_with fail
           go_ret2
           exact ⟨⟨d5.length, ret_two HK.out, .inr (.inl ⟨d5, v, r5, hd5.out, rfl, HF.out⟩)⟩, HEnd.out⟩
         | false =>
           have HE6 := Lib.hid (all_snoc hE5.out HN4.out.symm)
           clear hE5
           go_wp2_with fail
           go_roundw
           case rel => exact ⟨d5 ++ [v], r5, by rw [List.length_append]; go_num, by simp; omega, Lib.hid (by rw [hd5.out]; simp), Lib.hid (by rw [List.length_append, List.length_singleton, show o + (d5.length + 1) * 4 = o + d5.length * 4 + 4 by omega]; exact HR5.out), trivial, HE6⟩
           case measure => simp [intOf]; omega
   | cons v r4 =>
     simp only [List.length_cons] at hk4
     have hlt4 : d4.length < l.length := by omega
     rcases hp4 with h0 | rfl
     · omega
     obtain ⟨hv, hr4'⟩ := hr4.out
     obtain ⟨d0, d1, d2, d3⟩ := hv
     have HR4 := Lib.hid hr4'
     have e1 := str_eqb v.name nm
     have HN4 := Lib.hid (show (v.name == nm) = named nm v from rfl)
     clear hr4 hr4'
     generalize (v.name == nm) = t1 at e1 HN4
     cases t1 with
     | true =>
       have HF := Lib.hid (found_var (x := x) (f := fn) (nm := nm) (v := v) (d := d4) (r := r4) (by rw [← HL.out]; exact hd4.out) HN4.out.symm hE4.out)
       have HD4 := Lib.hid (HL.out.symm.trans hd4.out)
       clear hE4
       cases hk1 : v.kind == 1 with
       | true =>
         have HK := Lib.hid (show 1 = findK x fn nm by unfold findK; rw [HF.out]; simp only [hk1]; rfl)
         go_wp2_with fail
         go_ret2
         exact ⟨⟨d4.length, ret_two HK.out, .inl ⟨d4, v, r4, HD4.out, rfl, HN4.out.symm, HF.out⟩⟩, HEnd.out⟩
       | false =>
         have HK := Lib.hid (show 2 = findK x fn nm by unfold findK; rw [HF.out]; simp only [hk1]; rfl)
         go_wp2_with fail
         go_ret2
         exact ⟨⟨d4.length, ret_two HK.out, .inl ⟨d4, v, r4, HD4.out, rfl, HN4.out.symm, HF.out⟩⟩, HEnd.out⟩
     | false =>
       have HE5 := Lib.hid (all_snoc hE4.out HN4.out.symm)
       clear hE4
       go_wp2_with fail
       go_roundw
       case rel => exact ⟨d4 ++ [v], r4, by rw [List.length_append]; go_num, by simp; omega, Lib.hid (by rw [hd4.out]; simp), Lib.hid (by rw [List.length_append, List.length_singleton, show o4 + (d4.length + 1) * 4 = o4 + d4.length * 4 + 4 by omega]; exact HR4.out), trivial, HE5⟩
       case measure => simp [intOf]; omega

set_option maxHeartbeats 3200000 in
theorem rword_any (x : Prg) (s : PrgP) (i : Nat) (fn : Fnc) (nm : List UInt8) (N : Nat) (w : World) (h : x.Ok w N s.p s.q) (hN : N ≤ w.heap.size) (hi : x.fns[i]? = some fn) (hbig : fn.params.length + fn.vars.length ≤ 4000000) :
   Calls Tryz.prog 43 #[x.v s, .int .i64 (i : Int), .string (str nm)] w fun z w' => z = .returned (.int .i64 (wordR x fn nm : Nat)) ∧ Below w.heap.size w w' := by
 obtain ⟨p, q, c, d⟩ := s
 obtain ⟨w1, hw1, k0, hB1, hz1⟩ := one_alloc w (.cells #[.slice p x.regs.length c, .slice q x.fns.length d] 25)
 have HF := Lib.hid (rfind_any x ⟨p, q, c, d⟩ i fn nm N w1 (h.later (hB1.mono hN) (Nat.le_refl N)) (by omega) hi hbig)
 have c0 : w1.cell? ⟨w.heap.size, 0, none⟩ = some (.slice p x.regs.length c) := cell_blk k0 rfl
 have c1 : w1.cell? ⟨w.heap.size, 1, none⟩ = some (.slice q x.fns.length d) := cell_blk k0 rfl
 have HK := findK_word x fn nm
 have HB1 := Lib.hid (And.intro hB1 hz1)
 unfold Prg.v at HF ⊢
 generalize findK x fn nm = K at HF HK
 generalize wordR x fn nm = R at HK ⊢
 clear h hi hbig k0 hB1
 rcases HK with ⟨rfl, rfl, _⟩ | ⟨rfl, rfl, _⟩ | ⟨rfl | rfl, rfl, _⟩
 all_goals
   (go_enter Tryz.func43, Tryz.ntmps43
    go_wp2_with fail
    refine HF.out.mono ?_
    rintro z w2 ⟨⟨j, rfl, _⟩, hB2⟩
    have HE := Lib.hid (HB1.out.1.trans (hB2.mono (by have := HB1.out.2; omega)))
    clear hB2
    go_wp2_with fail
    go_ret
    exact ⟨rfl, HE.out⟩)
set_option maxHeartbeats 3200000 in
theorem rarray_any (x : Prg) (s : PrgP) (i : Nat) (fn : Fnc) (nm : List UInt8) (N : Nat) (w : World) (h : x.Ok w N s.p s.q) (hN : N ≤ w.heap.size) (hi : x.fns[i]? = some fn) (hbig : fn.params.length + fn.vars.length ≤ 4000000) :
   Calls Tryz.prog 44 #[x.v s, .int .i64 (i : Int), .string (str nm)] w fun z w' => z = .returned (.int .i64 (arrayR x fn nm : Nat)) ∧ Below w.heap.size w w' := by
 obtain ⟨p, q, c, d⟩ := s
 obtain ⟨w1, hw1, k0, hB1, hz1⟩ := one_alloc w (.cells #[.slice p x.regs.length c, .slice q x.fns.length d] 25)
 have HF := Lib.hid (rfind_any x ⟨p, q, c, d⟩ i fn nm N w1 (h.later (hB1.mono hN) (Nat.le_refl N)) (by omega) hi hbig)
 have c0 : w1.cell? ⟨w.heap.size, 0, none⟩ = some (.slice p x.regs.length c) := cell_blk k0 rfl
 have c1 : w1.cell? ⟨w.heap.size, 1, none⟩ = some (.slice q x.fns.length d) := cell_blk k0 rfl
 have HK := findK_word x fn nm
 have HB1 := Lib.hid (And.intro hB1 hz1)
 unfold Prg.v at HF ⊢
 generalize findK x fn nm = K at HF HK
 generalize arrayR x fn nm = R at HK ⊢
 clear h hi hbig k0 hB1
 rcases HK with ⟨rfl, _, rfl⟩ | ⟨rfl, _, rfl⟩ | ⟨rfl | rfl, _, rfl⟩
 all_goals
   (go_enter Tryz.func44, Tryz.ntmps44
    go_wp2_with fail
    refine HF.out.mono ?_
    rintro z w2 ⟨⟨j, rfl, _⟩, hB2⟩
    have HE := Lib.hid (HB1.out.1.trans (hB2.mono (by have := HB1.out.2; omega)))
    clear hB2
    go_wp2_with fail
    go_ret
    exact ⟨rfl, HE.out⟩)
/- The document's: is a name in a list, is it a parameter's. -/
open Go.RowKit

theorem any_snoc {α : Type} {f : α → Bool} {d r : List α} {l : List α} (hl : l = d ++ r) (hd : d.all (fun y => !f y) = true) : l.any f = r.any f := by
 subst hl
 rw [List.any_append]
 have : d.any f = false := by
   rw [List.any_eq_false]
   intro x hx
   have := List.all_eq_true.1 hd x hx
   simpa using this
 rw [this, Bool.false_or]
set_option maxHeartbeats 3200000 in
theorem rhas_any (l : List (List UInt8)) (nm : List UInt8) (p : Option Addr) (c N : Nat) (w : World) (hl : RowIn N (StrAt w) 1 l p) :
   Calls Tryz.prog 32 #[.slice p l.length c, .string (str nm)] w fun z w' => z = .returned (.bool (l.any (fun y => y == nm))) ∧ w = w' := by
 obtain ⟨b, o, hp, hb, ha⟩ := Row.start hl
 have hm := hl.1
 have HA := Lib.hid ha
 clear hl ha hb
 go_enter Tryz.func32, Tryz.ntmps32
 go_wp2_with fail
 go_loopw [5] (fun i wr => ∃ (d r : List (List UInt8)), i = .int .i64 d.length ∧ d.length + r.length = l.length ∧ Hid (l = d ++ r) ∧ Hid (d.all (fun y => !(y == nm)) = true) ∧ w = wr) (fun i _ => l.length - (intOf i).toNat)
 case atStart => exact ⟨[], l, rfl, by rw [List.length_nil]; omega, Lib.hid rfl, Lib.hid rfl, rfl⟩
 case round =>
   obtain ⟨d, r, rfl, hk, hd, hE, rfl⟩ := hrel
   cases r with
   | nil =>
     simp only [List.length_nil] at hk
     have hge : ¬ d.length < l.length := by omega
     have HV := Lib.hid (show l.any (fun y => y == nm) = false by rw [any_snoc (f := fun y => y == nm) hd.out hE.out]; rfl)
     clear hE
     go_wp2_with fail
     go_ret
     exact ⟨ret_bool HV.out.symm, rfl⟩
   | cons y r =>
     simp only [List.length_cons] at hk
     have hlt : d.length < l.length := by omega
     rcases hp with h0 | rfl
     · omega
     have c0 := str_get HA.out hd.out
     have e1 := str_eqb y nm
     have HV := Lib.hid (show l.any (fun y => y == nm) = ((y == nm) || r.any (fun y => y == nm)) by rw [any_snoc (f := fun y => y == nm) hd.out hE.out]; rfl)
     have HS := Lib.hid (fun (h : (y == nm) = false) => all_snoc (f := fun y => y == nm) hE.out h)
     clear hE
     generalize (y == nm) = t1 at e1 HV HS
     cases t1 with
     | true =>
       have HV2 := Lib.hid (show l.any (fun y => y == nm) = true by rw [HV.out]; rfl)
       clear HV HS
       go_wp2_with fail
       go_ret
       exact ⟨ret_bool HV2.out.symm, rfl⟩
     | false =>
       have HE := Lib.hid (HS.out rfl)
       clear HV HS
       go_wp2_with fail
       go_roundw
       case rel => exact ⟨d ++ [y], r, by rw [List.length_append]; go_num, by simp; omega, Lib.hid (by rw [hd.out]; simp), HE, trivial⟩
       case measure => simp [intOf]; omega
set_option maxHeartbeats 3200000 in
theorem rparams_any (f : Fnc) (s : FncP) (nm : List UInt8) (N : Nat) (w : World) (h : f.Ok w N s) (hN : N ≤ w.heap.size) :
   Calls Tryz.prog 118 #[f.v s, .string (str nm)] w fun z w' => z = .returned (.bool (f.params.any (named nm))) ∧ Below w.heap.size w w' := by
 obtain ⟨pp, pv, pr, pb, cp, cv, cr, cb⟩ := s
 obtain ⟨w1, hw1, k0, hB1, hz⟩ := one_alloc w (.cells #[.string (str f.name), .slice pp f.params.length cp, .slice pv f.vars.length cv, .slice pr f.rets.length cr, .slice pb f.body.len cb] 48)
 have c1 : w1.cell? ⟨w.heap.size, 1, none⟩ = some (.slice pp f.params.length cp) := cell_blk k0 rfl
 obtain ⟨b, o, hp, hb, ha⟩ := Row.start (RowIn.imp h.1 (Nat.le_refl N) (Vr.At.later (hB1.mono hN)))
 have hm := h.1.1
 have HA := Lib.hid ha
 have HB1 := Lib.hid hB1
 unfold Fnc.v
 clear h ha hb k0 hB1 hz
 go_enter Tryz.func118, Tryz.ntmps118
 go_wp2_with fail
 go_loopw [5] (fun i wr => ∃ (d r : List Vr), i = .int .i64 d.length ∧ d.length + r.length = f.params.length ∧ Hid (f.params = d ++ r) ∧ Hid (d.all (fun y => !named nm y) = true) ∧ w1 = wr) (fun i _ => f.params.length - (intOf i).toNat)
 case atStart => exact ⟨[], f.params, rfl, by rw [List.length_nil]; omega, Lib.hid rfl, Lib.hid rfl, rfl⟩
 case round =>
   obtain ⟨d, r, rfl, hk, hd, hE, rfl⟩ := hrel
   cases r with
   | nil =>
     simp only [List.length_nil] at hk
     have hge : ¬ d.length < f.params.length := by omega
     have HV := Lib.hid (show f.params.any (named nm) = false by rw [any_snoc hd.out hE.out]; rfl)
     clear hE
     go_wp2_with fail
     go_ret
     exact ⟨ret_bool HV.out.symm, HB1.out⟩
   | cons y r =>
     simp only [List.length_cons] at hk
     have hlt : d.length < f.params.length := by omega
     rcases hp with h0 | rfl
     · omega
     have hrow := HA.out
     rw [hd.out] at hrow
     obtain ⟨d0, d1, d2, d3⟩ := (Row.drop _ _ _ hrow).1
     have e1 := str_eqb y.name nm
     have HV := Lib.hid (show f.params.any (named nm) = ((y.name == nm) || r.any (named nm)) by rw [any_snoc hd.out hE.out]; rfl)
     have HS := Lib.hid (fun (h : (y.name == nm) = false) => all_snoc (f := named nm) hE.out h)
     clear hE hrow
     generalize (y.name == nm) = t1 at e1 HV HS
     cases t1 with
     | true =>
       have HV2 := Lib.hid (show f.params.any (named nm) = true by rw [HV.out]; rfl)
       clear HV HS
       go_wp2_with fail
       go_ret
       exact ⟨ret_bool HV2.out.symm, HB1.out⟩
     | false =>
       have HE := Lib.hid (HS.out rfl)
       clear HV HS
       go_wp2_with fail
       go_roundw
       case rel => exact ⟨d ++ [y], r, by rw [List.length_append]; go_num, by simp; omega, Lib.hid (by rw [hd.out]; simp), HE, trivial⟩
       case measure => simp [intOf]; omega
end Go.Proofs.YtihmibggonffdaaGreat
