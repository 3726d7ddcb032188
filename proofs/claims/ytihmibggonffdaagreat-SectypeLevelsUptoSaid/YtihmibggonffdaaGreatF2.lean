/- How many parts a program has: the walk. -/
import Derived.Test.YtihmibggonffdaaGreatF1
import Derived.StillTailTactics
import Derived.BigQuiet
import Derived.Deep.QuietTactic
namespace Go.Proofs.YtihmibggonffdaaGreat
open Go.RowKit

theorem Rgn.At.of {w : World} {x : Rgn} {b o : Nat} (h : x.At w b o) {w' : World} {N : Nat} (hB : Below N w w') (hb : b < N) : x.At w' b o := Rgn.At.later hB x b o hb h
theorem Fnc.At.all {w : World} {N b o : Nat} {x : Fnc} (h : x.At w N b o) : ∃ s : FncP, w.cell? ⟨b, o, none⟩ = some (.string (str x.name)) ∧ w.cell? ⟨b, o + 1, none⟩ = some (.slice s.pp x.params.length s.cp) ∧ w.cell? ⟨b, o + 2, none⟩ = some (.slice s.pv x.vars.length s.cv) ∧ w.cell? ⟨b, o + 3, none⟩ = some (.slice s.pr x.rets.length s.cr) ∧ w.cell? ⟨b, o + 4, none⟩ = some (.slice s.pb x.body.len s.cb) ∧ x.Ok w N s := by
 obtain ⟨h0, ⟨p1, c1, g1, s1⟩, ⟨p2, c2, g2, s2⟩, ⟨p3, c3, g3, s3⟩, ⟨p4, c4, g4, s4⟩⟩ := h
 exact ⟨⟨p1, p2, p3, p4, c1, c2, c3, c4⟩, h0, g1, g2, g3, g4, s1, s2, s3, s4⟩
theorem index_0 (a b : Option Addr) (n m c d : Nat) (w : World) : (Instr.index 134 (.agg #[.slice a n c, .slice b m d]) (.int .i64 0)).run Tryz.prog w = .ok (.slice a n c) w := by kernel_rfl
theorem index_1 (a b : Option Addr) (n m c d : Nat) (w : World) : (Instr.index 134 (.agg #[.slice a n c, .slice b m d]) (.int .i64 1)).run Tryz.prog w = .ok (.slice b m d) w := by kernel_rfl
set_option maxRecDepth 100000 in
set_option maxHeartbeats 12800000 in
theorem mustBeFew_any (x : Prg) (s : PrgP) (N : Nat) (w : World) (h : x.Ok w N s.p s.q) (hN : N ≤ w.heap.size) :
   Calls Tryz.prog 52 #[x.v s] w (Chk (ask x.few 13) w) := by
 obtain ⟨p, q, c, d⟩ := s
 obtain ⟨W0, hW0, k0, hB0, hz0⟩ := one_alloc w (.cells #[.slice p x.regs.length c, .slice q x.fns.length d] 25)
 have hOk := h.later (hB0.mono hN) (Nat.le_refl N)
 obtain ⟨b, o, hp, hb, ha⟩ := Row.start hOk.1
 obtain ⟨b', o', hq, hb', ha'⟩ := Row.start hOk.2
 have hm := hOk.1.1
 have hm' := hOk.2.1
 have HA := Lib.hid (And.intro ha hb)
 have HA' := Lib.hid (And.intro ha' hb')
 have HN0 := Lib.hid (show N ≤ W0.heap.size by omega)
 have HB0 := Lib.hid hB0
 have HZ0 := Lib.hid hz0
 have HW0 := Lib.hid hW0
 have HK := Lib.hid k0
 have HNo := Lib.hid (fun (w' : World) (hf : x.few = false) (hB : Below W0.heap.size W0 w') => show Chk (ask x.few 13) w (Pn 13) w' from Chk.no' (e := 13) (by rw [hf]; rfl) (by decide) (HB0.out.trans (hB.mono (by omega))))
 have HTot := Lib.hid (fun (w1 : World) (hB : Below W0.heap.size W0 w1) => size_any x ⟨p, q, c, d⟩ N w1 (hOk.later (hB.mono HN0.out) (Nat.le_refl N)) (Nat.le_trans HN0.out hB.size))
 unfold Pn at HNo
 unfold Prg.v at HTot ⊢
 clear hW0 k0 hB0 h hb hb' ha ha' hOk hz0
 go_enter Tryz.func52, Tryz.ntmps52
 go_wp2_with fail
 rw [HW0.out]
 have HF := Lib.hid few_any
 refine (HF.out (x.regs.length : Int) 0 16 _).mono ?_
 rintro z w1 ⟨⟨f1, rfl⟩ | ⟨f1, rfl⟩, rfl⟩
 rotate_left
 · have HG := Lib.hid f1
   clear f1
   unfold Pn
   go_wp2_with fail
   exact ⟨rfl, HNo.out _ (by simp only [Prg.few, HG.out, Bool.false_and]) (Below.refl _ _)⟩
 have c0 : W0.cell? ⟨w.heap.size, 0, none⟩ = some (.slice p x.regs.length c) := cell_blk HK.out rfl
 have c1 : W0.cell? ⟨w.heap.size, 1, none⟩ = some (.slice q x.fns.length d) := cell_blk HK.out rfl
 have F1 := Lib.hid f1
 clear f1
 go_wp2_with fail
 refine (HF.out (x.fns.length : Int) 1 32 _).mono ?_
 rintro z w1 ⟨⟨f2, rfl⟩ | ⟨f2, rfl⟩, rfl⟩
 rotate_left
 · have HG := Lib.hid f2
   clear f2
   unfold Pn
   go_wp2_with fail
   exact ⟨rfl, HNo.out _ (by simp only [Prg.few, HG.out, Bool.false_and, Bool.and_false]) (Below.refl _ _)⟩
 have F2 := Lib.hid f2
 clear f2
 go_wp2_with fail
 go_loopw [24] (fun i wr => ∃ (k : Nat) (r : List Rgn), i = .int .i64 k ∧ k + r.length = x.regs.length ∧ Hid (Row (Rgn.At W0) 4 r b (o + k * 4)) ∧ Hid (Below W0.heap.size W0 wr) ∧ Hid (r.all Rgn.few = x.regs.all Rgn.few)) (fun i _ => x.regs.length - (intOf i).toNat)
 case atStart => exact ⟨0, x.regs, rfl, by omega, Lib.hid (by rw [Nat.zero_mul]; exact HA.out.1), Lib.hid (Below.refl _ _), Lib.hid rfl⟩
 case round =>
   obtain ⟨k, r, rfl, hk, hr, hB, hE⟩ := hrel
   cases r with
   | cons y r =>
     obtain ⟨hy, hr'⟩ := hr.out
     simp only [List.length_cons] at hk
     have hlt : k < x.regs.length := by omega
     rcases hp with h0 | rfl
     · omega
     obtain ⟨d0, d1, d2, d3⟩ := Rgn.At.of hy hB.out (by have := HA.out.2; have := HN0.out; omega)
     have HR := Lib.hid hr'
     clear hy hr hr' c0 c1
     go_wp2_with fail
     refine (HF.out y.size 1 512 _).mono ?_
     rintro z w1 ⟨⟨f3, rfl⟩ | ⟨f3, rfl⟩, rfl⟩
     rotate_left
     · have HG := Lib.hid f3
       clear f3
       unfold Pn
       go_wp2_with fail
       exact ⟨rfl, HNo.out _ (by have := hE.out; rw [List.all_cons, show y.few = false from HG.out, Bool.false_and] at this; simp only [Prg.few, ← this, Bool.false_and, Bool.and_false]) (hB.out.alloc hB.out.size _)⟩
     have HE := Lib.hid (show r.all Rgn.few = x.regs.all Rgn.few by have := hE.out; rw [List.all_cons, show y.few = true from f3, Bool.true_and] at this; exact this)
     clear f3
     go_wp2_with fail
     go_roundw
     case rel => exact ⟨k + 1, r, by go_num, by omega, Lib.hid (by rw [show o + (k + 1) * 4 = o + k * 4 + 4 by omega]; exact HR.out), Lib.hid (hB.out.alloc hB.out.size _), HE⟩
     case measure => simp [intOf]; omega
   | nil =>
     simp only [List.length_nil] at hk
     have hge : ¬ k < x.regs.length := by omega
     have F3 := Lib.hid hE.out.symm
     have c1r : wr.cell? ⟨w.heap.size, 1, none⟩ = some (.slice q x.fns.length d) := cell_blk ((hB.out.block _ (lt_blk HK.out)).trans HK.out) rfl
     clear c0 c1 hr hE
     go_wp2_with fail
     obtain ⟨wq, rfl⟩ : ∃ wq : World, wq = wr := ⟨_, rfl⟩
     have HBq := Lib.hid hB.out
     clear hB c1r
     go_loopw [36] (fun i wr => ∃ (k : Nat) (r : List Fnc), i = .int .i64 k ∧ k + r.length = x.fns.length ∧ Hid (Row (Fnc.At W0 N) 5 r b' (o' + k * 5)) ∧ Hid (Below W0.heap.size W0 wr) ∧ Hid (r.all Fnc.few = x.fns.all Fnc.few)) (fun i _ => x.fns.length - (intOf i).toNat)
     case atStart => exact ⟨0, x.fns, rfl, by omega, Lib.hid (by rw [Nat.zero_mul]; exact HA'.out.1), HBq, Lib.hid rfl⟩
     case round =>
       obtain ⟨k', r, rfl, hk', hr, hB, hE⟩ := hrel
       have c1 : wr.cell? ⟨w.heap.size, 1, none⟩ = some (.slice q x.fns.length d) := cell_blk ((hB.out.block _ (lt_blk HK.out)).trans HK.out) rfl
       have c0 : wr.cell? ⟨w.heap.size, 0, none⟩ = some (.slice p x.regs.length c) := cell_blk ((hB.out.block _ (lt_blk HK.out)).trans HK.out) rfl
       cases r with
       | nil =>
         simp only [List.length_nil] at hk'
         have hge' : ¬ k' < x.fns.length := by omega
         have F4 := Lib.hid hE.out.symm
         have HT := Lib.hid (HTot.out wr hB.out)
         clear hE hr
         go_wp2_with fail
         refine HT.out.mono ?_
         rintro z w1 ⟨rfl, hB1⟩
         have HB1 := Lib.hid (hB.out.trans (hB1.mono hB.out.size))
         clear hB1
         go_wp2_with fail
         refine (HF.out (cap x.total : Nat) 0 65536 _).mono ?_
         rintro z w1 ⟨⟨f5, rfl⟩ | ⟨f5, rfl⟩, rfl⟩
         rotate_left
         · have HG := Lib.hid f5
           clear f5
           unfold Pn
           go_wp2_with fail
           exact ⟨rfl, HNo.out _ (by simp only [Prg.few, HG.out, Bool.and_false]) HB1.out⟩
         have HOK := Lib.hid (show Chk (ask x.few 13) w (.returned (.tuple #[])) w1 from .ok (by
           have e1 := F1.out; have e2 := F2.out; have e3 := F3.out; have e4 := F4.out
           rw [List.all_nil] at e3 e4
           simp only [Prg.few, e1, e2, e3, e4, f5]; rfl) (HB0.out.trans (HB1.out.mono (by have := HZ0.out; omega))))
         clear f5
         go_wp2_with fail
         go_end0
         exact HOK.out
       | cons y r =>
         obtain ⟨hy, hr'⟩ := hr.out
         simp only [List.length_cons] at hk'
         have hlt' : k' < x.fns.length := by omega
         rcases hq with h0 | rfl
         · omega
         have hbn' : b' < W0.heap.size := by have := HA'.out.2; have := HN0.out; omega
         obtain ⟨⟨pp, pv, pr, pb, cp, cv, cr, cb⟩, g0', g1', g2', g3', g4', hok⟩ := Fnc.At.all hy
         have g1 := (hB.out.cell (p := ⟨b', o' + k' * 5 + 1, none⟩) hbn').trans g1'
         have g2 := (hB.out.cell (p := ⟨b', o' + k' * 5 + 2, none⟩) hbn').trans g2'
         have g3 := (hB.out.cell (p := ⟨b', o' + k' * 5 + 3, none⟩) hbn').trans g3'
         clear g0' g1' g2' g3' g4' hbn'
         have hmp := hok.1.1
         have hmv := hok.2.1.1
         have hsum : IntKind.i64.wrap ((y.params.length : Int) + (y.vars.length : Int)) = (y.params.length : Int) + (y.vars.length : Int) := by simp [IntKind.wrap, IntKind.bits, IntKind.signed]; omega
         have HR := Lib.hid hr'
         have HOk := Lib.hid hok
         have HFail := Lib.hid (fun (hf : y.few = false) => show x.few = false by have := hE.out; rw [List.all_cons, hf, Bool.false_and] at this; simp only [Prg.few, ← this, Bool.false_and, Bool.and_false])
         have HNo2 := Lib.hid (fun (hf : fewB ((y.params.length : Int) + (y.vars.length : Int)) 0 64 = false) => HNo.out wr.drew (HFail.out (by simp only [Fnc.few, hf, Bool.false_and])) hB.out.drew)
         clear hy hr hr' hok
         go_wp2_with fail
         go_still_tail 12, (by kernel_rfl)
         change wpList _ _ _ _ _ (World.drew _)
         go_wp2_with fail
         refine (HF.out ((y.params.length : Int) + (y.vars.length : Int)) 0 64 _).mono ?_
         rintro z w1 ⟨⟨f6, rfl⟩ | ⟨f6, rfl⟩, rfl⟩
         rotate_left
         · have HG := Lib.hid f6
           clear f6
           unfold Pn
           go_wp2_with fail
           exact ⟨rfl, HNo.out _ (by exact HFail.out (by simp only [Fnc.few, HG.out, Bool.false_and])) hB.out.drew⟩
         have F6 := Lib.hid f6
         clear f6 HNo2
         go_wp2_with fail
         refine (HF.out (y.rets.length : Int) 0 64 _).mono ?_
         rintro z w1 ⟨⟨f7, rfl⟩ | ⟨f7, rfl⟩, rfl⟩
         rotate_left
         · have HG := Lib.hid f7
           clear f7
           unfold Pn
           go_wp2_with fail
           exact ⟨rfl, HNo.out _ (by exact HFail.out (by simp only [Fnc.few, HG.out, Bool.false_and, Bool.and_false])) hB.out.drew⟩
         have F7 := Lib.hid f7
         clear f7
         go_wp2_with fail
         go_quiet (fail)
         go_wp2_with fail
         have HBz := Lib.hid (below_drewN hB.out.drew nq)
         generalize wr.drew.drewN nq = wz at HBz ⊢
         have HPB := Lib.hid (Row.start HOk.out.1)
         have HVB := Lib.hid (Row.start HOk.out.2.1)
         clear g1 g2 g3 c0 c1 hB
         go_loopw [72] (fun i wr => ∃ (k3 : Nat), i = .int .i64 k3 ∧ k3 ≤ 2 ∧ Hid (Below W0.heap.size W0 wr) ∧ Hid (1 ≤ k3 → y.params.all Vr.few = true) ∧ Hid (2 ≤ k3 → y.vars.all Vr.few = true)) (fun i _ => 2 - (intOf i).toNat)
         case atStart => exact ⟨0, rfl, by omega, HBz, Lib.hid (fun h => by omega), Lib.hid (fun h => by omega)⟩
         case round =>
           obtain ⟨wl, rfl⟩ : ∃ wl : World, wl = wr := ⟨_, rfl⟩
           obtain ⟨k3, rfl, hk3, hB3, hp3, hv3⟩ := hrel
           rcases (show k3 = 0 ∨ k3 = 1 ∨ k3 = 2 by omega) with rfl | rfl | rfl
           · obtain ⟨b4, o4, hp4, hb4, ha4⟩ := HPB.out
             have HA4 := Lib.hid (And.intro ha4 hb4)
             clear ha4 hb4
             have hi0 := index_0
             have hi1 := index_1
             go_wp2_with fail
             clear hi0 hi1
             go_loopw [77] (fun i wr => ∃ (k : Nat) (r : List Vr), i = .int .i64 k ∧ k + r.length = y.params.length ∧ Hid (∀ (hb : b4 < N), Row (Vr.At W0) 4 r b4 (o4 + k * 4)) ∧ Hid (Below W0.heap.size W0 wr) ∧ Hid (r.all Vr.few = y.params.all Vr.few)) (fun i _ => y.params.length - (intOf i).toNat)
             case atStart => exact ⟨0, y.params, rfl, by omega, Lib.hid (fun hb => by rw [Nat.zero_mul]; exact HA4.out.1), hB3, Lib.hid rfl⟩
             case round =>
               obtain ⟨k4, r4, rfl, hk4, hr4, hB4, hE4⟩ := hrel
               cases r4 with
               | nil =>
                 simp only [List.length_nil] at hk4
                 have hge4 : ¬ k4 < y.params.length := by omega
                 have HE4 := Lib.hid hE4.out.symm
                 clear hE4
                 go_wp2_with fail
                 go_roundw
                 case rel => exact ⟨1, by go_num, by omega, hB4, Lib.hid (fun _ => HE4.out), Lib.hid (fun h => by omega)⟩
                 case measure => simp [intOf]
               | cons v r4 =>
                 simp only [List.length_cons] at hk4
                 have hlt4 : k4 < y.params.length := by omega
                 rcases hp4 with h0 | rfl
                 · omega
                 have hbN : b4 < N := by have := HA4.out.2; omega
                 obtain ⟨hv, hr4'⟩ := hr4.out hbN
                 obtain ⟨d0, d1, d2, d3⟩ := Vr.At.later hB4.out v b4 _ (by have := HN0.out; omega) hv
                 have HR4 := Lib.hid hr4'
                 have HB5 := Lib.hid (hB4.out.alloc hB4.out.size (.cells #[.string (str v.name), .int .i64 v.kind, .int .i64 v.size, .bool v.secret] 58))
                 have HFail4 := Lib.hid (fun (hf : v.few = false) => HFail.out (by have := hE4.out; rw [List.all_cons, hf, Bool.false_and] at this; simp only [Fnc.few, ← this, Bool.false_and, Bool.and_false]))
                 have HE5 := Lib.hid (fun (hf : v.few = true) => show r4.all Vr.few = y.params.all Vr.few by have := hE4.out; rw [List.all_cons, hf, Bool.true_and] at this; exact this)
                 unfold Vr.few at HFail4 HE5
                 clear hv hr4 hr4' hE4
                 generalize e2 : (v.kind == 2) = t2 at HFail4 HE5 ⊢
                 generalize e3 : (v.kind == 3) = t3 at HFail4 HE5 ⊢
                 cases t2 <;> cases t3
                 · have HE6 := Lib.hid (HE5.out rfl)
                   clear HE5
                   go_wp2_with fail
                   go_roundw
                   case rel => exact ⟨k4 + 1, r4, by go_num, by omega, Lib.hid (fun hb => by rw [show o4 + (k4 + 1) * 4 = o4 + k4 * 4 + 4 by omega]; exact HR4.out), HB5, HE6⟩
                   case measure => simp [intOf]; omega
                 all_goals
                   (go_wp2_with fail
                    refine (HF.out v.size 1 512 _).mono ?_
                    rintro z w1 ⟨⟨f8, rfl⟩ | ⟨f8, rfl⟩, rfl⟩
                    · have HE6 := Lib.hid (HE5.out (by rw [f8]; rfl))
                      clear HE5 f8
                      go_wp2_with fail
                      refine ⟨⟨k4 + 1, r4, by go_num, by omega, Lib.hid (fun hb => by rw [show o4 + (k4 + 1) * 4 = o4 + k4 * 4 + 4 by omega]; exact HR4.out), HB5, HE6⟩, ?_⟩
                      simp [intOf]; omega
                    · have HG := Lib.hid (HFail4.out (by rw [f8]; rfl))
                      clear f8
                      unfold Pn
                      go_wp2_with fail
                      exact ⟨rfl, HNo.out _ HG.out HB5.out⟩)
           · obtain ⟨b4, o4, hp4, hb4, ha4⟩ := HVB.out
             have HA4 := Lib.hid (And.intro ha4 hb4)
             clear ha4 hb4
             have hi0 := index_0
             have hi1 := index_1
             go_wp2_with fail
             clear hi0 hi1
             go_loopw [77] (fun i wr => ∃ (k : Nat) (r : List Vr), i = .int .i64 k ∧ k + r.length = y.vars.length ∧ Hid (∀ (hb : b4 < N), Row (Vr.At W0) 4 r b4 (o4 + k * 4)) ∧ Hid (Below W0.heap.size W0 wr) ∧ Hid (r.all Vr.few = y.vars.all Vr.few)) (fun i _ => y.vars.length - (intOf i).toNat)
             case atStart => exact ⟨0, y.vars, rfl, by omega, Lib.hid (fun hb => by rw [Nat.zero_mul]; exact HA4.out.1), hB3, Lib.hid rfl⟩
             case round =>
               obtain ⟨k4, r4, rfl, hk4, hr4, hB4, hE4⟩ := hrel
               cases r4 with
               | nil =>
                 simp only [List.length_nil] at hk4
                 have hge4 : ¬ k4 < y.vars.length := by omega
                 have HE4 := Lib.hid hE4.out.symm
                 clear hE4
                 go_wp2_with fail
                 go_roundw
                 case rel => exact ⟨2, by go_num, by omega, hB4, Lib.hid (fun _ => hp3.out (by omega)), Lib.hid (fun _ => HE4.out)⟩
                 case measure => simp [intOf]
               | cons v r4 =>
                 simp only [List.length_cons] at hk4
                 have hlt4 : k4 < y.vars.length := by omega
                 rcases hp4 with h0 | rfl
                 · omega
                 have hbN : b4 < N := by have := HA4.out.2; omega
                 obtain ⟨hv, hr4'⟩ := hr4.out hbN
                 obtain ⟨d0, d1, d2, d3⟩ := Vr.At.later hB4.out v b4 _ (by have := HN0.out; omega) hv
                 have HR4 := Lib.hid hr4'
                 have HB5 := Lib.hid (hB4.out.alloc hB4.out.size (.cells #[.string (str v.name), .int .i64 v.kind, .int .i64 v.size, .bool v.secret] 58))
                 have HFail4 := Lib.hid (fun (hf : v.few = false) => HFail.out (by have := hE4.out; rw [List.all_cons, hf, Bool.false_and] at this; simp only [Fnc.few, ← this, Bool.and_false]))
                 have HE5 := Lib.hid (fun (hf : v.few = true) => show r4.all Vr.few = y.vars.all Vr.few by have := hE4.out; rw [List.all_cons, hf, Bool.true_and] at this; exact this)
                 unfold Vr.few at HFail4 HE5
                 clear hv hr4 hr4' hE4
                 generalize e2 : (v.kind == 2) = t2 at HFail4 HE5 ⊢
                 generalize e3 : (v.kind == 3) = t3 at HFail4 HE5 ⊢
                 cases t2 <;> cases t3
                 · have HE6 := Lib.hid (HE5.out rfl)
                   clear HE5
                   go_wp2_with fail
                   go_roundw
                   case rel => exact ⟨k4 + 1, r4, by go_num, by omega, Lib.hid (fun hb => by rw [show o4 + (k4 + 1) * 4 = o4 + k4 * 4 + 4 by omega]; exact HR4.out), HB5, HE6⟩
                   case measure => simp [intOf]; omega
                 all_goals
                   (go_wp2_with fail
                    refine (HF.out v.size 1 512 _).mono ?_
                    rintro z w1 ⟨⟨f8, rfl⟩ | ⟨f8, rfl⟩, rfl⟩
                    · have HE6 := Lib.hid (HE5.out (by rw [f8]; rfl))
                      clear HE5 f8
                      go_wp2_with fail
                      refine ⟨⟨k4 + 1, r4, by go_num, by omega, Lib.hid (fun hb => by rw [show o4 + (k4 + 1) * 4 = o4 + k4 * 4 + 4 by omega]; exact HR4.out), HB5, HE6⟩, ?_⟩
                      simp [intOf]; omega
                    · have HG := Lib.hid (HFail4.out (by rw [f8]; rfl))
                      clear f8
                      unfold Pn
                      go_wp2_with fail
                      exact ⟨rfl, HNo.out _ HG.out HB5.out⟩)
           · have HE5 := Lib.hid (show r.all Fnc.few = x.fns.all Fnc.few by
               have := hE.out
               rw [List.all_cons, show y.few = true by simp only [Fnc.few, F6.out, F7.out, hp3.out (by omega), hv3.out (by omega)]; rfl, Bool.true_and] at this
               exact this)
             clear hE hp3 hv3
             go_wp2_with fail
             go_roundw
             case rel => exact ⟨k' + 1, r, by go_num, by omega, Lib.hid (by rw [show o' + (k' + 1) * 5 = o' + k' * 5 + 5 by omega]; exact HR.out), hB3, HE5⟩
             case measure => simp [intOf]; omega
end Go.Proofs.YtihmibggonffdaaGreat
