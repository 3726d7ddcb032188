/- G1, H1, H2 as one. -/
import Derived.Test.YtihmibggonffdaaGreatF1
import Derived.Test.YtihmibggonffdaaGreatF2
import Derived.Deep.RegionHeld3
import Derived.Lib.AppendZeros
import Derived.Laws.AppendOwnNone
/- What is asked of regions. -/
namespace Go.Proofs.YtihmibggonffdaaGreat
open Go.RowKit

def newB : (List UInt8 → Nat) → List (List UInt8) → Bool
 | _, [] => true
 | f, s :: r => (nameB s && decide (f s = 0)) && newB (add f s) r
def adds : (List UInt8 → Nat) → List (List UInt8) → (List UInt8 → Nat)
 | f, [] => f
 | f, s :: r => adds (add f s) r
def Rgn.at' (r : Rgn) : Bool := decide (0 ≤ r.addr) && (r.addr.tmod 8 == 0) && decide (r.addr ≤ 49152 - r.size * 8)
def Rgn.apart (r q : Rgn) : Bool := decide (q.addr + q.size * 8 ≤ r.addr) || decide (r.addr + r.size * 8 ≤ q.addr)
def Rgn.apart' (q r : Rgn) : Bool := decide (q.addr + q.size * 8 ≤ r.addr) || decide (r.addr + r.size * 8 ≤ q.addr)
def rgsAt : List Rgn → List Rgn → Bool
 | _, [] => true
 | ds, r :: rs => r.at' && ds.all r.apart && rgsAt (ds ++ [r]) rs
theorem Rgn.few_iff (r : Rgn) : r.few = true ↔ 1 ≤ r.size ∧ r.size ≤ 512 := by simp [Rgn.few, fewB]
def Rgn.v (r : Rgn) : Value := .agg #[.string (str r.name), .int .i64 r.addr, .int .i64 r.size, .bool r.secret]
theorem bytesOf_any (r : Rgn) (hr : r.few = true) (w : World) : Calls Tryz.prog 83 #[r.v] w fun z w' => z = .returned (.int .i64 (r.size * 8)) ∧ Below w.heap.size w w' := by
 obtain ⟨h1, h2⟩ := r.few_iff.1 hr
 have hw : IntKind.i64.wrap (r.size * 8) = r.size * 8 := by simp [IntKind.wrap, IntKind.bits, IntKind.signed]; omega
 unfold Rgn.v
 go_enter Tryz.func83, Tryz.ntmps83
 go_wp2_with fail
 go_ret
 exact ⟨rfl, (Below.refl _ _).alloc (Nat.le_refl _) _⟩
theorem Row.pre {α : Type} {A : α → Nat → Nat → Prop} {k b : Nat} : ∀ (l r : List α) (o : Nat), Row A k (l ++ r) b o → Row A k l b o
 | [], _, _, _ => trivial
 | _ :: l, r, o, h => ⟨h.1, Row.pre l r (o + k) h.2⟩
theorem Rgn.at_iff (r : Rgn) (h : r.at' = true) : 0 ≤ r.addr ∧ r.addr ≤ 49152 - r.size * 8 := by
 simp only [Rgn.at', Bool.and_eq_true, decide_eq_true_eq] at h
 exact ⟨h.1.1, h.2⟩
set_option maxRecDepth 100000 in
set_option maxHeartbeats 12800000 in
theorem mustLie_any (l : List Rgn) (p : Option Addr) (c N : Nat) (w : World) (h : RowIn N (Rgn.At w) 4 l p) (hN : N ≤ w.heap.size) (hf : l.all Rgn.few = true) (hcap : l.length ≤ c) :
   Calls Tryz.prog 54 #[.slice p l.length c] w (Chk (ask (rgsAt [] l) 14) w) := by
     obtain ⟨b, o, hp, hb, ha⟩ := Row.start h
     have hm := h.1
     have HA := Lib.hid (And.intro ha hb)
     have HFew := Lib.hid hf
     have HBq := Lib.hid (Below.refl w.heap.size w)
     clear h hb ha hf
     go_enter Tryz.func54, Tryz.ntmps54
     go_wp2_with fail
     go_loopw [8] (fun i wr => ∃ (k : Nat) (ds r : List Rgn), i = .int .i64 k ∧ ds.length = k ∧ Hid (l = ds ++ r) ∧ k + r.length = l.length ∧ Hid (Row (Rgn.At w) 4 r b (o + k * 4)) ∧ Hid (Below w.heap.size w wr) ∧ Hid (rgsAt [] l = rgsAt ds r) ∧ Hid (∀ x ∈ ds, x.at' = true)) (fun i _ => l.length - (intOf i).toNat)
     case atStart => exact ⟨0, [], l, rfl, rfl, Lib.hid rfl, by omega, Lib.hid (by rw [Nat.zero_mul]; exact HA.out.1), HBq, Lib.hid rfl, Lib.hid (fun x hx => by cases hx)⟩
     case round =>
       obtain ⟨wo, rfl⟩ : ∃ wo : World, wo = wr := ⟨_, rfl⟩
       obtain ⟨k', ds, r, rfl, hdk, hds, hk', hr, hB, hE, hAt⟩ := hrel
       cases r with
       | nil =>
         simp only [List.length_nil] at hk'
         have hge' : ¬ k' < l.length := by omega
         have HOK := Lib.hid (show Chk (ask (rgsAt [] l) 14) w (.returned (.tuple #[])) wo from .ok (by rw [hE.out]; rfl) hB.out)
         go_wp2_with fail
         go_end0
         exact HOK.out
       | cons y r =>
         obtain ⟨hy, hr'⟩ := hr.out
         simp only [List.length_cons] at hk'
         have hlt' : k' < l.length := by omega
         rcases hp with h0 | rfl
         · omega
         obtain ⟨d0, d1, d2, d3⟩ := Rgn.At.of hy hB.out (by have := HA.out.2; omega)
         have HR := Lib.hid hr'
         have hyf : y.few = true := List.all_eq_true.1 HFew.out y (by rw [hds.out]; simp)
         have HBy := Lib.hid (bytesOf_any y hyf)
         obtain ⟨hy1, hy2⟩ := y.few_iff.1 hyf
         have hws : IntKind.i64.wrap (49152 - y.size * 8) = 49152 - y.size * 8 := by simp [IntKind.wrap, IntKind.bits, IntKind.signed]; omega
         obtain ⟨Wa, hWa, ka, hBa, hza⟩ := one_alloc wo (.cells #[.string (str y.name), .int .i64 y.addr, .int .i64 y.size, .bool y.secret] 83)
         have HBa := Lib.hid (And.intro (hB.out.trans (hBa.mono hB.out.size)) (show wo.heap.size < Wa.heap.size by omega))
         have HKa := Lib.hid ka
         have HWa := Lib.hid hWa
         have HNo := Lib.hid (fun (w' : World) (hf : (y.at' && ds.all y.apart) = false) (hBw : Below Wa.heap.size Wa w') => show Chk (ask (rgsAt [] l) 14) w (Pn 14) w' from Chk.no' (e := 14) (by rw [hE.out, rgsAt, hf]; rfl) (by decide) (HBa.out.1.trans (hBw.mono (by have := hB.out.size; omega))))
         unfold Pn at HNo
         unfold Rgn.v at HBy
         have a0 : Wa.cell? ⟨wo.heap.size, 0, none⟩ = some (.string (str y.name)) := cell_blk ka rfl
         have a1 : Wa.cell? ⟨wo.heap.size, 1, none⟩ = some (.int .i64 y.addr) := cell_blk ka rfl
         have a2 : Wa.cell? ⟨wo.heap.size, 2, none⟩ = some (.int .i64 y.size) := cell_blk ka rfl
         have a3 : Wa.cell? ⟨wo.heap.size, 3, none⟩ = some (.bool y.secret) := cell_blk ka rfl
         clear hy hr hr' hyf hWa ka hBa hza
         go_upto_region 3 with fail
         rw [HWa.out]
         clear d0 d1 d2 d3 HWa
         go_cut [] from 13 to 30 (fun wx => Hid (Below Wa.heap.size Wa wx) ∧ Hid (y.at' = true))
         case first =>
           have HAt' := Lib.hid (show (decide (0 ≤ y.addr) && (y.addr.tmod 8 == 0) && decide (y.addr ≤ 49152 - y.size * 8)) = y.at' from rfl)
           unfold Rgn.at' at HNo
           generalize e1 : decide (0 ≤ y.addr) = t1 at HNo HAt'
           generalize e2 : (y.addr.tmod 8 == 0) = t2 at HNo HAt'
           generalize e3 : decide (y.addr ≤ 49152 - y.size * 8) = t3 at HNo HAt'
           have HS : Below Wa.heap.size Wa Wa.drew := (Below.refl _ _).drew
           cases t1
           · refine wp_region_held_drew (S := fun W => Below Wa.heap.size Wa W ∧ W.cell? ⟨wo.heap.size, 0, none⟩ = some (.string (str y.name)) ∧ W.cell? ⟨wo.heap.size, 1, none⟩ = some (.int .i64 y.addr) ∧ W.cell? ⟨wo.heap.size, 2, none⟩ = some (.int .i64 y.size) ∧ W.cell? ⟨wo.heap.size, 3, none⟩ = some (.bool y.secret)) (by kernel_rfl) ?_ (fun hHeld => ?_)
             · exact ⟨HS, (HS.cell (p := ⟨wo.heap.size, 0, none⟩) HBa.out.2).trans a0, (HS.cell (p := ⟨wo.heap.size, 1, none⟩) HBa.out.2).trans a1, (HS.cell (p := ⟨wo.heap.size, 2, none⟩) HBa.out.2).trans a2, (HS.cell (p := ⟨wo.heap.size, 3, none⟩) HBa.out.2).trans a3⟩
             refine tq 0 ?_
             refine tq 1 ?_
             refine tq 2 ?_
             refine tq 3 ?_
             refine sq 4 ?_
             refine sq 5 ?_
             refine sq 6 ?_
             refine sq 7 ?_
             refine tq 8 ?_
             refine tq 9 ?_
             refine sq 10 ?_
             refine sq 11 ?_
             refine sq 12 ?_
             refine sq 13 ?_
             refine sq 14 ?_
             refine sq 15 ?_
             refine tq 16 ?_
             refine wpAnyH_ready (rs := [17]) (by kernel_rfl) (by simp) ?_
             refine rdy rfl (fun K hK => ?_) AllReadyH.nil
             go_simp
             refine (must_no 14 _).mono ?_
             rintro e w' ⟨rfl, rfl⟩
             unfold Pn
             exact ⟨rfl, HNo.out _ rfl HS⟩
           cases t2
           · refine wp_region_held_drew (S := fun W => Below Wa.heap.size Wa W ∧ W.cell? ⟨wo.heap.size, 0, none⟩ = some (.string (str y.name)) ∧ W.cell? ⟨wo.heap.size, 1, none⟩ = some (.int .i64 y.addr) ∧ W.cell? ⟨wo.heap.size, 2, none⟩ = some (.int .i64 y.size) ∧ W.cell? ⟨wo.heap.size, 3, none⟩ = some (.bool y.secret)) (by kernel_rfl) ?_ (fun hHeld => ?_)
             · exact ⟨HS, (HS.cell (p := ⟨wo.heap.size, 0, none⟩) HBa.out.2).trans a0, (HS.cell (p := ⟨wo.heap.size, 1, none⟩) HBa.out.2).trans a1, (HS.cell (p := ⟨wo.heap.size, 2, none⟩) HBa.out.2).trans a2, (HS.cell (p := ⟨wo.heap.size, 3, none⟩) HBa.out.2).trans a3⟩
             refine tq 0 ?_
             refine tq 1 ?_
             refine tq 2 ?_
             refine tq 3 ?_
             refine tq 4 ?_
             refine tq 5 ?_
             refine tq 6 ?_
             refine tq 7 ?_
             refine tq 8 ?_
             refine tq 9 ?_
             refine sq 10 ?_
             refine sq 11 ?_
             refine sq 12 ?_
             refine sq 13 ?_
             refine sq 14 ?_
             refine sq 15 ?_
             refine tq 16 ?_
             refine wpAnyH_ready (rs := [17]) (by kernel_rfl) (by simp) ?_
             refine rdy rfl (fun K hK => ?_) AllReadyH.nil
             go_simp
             refine (must_no 14 _).mono ?_
             rintro e w' ⟨rfl, rfl⟩
             unfold Pn
             exact ⟨rfl, HNo.out _ rfl HS⟩
           refine wp_region_held_drew (S := fun W => Below Wa.heap.size Wa W ∧ W.cell? ⟨wo.heap.size, 0, none⟩ = some (.string (str y.name)) ∧ W.cell? ⟨wo.heap.size, 1, none⟩ = some (.int .i64 y.addr) ∧ W.cell? ⟨wo.heap.size, 2, none⟩ = some (.int .i64 y.size) ∧ W.cell? ⟨wo.heap.size, 3, none⟩ = some (.bool y.secret)) (by kernel_rfl) ?_ (fun hHeld => ?_)
           · exact ⟨HS, (HS.cell (p := ⟨wo.heap.size, 0, none⟩) HBa.out.2).trans a0, (HS.cell (p := ⟨wo.heap.size, 1, none⟩) HBa.out.2).trans a1, (HS.cell (p := ⟨wo.heap.size, 2, none⟩) HBa.out.2).trans a2, (HS.cell (p := ⟨wo.heap.size, 3, none⟩) HBa.out.2).trans a3⟩
           refine tq 0 ?_
           refine tq 1 ?_
           refine tq 2 ?_
           refine tq 3 ?_
           refine tq 4 ?_
           refine tq 5 ?_
           refine tq 6 ?_
           refine tq 7 ?_
           refine tq 8 ?_
           refine tq 9 ?_
           refine tq 10 ?_
           refine tq 11 ?_
           refine tq 12 ?_
           refine wpAnyH_ready (rs := [13]) (by kernel_rfl) (by simp) ?_
           refine rdy rfl (fun K hK => ?_) AllReadyH.nil
           go_simp
           refine (HBy.out _).mono ?_
           rintro z w2 ⟨rfl, hB2⟩
           replace HS := HS.trans (hB2.mono HS.size)
           refine hK.out _ _ ?_ (fun hHeld => ?_)
           · exact ⟨HS, (HS.cell (p := ⟨wo.heap.size, 0, none⟩) HBa.out.2).trans a0, (HS.cell (p := ⟨wo.heap.size, 1, none⟩) HBa.out.2).trans a1, (HS.cell (p := ⟨wo.heap.size, 2, none⟩) HBa.out.2).trans a2, (HS.cell (p := ⟨wo.heap.size, 3, none⟩) HBa.out.2).trans a3⟩
           clear hK K
           try simp only [Act.put, List.setIfInBounds_toArray, List.set_cons_zero, List.set_cons_succ]
           refine tq 14 ?_
           refine tq 15 ?_
           refine tq 16 ?_
           cases t3
           · refine wpAnyH_ready (rs := [17]) (by kernel_rfl) (by simp) ?_
             refine rdy rfl (fun K hK => ?_) AllReadyH.nil
             go_simp
             refine (must_no 14 _).mono ?_
             rintro e w' ⟨rfl, rfl⟩
             unfold Pn
             exact ⟨rfl, HNo.out _ rfl HS⟩
           have HT := Lib.hid HAt'.out.symm
           refine wpAnyH_ready (rs := [17]) (by kernel_rfl) (by simp) ?_
           refine rdy rfl (fun K hK => ?_) AllReadyH.nil
           go_simp
           refine (must_yes 14 _).mono ?_
           rintro e w' ⟨rfl, hw⟩
           subst hw
           refine hK.out _ _ ?_ (fun hHeld => ?_)
           · exact ⟨HS, (HS.cell (p := ⟨wo.heap.size, 0, none⟩) HBa.out.2).trans a0, (HS.cell (p := ⟨wo.heap.size, 1, none⟩) HBa.out.2).trans a1, (HS.cell (p := ⟨wo.heap.size, 2, none⟩) HBa.out.2).trans a2, (HS.cell (p := ⟨wo.heap.size, 3, none⟩) HBa.out.2).trans a3⟩
           clear hK K
           try simp only [Act.put, List.setIfInBounds_toArray, List.set_cons_zero, List.set_cons_succ]
           refine wpAnyH_done (by kernel_rfl) ?_ _
           go_wp2_with fail
           go_meet
           exact ⟨Lib.hid HS, HT⟩
         case rest =>
           obtain ⟨hBc, hat⟩ := hcut
           obtain ⟨hy3, hy4⟩ := y.at_iff hat.out
           have hkc : k' ≤ c := by omega
           clear a0 a1 a2 a3 HBy
           go_wp2_with fail
           obtain ⟨wz, rfl⟩ : ∃ wz : World, wz = wc := ⟨_, rfl⟩
           go_loopw [35] (fun i wr => ∃ (j : Nat) (d1 r1 : List Rgn), i = .int .i64 j ∧ j + r1.length = k' ∧ Hid (ds = d1 ++ r1) ∧ Hid (Row (Rgn.At w) 4 r1 b (o + j * 4)) ∧ Hid (Below Wa.heap.size Wa wr) ∧ Hid (r1.all y.apart = ds.all y.apart)) (fun i _ => k' - (intOf i).toNat)
           case atStart => exact ⟨0, [], ds, rfl, by omega, Lib.hid rfl, Lib.hid (by rw [Nat.zero_mul]; exact Row.pre ds (y :: r) o (by rw [← hds.out]; exact HA.out.1)), hBc, Lib.hid rfl⟩
           case round =>
             obtain ⟨wi, rfl⟩ : ∃ wi : World, wi = wr := ⟨_, rfl⟩
             obtain ⟨j, d1, r1, rfl, hj, hd1, hr1, hBi, hE1⟩ := hrel
             cases r1 with
             | nil =>
               simp only [List.length_nil] at hj
               have hgj : ¬ j < k' := by omega
               have HE2 := Lib.hid (show rgsAt [] l = rgsAt (ds ++ [y]) r by rw [hE.out, rgsAt, hat.out, ← hE1.out]; rfl)
               clear hE1 hE
               go_wp2_with fail
               go_roundw
               case rel => exact ⟨k' + 1, ds ++ [y], r, by go_num, by simp; omega, Lib.hid (by rw [hds.out]; simp), by omega, Lib.hid (by rw [show o + (k' + 1) * 4 = o + k' * 4 + 4 by omega]; exact HR.out), Lib.hid (HBa.out.1.trans (hBi.out.mono (by have := hB.out.size; have := HBa.out.2; omega))), HE2, Lib.hid (fun x hx => by rcases List.mem_append.1 hx with h | h; exact hAt.out x h; cases List.mem_singleton.1 h; exact hat.out)⟩
               case measure => simp [intOf]; omega
             | cons q r1 =>
               obtain ⟨hq, hr1'⟩ := hr1.out
               simp only [List.length_cons] at hj
               have hlj : j < k' := by omega
               have hqm : q ∈ ds := by rw [hd1.out]; simp
               have hqf : q.few = true := List.all_eq_true.1 HFew.out q (by rw [hds.out]; exact List.mem_append_left _ hqm)
               obtain ⟨hq1, hq2⟩ := q.few_iff.1 hqf
               obtain ⟨hq3, hq4⟩ := q.at_iff (hAt.out q hqm)
               have hba : b < w.heap.size := by have := HA.out.2; omega
               obtain ⟨d0, d1', d2, d3⟩ := Rgn.At.of hq (HBa.out.1.trans (hBi.out.mono (by have := hB.out.size; have := HBa.out.2; omega))) hba
               have HR1 := Lib.hid hr1'
               have HBq := Lib.hid (bytesOf_any q hqf)
               have HBy := Lib.hid (bytesOf_any y (List.all_eq_true.1 HFew.out y (by rw [hds.out]; simp)))
               have hwq : IntKind.i64.wrap (q.addr + q.size * 8) = q.addr + q.size * 8 := by simp [IntKind.wrap, IntKind.bits, IntKind.signed]; omega
               have hwy : IntKind.i64.wrap (y.addr + y.size * 8) = y.addr + y.size * 8 := by simp [IntKind.wrap, IntKind.bits, IntKind.signed]; omega
               obtain ⟨Wb, hWb, kb, hBb, hzb⟩ := one_alloc wi (.cells #[.string (str q.name), .int .i64 q.addr, .int .i64 q.size, .bool q.secret] 83)
               have HBb := Lib.hid (And.intro (hBi.out.trans (hBb.mono hBi.out.size)) (show wi.heap.size < Wb.heap.size by omega))
               have HWb := Lib.hid hWb
               have HNo1 := Lib.hid (fun (w' : World) (hf : q.apart' y = false) (hBw : Below Wb.heap.size Wb w') => HNo.out w' (by
                 have : ds.all y.apart = false := by rw [← hE1.out, List.all_cons, show y.apart q = false from hf, Bool.false_and]
                 rw [this, Bool.and_false]) (HBb.out.1.trans (hBw.mono (by have := hBi.out.size; have := HBb.out.2; omega))))
               have ky := (HBb.out.1.block _ HBa.out.2).trans HKa.out
               have hlt2 : wo.heap.size < Wb.heap.size := Nat.lt_of_lt_of_le HBa.out.2 HBb.out.1.size
               have a0 : Wb.cell? ⟨wo.heap.size, 0, none⟩ = some (.string (str y.name)) := cell_blk ky rfl
               have a1 : Wb.cell? ⟨wo.heap.size, 1, none⟩ = some (.int .i64 y.addr) := cell_blk ky rfl
               have a2 : Wb.cell? ⟨wo.heap.size, 2, none⟩ = some (.int .i64 y.size) := cell_blk ky rfl
               have a3 : Wb.cell? ⟨wo.heap.size, 3, none⟩ = some (.bool y.secret) := cell_blk ky rfl
               have b0 : Wb.cell? ⟨wi.heap.size, 0, none⟩ = some (.string (str q.name)) := cell_blk kb rfl
               have b1 : Wb.cell? ⟨wi.heap.size, 1, none⟩ = some (.int .i64 q.addr) := cell_blk kb rfl
               have b2 : Wb.cell? ⟨wi.heap.size, 2, none⟩ = some (.int .i64 q.size) := cell_blk kb rfl
               have b3 : Wb.cell? ⟨wi.heap.size, 3, none⟩ = some (.bool q.secret) := cell_blk kb rfl
               have HE2 := Lib.hid hE1.out
               unfold Rgn.v at HBq HBy
               unfold Rgn.apart' at HNo1
               clear hq hr1 hr1' hqf hWb kb hBb hzb ky hE1
               go_upto_region 7 with fail
               rw [HWb.out]
               clear d0 d1' d2 d3 HWb
               have HAp := Lib.hid (show (decide (q.addr + q.size * 8 ≤ y.addr) || decide (y.addr + y.size * 8 ≤ q.addr)) = q.apart' y from rfl)
               generalize e1 : decide (q.addr + q.size * 8 ≤ y.addr) = t1 at HNo1 HAp
               generalize e2 : decide (y.addr + y.size * 8 ≤ q.addr) = t2 at HNo1 HAp
               have HS : Below Wb.heap.size Wb Wb.drew := (Below.refl _ _).drew
               refine wp_region_held_drew (S := fun W => Below Wb.heap.size Wb W ∧ W.cell? ⟨wo.heap.size, 0, none⟩ = some (.string (str y.name)) ∧ W.cell? ⟨wo.heap.size, 1, none⟩ = some (.int .i64 y.addr) ∧ W.cell? ⟨wo.heap.size, 2, none⟩ = some (.int .i64 y.size) ∧ W.cell? ⟨wo.heap.size, 3, none⟩ = some (.bool y.secret) ∧ W.cell? ⟨wi.heap.size, 0, none⟩ = some (.string (str q.name)) ∧ W.cell? ⟨wi.heap.size, 1, none⟩ = some (.int .i64 q.addr) ∧ W.cell? ⟨wi.heap.size, 2, none⟩ = some (.int .i64 q.size) ∧ W.cell? ⟨wi.heap.size, 3, none⟩ = some (.bool q.secret)) (by kernel_rfl) ?_ (fun hHeld => ?_)
               · exact ⟨HS, (HS.cell (p := ⟨wo.heap.size, 0, none⟩) hlt2).trans a0, (HS.cell (p := ⟨wo.heap.size, 1, none⟩) hlt2).trans a1, (HS.cell (p := ⟨wo.heap.size, 2, none⟩) hlt2).trans a2, (HS.cell (p := ⟨wo.heap.size, 3, none⟩) hlt2).trans a3, (HS.cell (p := ⟨wi.heap.size, 0, none⟩) HBb.out.2).trans b0, (HS.cell (p := ⟨wi.heap.size, 1, none⟩) HBb.out.2).trans b1, (HS.cell (p := ⟨wi.heap.size, 2, none⟩) HBb.out.2).trans b2, (HS.cell (p := ⟨wi.heap.size, 3, none⟩) HBb.out.2).trans b3⟩
               refine tq 0 ?_
               refine tq 1 ?_
               refine tq 2 ?_
               refine tq 3 ?_
               refine tq 4 ?_
               refine wpAnyH_ready (rs := [5]) (by kernel_rfl) (by simp) ?_
               refine rdy rfl (fun K hK => ?_) AllReadyH.nil
               go_simp
               refine (HBq.out _).mono ?_
               rintro z w2 ⟨rfl, hB2⟩
               replace HS := HS.trans (hB2.mono HS.size)
               refine hK.out _ _ ?_ (fun hHeld => ?_)
               · exact ⟨HS, (HS.cell (p := ⟨wo.heap.size, 0, none⟩) hlt2).trans a0, (HS.cell (p := ⟨wo.heap.size, 1, none⟩) hlt2).trans a1, (HS.cell (p := ⟨wo.heap.size, 2, none⟩) hlt2).trans a2, (HS.cell (p := ⟨wo.heap.size, 3, none⟩) hlt2).trans a3, (HS.cell (p := ⟨wi.heap.size, 0, none⟩) HBb.out.2).trans b0, (HS.cell (p := ⟨wi.heap.size, 1, none⟩) HBb.out.2).trans b1, (HS.cell (p := ⟨wi.heap.size, 2, none⟩) HBb.out.2).trans b2, (HS.cell (p := ⟨wi.heap.size, 3, none⟩) HBb.out.2).trans b3⟩
               clear hK K
               try simp only [Act.put, List.setIfInBounds_toArray, List.set_cons_zero, List.set_cons_succ]
               refine tq 6 ?_
               refine tq 7 ?_
               refine tq 8 ?_
               cases t1
               rotate_left
               · refine sq 9 ?_
                 refine sq 10 ?_
                 refine sq 11 ?_
                 refine sq 12 ?_
                 refine sq 13 ?_
                 refine sq 14 ?_
                 refine sq 15 ?_
                 refine sq 16 ?_
                 refine tq 17 ?_
                 have HT := Lib.hid HAp.out.symm
                 refine wpAnyH_ready (rs := [18]) (by kernel_rfl) (by simp) ?_
                 refine rdy rfl (fun K hK => ?_) AllReadyH.nil
                 go_simp
                 refine (must_yes 14 _).mono ?_
                 rintro e w' ⟨rfl, hw⟩
                 subst hw
                 refine hK.out _ _ ?_ (fun hHeld => ?_)
                 · exact ⟨HS, (HS.cell (p := ⟨wo.heap.size, 0, none⟩) hlt2).trans a0, (HS.cell (p := ⟨wo.heap.size, 1, none⟩) hlt2).trans a1, (HS.cell (p := ⟨wo.heap.size, 2, none⟩) hlt2).trans a2, (HS.cell (p := ⟨wo.heap.size, 3, none⟩) hlt2).trans a3, (HS.cell (p := ⟨wi.heap.size, 0, none⟩) HBb.out.2).trans b0, (HS.cell (p := ⟨wi.heap.size, 1, none⟩) HBb.out.2).trans b1, (HS.cell (p := ⟨wi.heap.size, 2, none⟩) HBb.out.2).trans b2, (HS.cell (p := ⟨wi.heap.size, 3, none⟩) HBb.out.2).trans b3⟩
                 clear hK K
                 try simp only [Act.put, List.setIfInBounds_toArray, List.set_cons_zero, List.set_cons_succ]
                 refine wpAnyH_done (by kernel_rfl) ?_ _
                 have HBd := Lib.hid HS
                 clear a0 a1 a2 a3 b0 b1 b2 b3
                 go_wp2_with fail
                 refine ⟨⟨j + 1, d1 ++ [q], r1, by go_num, by omega, Lib.hid (by rw [hd1.out]; simp), Lib.hid (by rw [show o + (j + 1) * 4 = o + j * 4 + 4 by omega]; exact HR1.out), Lib.hid (HBb.out.1.trans (HBd.out.mono (by have := hBi.out.size; have := HBb.out.2; omega))), Lib.hid (by rw [← HE2.out, List.all_cons, show y.apart q = true from HT.out, Bool.true_and])⟩, ?_⟩
                 simp [intOf]; omega
               refine tq 9 ?_
               refine tq 10 ?_
               refine tq 11 ?_
               refine tq 12 ?_
               refine tq 13 ?_
               refine wpAnyH_ready (rs := [14]) (by kernel_rfl) (by simp) ?_
               refine rdy rfl (fun K hK => ?_) AllReadyH.nil
               go_simp
               refine (HBy.out _).mono ?_
               rintro z w3 ⟨rfl, hB3⟩
               replace HS := HS.trans (hB3.mono HS.size)
               refine hK.out _ _ ?_ (fun hHeld => ?_)
               · exact ⟨HS, (HS.cell (p := ⟨wo.heap.size, 0, none⟩) hlt2).trans a0, (HS.cell (p := ⟨wo.heap.size, 1, none⟩) hlt2).trans a1, (HS.cell (p := ⟨wo.heap.size, 2, none⟩) hlt2).trans a2, (HS.cell (p := ⟨wo.heap.size, 3, none⟩) hlt2).trans a3, (HS.cell (p := ⟨wi.heap.size, 0, none⟩) HBb.out.2).trans b0, (HS.cell (p := ⟨wi.heap.size, 1, none⟩) HBb.out.2).trans b1, (HS.cell (p := ⟨wi.heap.size, 2, none⟩) HBb.out.2).trans b2, (HS.cell (p := ⟨wi.heap.size, 3, none⟩) HBb.out.2).trans b3⟩
               clear hK K
               try simp only [Act.put, List.setIfInBounds_toArray, List.set_cons_zero, List.set_cons_succ]
               refine tq 15 ?_
               refine tq 16 ?_
               refine tq 17 ?_
               cases t2
               · refine wpAnyH_ready (rs := [18]) (by kernel_rfl) (by simp) ?_
                 refine rdy rfl (fun K hK => ?_) AllReadyH.nil
                 go_simp
                 refine (must_no 14 _).mono ?_
                 rintro e w' ⟨rfl, rfl⟩
                 unfold Pn
                 exact ⟨rfl, HNo1.out _ rfl HS⟩
               have HT := Lib.hid HAp.out.symm
               refine wpAnyH_ready (rs := [18]) (by kernel_rfl) (by simp) ?_
               refine rdy rfl (fun K hK => ?_) AllReadyH.nil
               go_simp
               refine (must_yes 14 _).mono ?_
               rintro e w' ⟨rfl, hw⟩
               subst hw
               refine hK.out _ _ ?_ (fun hHeld => ?_)
               · exact ⟨HS, (HS.cell (p := ⟨wo.heap.size, 0, none⟩) hlt2).trans a0, (HS.cell (p := ⟨wo.heap.size, 1, none⟩) hlt2).trans a1, (HS.cell (p := ⟨wo.heap.size, 2, none⟩) hlt2).trans a2, (HS.cell (p := ⟨wo.heap.size, 3, none⟩) hlt2).trans a3, (HS.cell (p := ⟨wi.heap.size, 0, none⟩) HBb.out.2).trans b0, (HS.cell (p := ⟨wi.heap.size, 1, none⟩) HBb.out.2).trans b1, (HS.cell (p := ⟨wi.heap.size, 2, none⟩) HBb.out.2).trans b2, (HS.cell (p := ⟨wi.heap.size, 3, none⟩) HBb.out.2).trans b3⟩
               clear hK K
               try simp only [Act.put, List.setIfInBounds_toArray, List.set_cons_zero, List.set_cons_succ]
               refine wpAnyH_done (by kernel_rfl) ?_ _
               have HBd := Lib.hid HS
               clear a0 a1 a2 a3 b0 b1 b2 b3
               go_wp2_with fail
               refine ⟨⟨j + 1, d1 ++ [q], r1, by go_num, by omega, Lib.hid (by rw [hd1.out]; simp), Lib.hid (by rw [show o + (j + 1) * 4 = o + j * 4 + 4 by omega]; exact HR1.out), Lib.hid (HBb.out.1.trans (HBd.out.mono (by have := hBi.out.size; have := HBb.out.2; omega))), Lib.hid (by rw [← HE2.out, List.all_cons, show y.apart q = true from HT.out, Bool.true_and])⟩, ?_⟩
               simp [intOf]; omega
/- Variables, one list behind the other. -/
open Go.RowKit

theorem add_of (b o j : Nat) : (⟨b, o, none⟩ : Addr).add j = ⟨b, o + j, none⟩ := by unfold Addr.add; split <;> simp_all
theorem run_append_empty {P : Program} {w : World} (base : Nat) (t ty e : TypeId) (i : TypeInfo) (size : Nat) (ht : P.underlying t = some (.slice e)) (hi : P.info? e = some i)
   (v : Value) (n : Nat) (xs : List Value) (hown : w.ownsRow base e size v n xs) (p : Option Addr) (c : Nat) :
   (Builtin.append_ #[t, t] ty #[v, .slice p 0 c]).run P w = .ok v w := by
 rcases hown.2 with ⟨rfl, rfl⟩ | ⟨g, cap, cur, rfl, _, _, hnc, _⟩ <;> cases p
 · simp [Builtin.append_, run_underlying ht, sizeOf, typeInfo, hi, Builtin.lenOf, Builtin.firstCells]
 · simp [Builtin.append_, run_underlying ht, sizeOf, typeInfo, hi, Builtin.lenOf, Builtin.firstCells, loadCells, loadCellsFrom]
 · simp [Builtin.append_, run_underlying ht, sizeOf, typeInfo, hi, Builtin.lenOf, Builtin.firstCells, hnc, storeCells]
 · simp [Builtin.append_, run_underlying ht, sizeOf, typeInfo, hi, Builtin.lenOf, Builtin.firstCells, hnc, storeCells, loadCells, loadCellsFrom]
def Src (w : World) (size : Nat) (p : Option Addr) (m : Nat) (news : List Value) : Prop :=
 news.length = m * size ∧ (m = 0 ∨ ∃ b o, p = some ⟨b, o, none⟩ ∧ ∀ j u, news[j]? = some u → w.cell? ⟨b, o + j, none⟩ = some u)
theorem wpList_append_src {P : Program} {w : World} {ops : Array Oper} {rest : List Oper} {o : Oper} {a : Act} {Q : Exit → Act → World → Prop} (hgd : o.guard = none) (s x : Operand) (t : TypeId)
   (ho : o.op = .call { callee := .builtin .append, args := #[s, x], argTypes := #[t, t] })
   (base : Nat) (e : TypeId) (i : TypeInfo) (z : Value) (size bytes : Nat) (ht : P.underlying t = some (.slice e)) (hi : P.info? e = some i) (hz : i.zero = some z)
   (hsize : i.size = size) (hby : i.bytes = bytes) (hzs : z.cells.size = size) (hsz : 0 < size)
   (v : Value) (n : Nat) (xs : List Value) (hs : a.eval s = v) (hown : w.ownsRow base e size v n xs)
   (p : Option Addr) (m c : Nat) (news : List Value) (hx : a.eval x = .slice p m c) (hsrc : Src w size p m news) (h1 : ∀ u ∈ news, u.oneCell' = true)
   (h63 : n + m ≤ maxLen) (hbytes : (n + m) * bytes ≤ 140737488355328) (hbase : base ≤ w.heap.size)
   (h : ∀ v' w', w'.ownsRow base e size v' (n + m) (xs ++ news) → w.grownBy w' v.ownBlock → wpList P ops Q rest (a.put o.dst v') w') : wpList P ops Q (o :: rest) a w := by
 obtain ⟨hl, rfl | ⟨b', o', rfl, hc⟩⟩ := hsrc
 · have : news = [] := List.eq_nil_of_length_eq_zero (by simpa using hl)
   subst this
   have hrun := run_append_empty (P := P) (w := w) base t o.type e i size ht hi v n xs hown p c
   exact Lib.wpList_append_run w hgd s x t t ho _ _ hs hx _ _ hrun (h v w (by simpa using hown) (World.grownBy.refl w _))
 · exact wpList_append_own w hgd s x t ho base e i z size bytes ht hi hz hsize hby hzs hsz v n xs hs hown _ m c news hx hl (fun j u hu => by rw [add_of]; exact hc j u hu) h1 h63 hbytes hbase fun v' w' h2 h3 _ => h v' w' h2 h3
def Vr.cells (v : Vr) : List Value := [.string (str v.name), .int .i64 v.kind, .int .i64 v.size, .bool v.secret]
def vrCells (l : List Vr) : List Value := l.flatMap Vr.cells
theorem vr_len : ∀ l : List Vr, (vrCells l).length = l.length * 4
 | [] => rfl
 | x :: l => by have := vr_len l; unfold vrCells at this ⊢; simp [Vr.cells, this]; omega
theorem vr_one : ∀ (l : List Vr), ∀ u ∈ vrCells l, u.oneCell' = true
 | [], u, h => by cases h
 | x :: l, u, h => by
   simp only [vrCells, List.flatMap_cons, Vr.cells, List.mem_append, List.mem_cons, List.not_mem_nil, or_false] at h
   rcases h with (rfl | rfl | rfl | rfl) | h
   · rfl
   · rfl
   · rfl
   · rfl
   · exact vr_one l u h
theorem vr_list {w : World} : ∀ (l : List Vr) (b o : Nat), Row (Vr.At w) 4 l b o → ∀ j u, (vrCells l)[j]? = some u → w.cell? ⟨b, o + j, none⟩ = some u
 | [], _, _, _, j, u, h => by simp [vrCells] at h
 | x :: l, b, o, h, 0, u, hu => by simp [vrCells, Vr.cells] at hu; subst hu; exact h.1.1
 | x :: l, b, o, h, 1, u, hu => by simp [vrCells, Vr.cells] at hu; subst hu; exact h.1.2.1
 | x :: l, b, o, h, 2, u, hu => by simp [vrCells, Vr.cells] at hu; subst hu; exact h.1.2.2.1
 | x :: l, b, o, h, 3, u, hu => by simp [vrCells, Vr.cells] at hu; subst hu; exact h.1.2.2.2
 | x :: l, b, o, h, j + 4, u, hu => by
   have := vr_list l b (o + 4) h.2 j u (by simpa [vrCells, Vr.cells] using hu)
   rw [show o + (j + 4) = o + 4 + j by omega]; exact this
theorem vr_of {w : World} : ∀ (l : List Vr) (b o : Nat), (∀ j u, (vrCells l)[j]? = some u → w.cell? ⟨b, o + j, none⟩ = some u) → Row (Vr.At w) 4 l b o
 | [], _, _, _ => trivial
 | x :: l, b, o, h => ⟨⟨h 0 _ (by simp [vrCells, Vr.cells]), h 1 _ (by simp [vrCells, Vr.cells]), h 2 _ (by simp [vrCells, Vr.cells]), h 3 _ (by simp [vrCells, Vr.cells])⟩, vr_of l b (o + 4) fun j u hu => by
   have := h (j + 4) u (by simpa [vrCells, Vr.cells] using hu)
   rw [show o + (j + 4) = o + 4 + j by omega] at this; exact this⟩
theorem vr_src {w : World} {N : Nat} {l : List Vr} {p : Option Addr} (h : RowIn N (Vr.At w) 4 l p) : Src w 4 p l.length (vrCells l) := by
 refine ⟨vr_len l, ?_⟩
 rcases h.2 with h0 | ⟨b, o, hp, _, ha⟩
 · exact .inl h0
 · exact .inr ⟨b, o, hp, vr_list l b o ha⟩
theorem infoVr : (Tryz.prog.info? 58).map (fun i => (i.zero, i.size, i.bytes)) = some (some (.agg #[.string ⟨#[]⟩, .int .i64 0, .int .i64 0, .bool false]), 4, 40) := by kernel_rfl
theorem own_row {w : World} {B : Nat} {v : Value} {l : List Vr} (h : w.ownsRow B 58 4 v l.length (vrCells l)) (hl : l.length ≤ 140737488355328) : ∃ p c, v = .slice p l.length c ∧ RowIn w.heap.size (Vr.At w) 4 l p := by
 rcases h.2 with ⟨rfl, h0⟩ | ⟨g, cap, cur, rfl, hg, hk, hnc, hm, hs, ht⟩
 · exact ⟨none, 0, by rw [h0], by omega, .inl h0⟩
 · refine ⟨_, cap, rfl, hl, .inr ⟨g, 0, rfl, lt_blk hk, vr_of l g 0 fun j u hu => ?_⟩⟩
   rw [← ht, List.getElem?_take] at hu
   split at hu
   · rw [Nat.zero_add]
     exact cell_blk hk (by rw [← Array.getElem?_toList]; exact hu)
   · cases hu
set_option maxRecDepth 100000 in
set_option maxHeartbeats 1600000 in
theorem grow_any (n : Nat) (hn : n ≤ 1000000) (w : World) : Calls Tryz.prog 126 #[.slice none 0 0, .int .i64 (n : Int)] w fun z w' => ∃ v, z = .returned v ∧ w'.ownsRow w.heap.size 58 4 v 0 [] ∧ Below w.heap.size w w' := by
 obtain ⟨i0, hi, hz0, hz1, hz2⟩ := info_parts infoVr
 by_cases h0 : n = 0
 · subst h0
   go_enter Tryz.func126, Tryz.ntmps126
   go_wp2_with fail
   go_ret
   exact ⟨_, rfl, ⟨by simp, .inl ⟨rfl, rfl⟩⟩, Below.refl _ _⟩
 · have happ := Lib.run_append_nil_zeros (P := Tryz.prog) w 46 3 46 58 i0 _ .i64 .i64 Tryz.underlying46 Tryz.underlying3 hi hz0 n (by omega) (by omega) (by omega) (by rw [hz2]; omega)
   have hge := grownCap_ge w n 0 58
   have hle := grownCap_le_maxLen w n 0 58 (by unfold maxLen; omega)
   generalize grownCap w n 0 58 = cap2 at happ hge hle
   generalize hZ : (Builtin.zeroCells (Value.agg #[.string ⟨#[]⟩, .int .i64 0, .int .i64 0, .bool false]).cells n ++ Builtin.zeroCells (Value.agg #[.string ⟨#[]⟩, .int .i64 0, .int .i64 0, .bool false]).cells (cap2 - n)) = Z at happ
   have hZs : Z.size = cap2 * 4 := by rw [← hZ]; simp [size_zeroCells, Value.cells]; omega
   clear hZ
   have h1 : ¬ (n : Int) < 0 := by omega
   have h2 : (0 : Int) < (n : Int) := by omega
   have HR := Lib.hid (show (w.drew.alloc (.cells Z 58)).ownsRow w.heap.size 58 4 (.slice (some ⟨w.heap.size, 0, none⟩) 0 cap2) 0 [] ∧ Below w.heap.size w (w.drew.alloc (.cells Z 58)) from
     ⟨⟨by simp, .inr ⟨w.heap.size, cap2, Z, rfl, Nat.le_refl _, heap_alloc_new w.drew _, by omega, hle, hZs, by simp⟩⟩, (Below.refl _ w).drew.alloc (Nat.le_refl _) _⟩)
   clear hZs h0
   go_enter Tryz.func126, Tryz.ntmps126
   go_wp2_with (at_builtin; refine Lib.wpList_append_run _ rfl _ _ _ _ rfl _ _ rfl rfl _ _ happ ?_)
   go_ret
   exact ⟨_, rfl, HR.out⟩
/- slices.Concat of two lists of variables. -/
open Go.RowKit

theorem own_blk {w : World} {B n size : Nat} {e : TypeId} {v : Value} {xs : List Value} (h : w.ownsRow B e size v n xs) : ∀ j, v.ownBlock = some j → B ≤ j := by
 intro j hj
 rcases h.2 with ⟨rfl, _⟩ | ⟨g, cap, cur, rfl, hg, _⟩
 · cases hj
 · cases hj; exact hg
set_option maxRecDepth 100000 in
set_option maxHeartbeats 6400000 in
theorem concat_any (ps vs : List Vr) (pp pv : Option Addr) (cp cv g N : Nat) (w : World) (hg : w.heap[g]? = some (.cells #[.slice pp ps.length cp, .slice pv vs.length cv] 46 (0, 0))) (h1 : RowIn N (Vr.At w) 4 ps pp) (h2 : RowIn N (Vr.At w) 4 vs pv) (hN : N ≤ w.heap.size) (hs : ps.length + vs.length ≤ 1000) :
   Calls Tryz.prog 100 #[.slice (some ⟨g, 0, none⟩) 2 2] w fun z w' => ∃ p c, z = .returned (.slice p (ps ++ vs).length c) ∧ RowIn w'.heap.size (Vr.At w') 4 (ps ++ vs) p ∧ Below w.heap.size w w' := by
 obtain ⟨i0, hi, hz0, hz1, hz2⟩ := info_parts infoVr
 have c0 : w.cell? ⟨g, 0, none⟩ = some (.slice pp ps.length cp) := cell_blk hg rfl
 have c1 : w.cell? ⟨g, 1, none⟩ = some (.slice pv vs.length cv) := cell_blk hg rfl
 have hw1 : IntKind.i64.wrap (ps.length : Int) = (ps.length : Int) := by simp [IntKind.wrap, IntKind.bits, IntKind.signed]; omega
 have hw2 : IntKind.i64.wrap ((ps.length : Int) + (vs.length : Int)) = (ps.length : Int) + (vs.length : Int) := by simp [IntKind.wrap, IntKind.bits, IntKind.signed]; omega
 have hn0 : ¬ (ps.length : Int) < 0 := by omega
 have hn1 : ¬ (ps.length : Int) + (vs.length : Int) < 0 := by omega
 have HG := Lib.hid hg
 have H1 := Lib.hid h1
 have H2 := Lib.hid h2
 have HGr := Lib.hid (grow_any (ps.length + vs.length) (by omega) w)
 rw [show ((ps.length + vs.length : Nat) : Int) = (ps.length : Int) + (vs.length : Int) by omega] at HGr
 clear hg h1 h2
 go_enter Tryz.func100, Tryz.ntmps100
 go_wp2_with fail
 go_loopw [3, 11] (fun s i wr => ∃ k : Nat, i = .int .i64 k ∧ k ≤ 2 ∧ s = .int .i64 (if k = 0 then 0 else if k = 1 then (ps.length : Int) else (ps.length : Int) + (vs.length : Int)) ∧ wr = w) (fun _ i _ => 2 - (intOf i).toNat)
 case atStart => exact ⟨0, rfl, by omega, rfl, rfl⟩
 case round =>
   obtain ⟨k, rfl, hk, rfl, rfl⟩ := hrel
   rcases (show k = 0 ∨ k = 1 ∨ k = 2 by omega) with rfl | rfl | rfl
   · go_wp2_with fail
     go_roundw
     case rel => exact ⟨1, by go_num, by omega, rfl, trivial⟩
     case measure => simp [intOf]
   · go_wp2_with fail
     go_roundw
     case rel => exact ⟨2, by go_num, by omega, rfl, trivial⟩
     case measure => simp [intOf]
   · go_wp2_with fail
     refine HGr.out.mono ?_
     rintro z w1 ⟨v, rfl, hv, hB⟩
     have HV := Lib.hid hv
     have HB := Lib.hid hB
     clear hv hB c0 c1
     go_wp2_with fail
     obtain ⟨wo, rfl⟩ : ∃ wo : World, wo = wr := ⟨_, rfl⟩
     go_loopw [6, 27] (fun s i wz => ∃ k : Nat, i = .int .i64 k ∧ k ≤ 2 ∧ Hid (wz.ownsRow wo.heap.size 58 4 s (if k = 0 then 0 else if k = 1 then ps.length else ps.length + vs.length) (if k = 0 then [] else if k = 1 then vrCells ps else vrCells ps ++ vrCells vs)) ∧ Hid (Below wo.heap.size wo wz)) (fun _ i _ => 2 - (intOf i).toNat)
     case atStart => exact ⟨0, rfl, by omega, HV, HB⟩
     case round =>
       obtain ⟨k, rfl, hk, hO, hB⟩ := hrel
       have c0 : wr.cell? ⟨g, 0, none⟩ = some (.slice pp ps.length cp) := cell_blk ((hB.out.block _ (lt_blk HG.out)).trans HG.out) rfl
       have c1 : wr.cell? ⟨g, 1, none⟩ = some (.slice pv vs.length cv) := cell_blk ((hB.out.block _ (lt_blk HG.out)).trans HG.out) rfl
       have HS1 := Lib.hid (vr_src (H1.out.imp (Nat.le_refl _) (Vr.At.later (hB.out.mono hN))))
       have HS2 := Lib.hid (vr_src (H2.out.imp (Nat.le_refl _) (Vr.At.later (hB.out.mono hN))))
       rcases (show k = 0 ∨ k = 1 ∨ k = 2 by omega) with rfl | rfl | rfl
       · go_wp2_with (at_builtin; refine wpList_append_src rfl _ _ 46 rfl wo.heap.size 58 i0 _ 4 40 Tryz.underlying46 hi hz0 hz1 hz2 rfl (by decide) _ 0 [] rfl hO.out _ _ _ (vrCells ps) rfl HS1.out (vr_one ps) (by unfold maxLen; omega) (by omega) hB.out.size ?_; intro v' w2 hown hgrow)
         have HX := Lib.hid (And.intro hown (hB.out.grown hgrow hB.out.size (own_blk hO.out)))
         clear hown hgrow c0 c1
         go_wp2_with fail
         go_roundw
         case rel => exact ⟨1, by go_num, by omega, Lib.hid (by simpa using HX.out.1), Lib.hid HX.out.2⟩
         case measure => simp [intOf]
       · have hO1 : wr.ownsRow wo.heap.size 58 4 u6 ps.length (vrCells ps) := hO.out
         go_wp2_with (at_builtin; refine wpList_append_src rfl _ _ 46 rfl wo.heap.size 58 i0 _ 4 40 Tryz.underlying46 hi hz0 hz1 hz2 rfl (by decide) _ ps.length (vrCells ps) rfl hO1 _ _ _ (vrCells vs) rfl HS2.out (vr_one vs) (by unfold maxLen; omega) (by omega) hB.out.size ?_; intro v' w2 hown hgrow)
         have HX := Lib.hid (And.intro hown (hB.out.grown hgrow hB.out.size (own_blk hO.out)))
         clear hown hgrow c0 c1
         go_wp2_with fail
         go_roundw
         case rel => exact ⟨2, by go_num, by omega, Lib.hid (by simpa using HX.out.1), Lib.hid HX.out.2⟩
         case measure => simp [intOf]
       · have hO2 : wr.ownsRow wo.heap.size 58 4 u6 (ps ++ vs).length (vrCells (ps ++ vs)) := by have := hO.out; simpa [vrCells] using this
         obtain ⟨p, c, rfl, hrow⟩ := own_row hO2 (by rw [List.length_append]; omega)
         have HR := Lib.hid hrow
         clear hO2 hrow hO c0 c1
         go_wp2_with fail
         go_ret
         exact ⟨p, c, rfl, HR.out, hB.out⟩
end Go.Proofs.YtihmibggonffdaaGreat
