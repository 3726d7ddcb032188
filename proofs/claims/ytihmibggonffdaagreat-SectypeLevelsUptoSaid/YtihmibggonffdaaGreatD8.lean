/- The document's: has a statement just what its kind has. -/
import Derived.Test.YtihmibggonffdaaGreatD7
import Derived.Test.YtihmibggonffdaaGreatJ9
namespace Go.Proofs.YtihmibggonffdaaGreat
open Go.RowKit

def c4 (k : Int) (a b c : Bool) : Bool := ((!a && ((k == 3) || (k == 4))) || (!b && ((k == 5) || (k == 6)))) || (!c && (k != 2))
def c6 (k : Int) (s l h : Bool) : Bool := (s && (k != 6)) || ((l || h) && (k != 5))
def r8 (k : Int) (b l : Bool) : Bool := (((b || (k == 3)) || (k == 4)) || (k == 5)) && (l || (k == 3))
theorem own_k (k : Int) (h1 : 1 ≤ k) (h6 : k ≤ 6) (nm : List UInt8) (nl : Nat) (e a : Bool) (gl lo hi bl ll : Nat) :
   ownK k nm nl e a gl lo hi bl ll = (!c4 k nm.isEmpty e a && (!c6 k (decide ((0 : Int) < (gl : Int) + (nl : Int))) ((lo : Int) != 0) ((hi : Int) != 0) && r8 k ((bl : Int) == 0) ((ll : Int) == 0))) := by
 have hs : decide ((0 : Int) < (gl : Int) + (nl : Int)) = !(((nl : Int) == 0) && ((gl : Int) == 0)) := by
   rw [Bool.eq_iff_iff]; simp; omega
 rw [hs]
 unfold ownK zstB c4 c6 r8
 simp only [bne]
 rcases (show k = 1 ∨ k = 2 ∨ k = 3 ∨ k = 4 ∨ k = 5 ∨ k = 6 by omega) with rfl | rfl | rfl | rfl | rfl | rfl
 all_goals
   generalize nm.isEmpty = t1
   generalize ((nl : Int) == 0) = t2
   generalize ((gl : Int) == 0) = t3
   generalize ((lo : Int) == 0) = t4
   generalize ((hi : Int) == 0) = t5
   generalize ((bl : Int) == 0) = t6
   generalize ((ll : Int) == 0) = t7
   cases t1 <;> cases t2 <;> cases t3 <;> cases t4 <;> cases t5 <;> cases t6 <;> cases t7 <;> cases e <;> cases a <;> rfl
theorem own_out (k : Int) (h : k < 1 ∨ 6 < k) (nm : List UInt8) (nl : Nat) (e a : Bool) (gl lo hi bl ll : Nat) : ownK k nm nl e a gl lo hi bl ll = false := by
 unfold ownK
 rw [if_neg (by omega), if_neg (by omega), if_neg (by omega), if_neg (by omega), if_neg (by omega), if_neg (by omega)]
set_option maxRecDepth 100000 in
set_option maxHeartbeats 12800000 in
theorem rshape_any (x : St) (s : StP) (N : Nat) (w : World) (h : x.Ok w N s) :
   Calls Tryz.prog 117 #[.agg (x.cells s)] w fun z w' => z = .returned (.bool (ownP x)) ∧ Below w.heap.size w w' := by
 have hln := h.1.2.1
 have hlg := h.2.2.2.1.1
 clear h
 obtain ⟨k, nm, ns, ⟨eo, ew, en, ea⟩, ⟨ao, aw, an, aa⟩, gs, lo, hi, bd, el⟩ := x
 obtain ⟨pn, pe, pa, pg, pb, pl, cn, ce, ca, cg, cb, cl⟩ := s
 have HZE := Lib.hid (fun W => nothing_any (.mk eo ew en ea) pe ce W)
 have HZA := Lib.hid (fun W => nothing_any (.mk ao aw an aa) pa ca W)
 unfold Ex.val Ex.isZ at HZE HZA
 unfold St.cells ownP
 simp only [St.kind, St.name, St.names, St.e, St.a, St.args, St.low, St.high, St.body, St.els, Ex.op, Ex.word, Ex.name, Ex.args] at hln hlg HZE HZA ⊢
 rw [show ((eo == 0) && (((ew : Nat) : Int) == 0) && en.isEmpty && (((ea.len : Nat) : Int) == 0)) = zexB eo ew en ea.len from rfl] at HZE
 rw [show ((ao == 0) && (((aw : Nat) : Int) == 0) && an.isEmpty && (((aa.len : Nat) : Int) == 0)) = zexB ao aw an aa.len from rfl] at HZA
 generalize zexB eo ew en ea.len = zE at HZE ⊢
 generalize zexB ao aw an aa.len = zA at HZA ⊢
 generalize ns.length = nl at hln ⊢
 generalize ea.len = eal at HZE ⊢
 generalize aa.len = aal at HZA ⊢
 generalize gs.len = gl at hlg ⊢
 generalize bd.len = bl
 generalize el.len = ll
 have hsum : IntKind.i64.wrap ((gl : Int) + (nl : Int)) = (gl : Int) + (nl : Int) := by simp [IntKind.wrap, IntKind.bits, IntKind.signed]; omega
 obtain ⟨W0, hW0, k0, hB0, hz0⟩ := one_alloc w (.cells #[.int .i64 k, .string (str nm), .slice pn nl cn, .int .i64 eo, .int .u64 (ew : Int), .string (str en), .slice pe eal ce, .int .i64 ao, .int .u64 (aw : Int), .string (str an), .slice pa aal ca, .slice pg gl cg, .int .u64 (lo : Int), .int .u64 (hi : Int), .slice pb bl cb, .slice pl ll cl] 45)
 have HU := Lib.hid (fun (W : World) (hB : Below W0.heap.size W0 W) => show Below w.heap.size w W from hB0.trans (hB.mono (by omega)))
 have HW0 := Lib.hid hW0
 have c0 : W0.cell? ⟨w.heap.size, 0, none⟩ = some (.int .i64 k) := cell_blk k0 rfl
 by_cases hlo : k < 1
 · have HV := Lib.hid (own_out k (.inl hlo) nm nl zE zA gl lo hi bl ll)
   have HB := Lib.hid hB0
   have e1 : decide (k < 1) = true := decide_eq_true hlo
   clear k0 hB0 hz0 hlo HZE HZA
   go_enter Tryz.func117, Tryz.ntmps117
   go_wp2_with fail
   go_ret
   exact ⟨ret_bool HV.out.symm, HB.out⟩
 by_cases hhi : 6 < k
 · have HV := Lib.hid (own_out k (.inr hhi) nm nl zE zA gl lo hi bl ll)
   have HB := Lib.hid hB0
   have e1 : decide (k < 1) = false := decide_eq_false hlo
   have e2 : decide (6 < k) = true := decide_eq_true hhi
   clear k0 hB0 hz0 hlo hhi HZE HZA
   go_enter Tryz.func117, Tryz.ntmps117
   go_wp2_with fail
   go_ret
   exact ⟨ret_bool HV.out.symm, HB.out⟩
 have HP := Lib.hid (own_k k (by omega) (by omega) nm nl zE zA gl lo hi bl ll)
 have HS := Lib.hid (fun (W : World) (hB : Below W0.heap.size W0 W) => show W.cell? ⟨w.heap.size, 1, none⟩ = some (.string (str nm)) ∧ W.cell? ⟨w.heap.size, 2, none⟩ = some (.slice pn nl cn) ∧ W.cell? ⟨w.heap.size, 3, none⟩ = some (.int .i64 eo) ∧ W.cell? ⟨w.heap.size, 4, none⟩ = some (.int .u64 (ew : Int)) ∧ W.cell? ⟨w.heap.size, 5, none⟩ = some (.string (str en)) ∧ W.cell? ⟨w.heap.size, 6, none⟩ = some (.slice pe eal ce) ∧ W.cell? ⟨w.heap.size, 7, none⟩ = some (.int .i64 ao) ∧ W.cell? ⟨w.heap.size, 8, none⟩ = some (.int .u64 (aw : Int)) ∧ W.cell? ⟨w.heap.size, 9, none⟩ = some (.string (str an)) ∧ W.cell? ⟨w.heap.size, 10, none⟩ = some (.slice pa aal ca) ∧ W.cell? ⟨w.heap.size, 11, none⟩ = some (.slice pg gl cg) ∧ W.cell? ⟨w.heap.size, 12, none⟩ = some (.int .u64 (lo : Int)) ∧ W.cell? ⟨w.heap.size, 13, none⟩ = some (.int .u64 (hi : Int)) ∧ W.cell? ⟨w.heap.size, 14, none⟩ = some (.slice pb bl cb) ∧ W.cell? ⟨w.heap.size, 15, none⟩ = some (.slice pl ll cl) from by
   have hk := (hB.block _ (lt_blk k0)).trans k0
   exact ⟨cell_blk hk rfl, cell_blk hk rfl, cell_blk hk rfl, cell_blk hk rfl, cell_blk hk rfl, cell_blk hk rfl, cell_blk hk rfl, cell_blk hk rfl, cell_blk hk rfl, cell_blk hk rfl, cell_blk hk rfl, cell_blk hk rfl, cell_blk hk rfl, cell_blk hk rfl, cell_blk hk rfl⟩)
 have hk6 : k = 1 ∨ k = 2 ∨ k = 3 ∨ k = 4 ∨ k = 5 ∨ k = 6 := by omega
 have e3 : (str nm).toList.isEmpty = nm.isEmpty := by rw [Lib.toList_data, str_data]
 generalize nm.isEmpty = tn at e3 HP
 generalize e4 : decide ((0 : Int) < (gl : Int) + (nl : Int)) = ts at HP
 generalize e5 : ((lo : Int) != 0) = tl at HP
 generalize e6 : ((hi : Int) != 0) = th at HP
 generalize e7 : ((bl : Int) == 0) = tb at HP
 generalize e8 : ((ll : Int) == 0) = te at HP
 generalize ownK k nm nl zE zA gl lo hi bl ll = res at HP ⊢
 clear k0 hB0 hz0 hlo hhi hln hlg hW0
 rcases hk6 with rfl | rfl | rfl | rfl | rfl | rfl
 · go_enter Tryz.func117, Tryz.ntmps117
   go_upto_region 1 with fail
   rw [HW0.out]
   obtain ⟨a1, a2, a3, a4, a5, a6, a7, a8, a9, a10, a11, a12, a13, a14, a15⟩ := HS.out _ (Below.refl _ _)
   clear HW0
   go_upto_region 4 with fail
   clear c0
   go_cut [46] from 12 to 45 (fun s46 wx => s46 = .bool (c4 1 tn zE zA) ∧ Hid (Below W0.heap.size W0 wx))
   case first =>
     have HB0 := Lib.hid (Below.refl W0.heap.size W0)
     cases tn
     · skip
       cases zE
       · skip
         go_wp2_with fail
         refine (HZE.out _).mono ?_
         rintro z w2 ⟨rfl, hB1⟩
         clear a1 a2 a3 a4 a5 a6 a7 a8 a9 a10 a11 a12 a13 a14 a15
         have HB1 := Lib.hid (HB0.out.trans (hB1.mono HB0.out.size))
         clear hB1
         obtain ⟨a1, a2, a3, a4, a5, a6, a7, a8, a9, a10, a11, a12, a13, a14, a15⟩ := HS.out _ HB1.out
         cases zA
         · skip
           go_wp2_with fail
           refine (HZA.out _).mono ?_
           rintro z w3 ⟨rfl, hB2⟩
           clear a1 a2 a3 a4 a5 a6 a7 a8 a9 a10 a11 a12 a13 a14 a15
           have HB2 := Lib.hid (HB1.out.trans (hB2.mono HB1.out.size))
           clear hB2
           obtain ⟨a1, a2, a3, a4, a5, a6, a7, a8, a9, a10, a11, a12, a13, a14, a15⟩ := HS.out _ HB2.out
           go_wp2_with fail
           go_meet
           exact ⟨rfl, HB2⟩
         · skip
           go_wp2_with fail
           refine (HZA.out _).mono ?_
           rintro z w3 ⟨rfl, hB2⟩
           clear a1 a2 a3 a4 a5 a6 a7 a8 a9 a10 a11 a12 a13 a14 a15
           have HB2 := Lib.hid (HB1.out.trans (hB2.mono HB1.out.size))
           clear hB2
           obtain ⟨a1, a2, a3, a4, a5, a6, a7, a8, a9, a10, a11, a12, a13, a14, a15⟩ := HS.out _ HB2.out
           go_wp2_with fail
           go_meet
           exact ⟨rfl, HB2⟩
       · skip
         go_wp2_with fail
         refine (HZE.out _).mono ?_
         rintro z w2 ⟨rfl, hB1⟩
         clear a1 a2 a3 a4 a5 a6 a7 a8 a9 a10 a11 a12 a13 a14 a15
         have HB1 := Lib.hid (HB0.out.trans (hB1.mono HB0.out.size))
         clear hB1
         obtain ⟨a1, a2, a3, a4, a5, a6, a7, a8, a9, a10, a11, a12, a13, a14, a15⟩ := HS.out _ HB1.out
         cases zA
         · skip
           go_wp2_with fail
           refine (HZA.out _).mono ?_
           rintro z w3 ⟨rfl, hB2⟩
           clear a1 a2 a3 a4 a5 a6 a7 a8 a9 a10 a11 a12 a13 a14 a15
           have HB2 := Lib.hid (HB1.out.trans (hB2.mono HB1.out.size))
           clear hB2
           obtain ⟨a1, a2, a3, a4, a5, a6, a7, a8, a9, a10, a11, a12, a13, a14, a15⟩ := HS.out _ HB2.out
           go_wp2_with fail
           go_meet
           exact ⟨rfl, HB2⟩
         · skip
           go_wp2_with fail
           refine (HZA.out _).mono ?_
           rintro z w3 ⟨rfl, hB2⟩
           clear a1 a2 a3 a4 a5 a6 a7 a8 a9 a10 a11 a12 a13 a14 a15
           have HB2 := Lib.hid (HB1.out.trans (hB2.mono HB1.out.size))
           clear hB2
           obtain ⟨a1, a2, a3, a4, a5, a6, a7, a8, a9, a10, a11, a12, a13, a14, a15⟩ := HS.out _ HB2.out
           go_wp2_with fail
           go_meet
           exact ⟨rfl, HB2⟩
     · skip
       cases zE
       · skip
         go_wp2_with fail
         refine (HZE.out _).mono ?_
         rintro z w2 ⟨rfl, hB1⟩
         clear a1 a2 a3 a4 a5 a6 a7 a8 a9 a10 a11 a12 a13 a14 a15
         have HB1 := Lib.hid (HB0.out.trans (hB1.mono HB0.out.size))
         clear hB1
         obtain ⟨a1, a2, a3, a4, a5, a6, a7, a8, a9, a10, a11, a12, a13, a14, a15⟩ := HS.out _ HB1.out
         cases zA
         · skip
           go_wp2_with fail
           refine (HZA.out _).mono ?_
           rintro z w3 ⟨rfl, hB2⟩
           clear a1 a2 a3 a4 a5 a6 a7 a8 a9 a10 a11 a12 a13 a14 a15
           have HB2 := Lib.hid (HB1.out.trans (hB2.mono HB1.out.size))
           clear hB2
           obtain ⟨a1, a2, a3, a4, a5, a6, a7, a8, a9, a10, a11, a12, a13, a14, a15⟩ := HS.out _ HB2.out
           go_wp2_with fail
           go_meet
           exact ⟨rfl, HB2⟩
         · skip
           go_wp2_with fail
           refine (HZA.out _).mono ?_
           rintro z w3 ⟨rfl, hB2⟩
           clear a1 a2 a3 a4 a5 a6 a7 a8 a9 a10 a11 a12 a13 a14 a15
           have HB2 := Lib.hid (HB1.out.trans (hB2.mono HB1.out.size))
           clear hB2
           obtain ⟨a1, a2, a3, a4, a5, a6, a7, a8, a9, a10, a11, a12, a13, a14, a15⟩ := HS.out _ HB2.out
           go_wp2_with fail
           go_meet
           exact ⟨rfl, HB2⟩
       · skip
         go_wp2_with fail
         refine (HZE.out _).mono ?_
         rintro z w2 ⟨rfl, hB1⟩
         clear a1 a2 a3 a4 a5 a6 a7 a8 a9 a10 a11 a12 a13 a14 a15
         have HB1 := Lib.hid (HB0.out.trans (hB1.mono HB0.out.size))
         clear hB1
         obtain ⟨a1, a2, a3, a4, a5, a6, a7, a8, a9, a10, a11, a12, a13, a14, a15⟩ := HS.out _ HB1.out
         cases zA
         · skip
           go_wp2_with fail
           refine (HZA.out _).mono ?_
           rintro z w3 ⟨rfl, hB2⟩
           clear a1 a2 a3 a4 a5 a6 a7 a8 a9 a10 a11 a12 a13 a14 a15
           have HB2 := Lib.hid (HB1.out.trans (hB2.mono HB1.out.size))
           clear hB2
           obtain ⟨a1, a2, a3, a4, a5, a6, a7, a8, a9, a10, a11, a12, a13, a14, a15⟩ := HS.out _ HB2.out
           go_wp2_with fail
           go_meet
           exact ⟨rfl, HB2⟩
         · skip
           go_wp2_with fail
           refine (HZA.out _).mono ?_
           rintro z w3 ⟨rfl, hB2⟩
           clear a1 a2 a3 a4 a5 a6 a7 a8 a9 a10 a11 a12 a13 a14 a15
           have HB2 := Lib.hid (HB1.out.trans (hB2.mono HB1.out.size))
           clear hB2
           obtain ⟨a1, a2, a3, a4, a5, a6, a7, a8, a9, a10, a11, a12, a13, a14, a15⟩ := HS.out _ HB2.out
           go_wp2_with fail
           go_meet
           exact ⟨rfl, HB2⟩
   case rest =>
   obtain ⟨rfl, HBa⟩ := hcut
   clear a1 a2 a3 a4 a5 a6 a7 a8 a9 a10 a11 a12 a13 a14 a15
   obtain ⟨a1, a2, a3, a4, a5, a6, a7, a8, a9, a10, a11, a12, a13, a14, a15⟩ := HS.out _ HBa.out
   clear e3 HZE HZA
   generalize c4 1 tn zE zA = C4 at HP ⊢
   cases C4
   rotate_left
   · have HV := Lib.hid (show false = res by rw [HP.out]; rfl)
     go_wp2_with fail
     go_ret
     exact ⟨ret_bool HV.out, HU.out _ HBa.out⟩
   go_upto_region 6 with fail
   go_cut [72] from 47 to 71 (fun s72 wx => s72 = .bool (c6 1 ts tl th) ∧ Hid (wx = wc))
   case first =>
     cases ts <;> cases tl <;> cases th <;> (go_wp2_with fail; go_meet; exact ⟨rfl, Lib.hid rfl⟩)
   case rest =>
   obtain ⟨rfl, hwx⟩ := hcut
   obtain rfl := hwx.out
   generalize c6 1 ts tl th = C6 at HP ⊢
   cases C6
   rotate_left
   · have HV := Lib.hid (show false = res by rw [HP.out]; rfl)
     go_wp2_with fail
     go_ret
     exact ⟨ret_bool HV.out, HU.out _ HBa.out⟩
   cases tb <;> cases te <;>
   · have HV := Lib.hid (show _ = res from HP.out.symm)
     go_wp2_with fail
     go_ret
     exact ⟨ret_bool HV.out, HU.out _ HBa.out⟩
 · go_enter Tryz.func117, Tryz.ntmps117
   go_upto_region 1 with fail
   rw [HW0.out]
   obtain ⟨a1, a2, a3, a4, a5, a6, a7, a8, a9, a10, a11, a12, a13, a14, a15⟩ := HS.out _ (Below.refl _ _)
   clear HW0
   go_upto_region 4 with fail
   clear c0
   go_cut [46] from 12 to 45 (fun s46 wx => s46 = .bool (c4 2 tn zE zA) ∧ Hid (Below W0.heap.size W0 wx))
   case first =>
     have HB0 := Lib.hid (Below.refl W0.heap.size W0)
     cases tn
     · skip
       cases zE
       · skip
         go_wp2_with fail
         refine (HZE.out _).mono ?_
         rintro z w2 ⟨rfl, hB1⟩
         clear a1 a2 a3 a4 a5 a6 a7 a8 a9 a10 a11 a12 a13 a14 a15
         have HB1 := Lib.hid (HB0.out.trans (hB1.mono HB0.out.size))
         clear hB1
         obtain ⟨a1, a2, a3, a4, a5, a6, a7, a8, a9, a10, a11, a12, a13, a14, a15⟩ := HS.out _ HB1.out
         cases zA
         · skip
           go_wp2_with fail
           refine (HZA.out _).mono ?_
           rintro z w3 ⟨rfl, hB2⟩
           clear a1 a2 a3 a4 a5 a6 a7 a8 a9 a10 a11 a12 a13 a14 a15
           have HB2 := Lib.hid (HB1.out.trans (hB2.mono HB1.out.size))
           clear hB2
           obtain ⟨a1, a2, a3, a4, a5, a6, a7, a8, a9, a10, a11, a12, a13, a14, a15⟩ := HS.out _ HB2.out
           go_wp2_with fail
           go_meet
           exact ⟨rfl, HB2⟩
         · skip
           go_wp2_with fail
           refine (HZA.out _).mono ?_
           rintro z w3 ⟨rfl, hB2⟩
           clear a1 a2 a3 a4 a5 a6 a7 a8 a9 a10 a11 a12 a13 a14 a15
           have HB2 := Lib.hid (HB1.out.trans (hB2.mono HB1.out.size))
           clear hB2
           obtain ⟨a1, a2, a3, a4, a5, a6, a7, a8, a9, a10, a11, a12, a13, a14, a15⟩ := HS.out _ HB2.out
           go_wp2_with fail
           go_meet
           exact ⟨rfl, HB2⟩
       · skip
         go_wp2_with fail
         refine (HZE.out _).mono ?_
         rintro z w2 ⟨rfl, hB1⟩
         clear a1 a2 a3 a4 a5 a6 a7 a8 a9 a10 a11 a12 a13 a14 a15
         have HB1 := Lib.hid (HB0.out.trans (hB1.mono HB0.out.size))
         clear hB1
         obtain ⟨a1, a2, a3, a4, a5, a6, a7, a8, a9, a10, a11, a12, a13, a14, a15⟩ := HS.out _ HB1.out
         cases zA
         · skip
           go_wp2_with fail
           refine (HZA.out _).mono ?_
           rintro z w3 ⟨rfl, hB2⟩
           clear a1 a2 a3 a4 a5 a6 a7 a8 a9 a10 a11 a12 a13 a14 a15
           have HB2 := Lib.hid (HB1.out.trans (hB2.mono HB1.out.size))
           clear hB2
           obtain ⟨a1, a2, a3, a4, a5, a6, a7, a8, a9, a10, a11, a12, a13, a14, a15⟩ := HS.out _ HB2.out
           go_wp2_with fail
           go_meet
           exact ⟨rfl, HB2⟩
         · skip
           go_wp2_with fail
           refine (HZA.out _).mono ?_
           rintro z w3 ⟨rfl, hB2⟩
           clear a1 a2 a3 a4 a5 a6 a7 a8 a9 a10 a11 a12 a13 a14 a15
           have HB2 := Lib.hid (HB1.out.trans (hB2.mono HB1.out.size))
           clear hB2
           obtain ⟨a1, a2, a3, a4, a5, a6, a7, a8, a9, a10, a11, a12, a13, a14, a15⟩ := HS.out _ HB2.out
           go_wp2_with fail
           go_meet
           exact ⟨rfl, HB2⟩
     · skip
       cases zE
       · skip
         go_wp2_with fail
         refine (HZE.out _).mono ?_
         rintro z w2 ⟨rfl, hB1⟩
         clear a1 a2 a3 a4 a5 a6 a7 a8 a9 a10 a11 a12 a13 a14 a15
         have HB1 := Lib.hid (HB0.out.trans (hB1.mono HB0.out.size))
         clear hB1
         obtain ⟨a1, a2, a3, a4, a5, a6, a7, a8, a9, a10, a11, a12, a13, a14, a15⟩ := HS.out _ HB1.out
         cases zA
         · skip
           go_wp2_with fail
           refine (HZA.out _).mono ?_
           rintro z w3 ⟨rfl, hB2⟩
           clear a1 a2 a3 a4 a5 a6 a7 a8 a9 a10 a11 a12 a13 a14 a15
           have HB2 := Lib.hid (HB1.out.trans (hB2.mono HB1.out.size))
           clear hB2
           obtain ⟨a1, a2, a3, a4, a5, a6, a7, a8, a9, a10, a11, a12, a13, a14, a15⟩ := HS.out _ HB2.out
           go_wp2_with fail
           go_meet
           exact ⟨rfl, HB2⟩
         · skip
           go_wp2_with fail
           refine (HZA.out _).mono ?_
           rintro z w3 ⟨rfl, hB2⟩
           clear a1 a2 a3 a4 a5 a6 a7 a8 a9 a10 a11 a12 a13 a14 a15
           have HB2 := Lib.hid (HB1.out.trans (hB2.mono HB1.out.size))
           clear hB2
           obtain ⟨a1, a2, a3, a4, a5, a6, a7, a8, a9, a10, a11, a12, a13, a14, a15⟩ := HS.out _ HB2.out
           go_wp2_with fail
           go_meet
           exact ⟨rfl, HB2⟩
       · skip
         go_wp2_with fail
         refine (HZE.out _).mono ?_
         rintro z w2 ⟨rfl, hB1⟩
         clear a1 a2 a3 a4 a5 a6 a7 a8 a9 a10 a11 a12 a13 a14 a15
         have HB1 := Lib.hid (HB0.out.trans (hB1.mono HB0.out.size))
         clear hB1
         obtain ⟨a1, a2, a3, a4, a5, a6, a7, a8, a9, a10, a11, a12, a13, a14, a15⟩ := HS.out _ HB1.out
         cases zA
         · skip
           go_wp2_with fail
           refine (HZA.out _).mono ?_
           rintro z w3 ⟨rfl, hB2⟩
           clear a1 a2 a3 a4 a5 a6 a7 a8 a9 a10 a11 a12 a13 a14 a15
           have HB2 := Lib.hid (HB1.out.trans (hB2.mono HB1.out.size))
           clear hB2
           obtain ⟨a1, a2, a3, a4, a5, a6, a7, a8, a9, a10, a11, a12, a13, a14, a15⟩ := HS.out _ HB2.out
           go_wp2_with fail
           go_meet
           exact ⟨rfl, HB2⟩
         · skip
           go_wp2_with fail
           refine (HZA.out _).mono ?_
           rintro z w3 ⟨rfl, hB2⟩
           clear a1 a2 a3 a4 a5 a6 a7 a8 a9 a10 a11 a12 a13 a14 a15
           have HB2 := Lib.hid (HB1.out.trans (hB2.mono HB1.out.size))
           clear hB2
           obtain ⟨a1, a2, a3, a4, a5, a6, a7, a8, a9, a10, a11, a12, a13, a14, a15⟩ := HS.out _ HB2.out
           go_wp2_with fail
           go_meet
           exact ⟨rfl, HB2⟩
   case rest =>
   obtain ⟨rfl, HBa⟩ := hcut
   clear a1 a2 a3 a4 a5 a6 a7 a8 a9 a10 a11 a12 a13 a14 a15
   obtain ⟨a1, a2, a3, a4, a5, a6, a7, a8, a9, a10, a11, a12, a13, a14, a15⟩ := HS.out _ HBa.out
   clear e3 HZE HZA
   generalize c4 2 tn zE zA = C4 at HP ⊢
   cases C4
   rotate_left
   · have HV := Lib.hid (show false = res by rw [HP.out]; rfl)
     go_wp2_with fail
     go_ret
     exact ⟨ret_bool HV.out, HU.out _ HBa.out⟩
   go_upto_region 6 with fail
   go_cut [72] from 47 to 71 (fun s72 wx => s72 = .bool (c6 2 ts tl th) ∧ Hid (wx = wc))
   case first =>
     cases ts <;> cases tl <;> cases th <;> (go_wp2_with fail; go_meet; exact ⟨rfl, Lib.hid rfl⟩)
   case rest =>
   obtain ⟨rfl, hwx⟩ := hcut
   obtain rfl := hwx.out
   generalize c6 2 ts tl th = C6 at HP ⊢
   cases C6
   rotate_left
   · have HV := Lib.hid (show false = res by rw [HP.out]; rfl)
     go_wp2_with fail
     go_ret
     exact ⟨ret_bool HV.out, HU.out _ HBa.out⟩
   cases tb <;> cases te <;>
   · have HV := Lib.hid (show _ = res from HP.out.symm)
     go_wp2_with fail
     go_ret
     exact ⟨ret_bool HV.out, HU.out _ HBa.out⟩
 · go_enter Tryz.func117, Tryz.ntmps117
   go_upto_region 1 with fail
   rw [HW0.out]
   obtain ⟨a1, a2, a3, a4, a5, a6, a7, a8, a9, a10, a11, a12, a13, a14, a15⟩ := HS.out _ (Below.refl _ _)
   clear HW0
   go_upto_region 4 with fail
   clear c0
   go_cut [46] from 12 to 45 (fun s46 wx => s46 = .bool (c4 3 tn zE zA) ∧ Hid (Below W0.heap.size W0 wx))
   case first =>
     have HB0 := Lib.hid (Below.refl W0.heap.size W0)
     cases tn
     · skip
       go_wp2_with fail
       go_meet
       exact ⟨rfl, HB0⟩
     · skip
       cases zE
       · skip
         go_wp2_with fail
         refine (HZE.out _).mono ?_
         rintro z w2 ⟨rfl, hB1⟩
         clear a1 a2 a3 a4 a5 a6 a7 a8 a9 a10 a11 a12 a13 a14 a15
         have HB1 := Lib.hid (HB0.out.trans (hB1.mono HB0.out.size))
         clear hB1
         obtain ⟨a1, a2, a3, a4, a5, a6, a7, a8, a9, a10, a11, a12, a13, a14, a15⟩ := HS.out _ HB1.out
         cases zA
         · skip
           go_wp2_with fail
           refine (HZA.out _).mono ?_
           rintro z w3 ⟨rfl, hB2⟩
           clear a1 a2 a3 a4 a5 a6 a7 a8 a9 a10 a11 a12 a13 a14 a15
           have HB2 := Lib.hid (HB1.out.trans (hB2.mono HB1.out.size))
           clear hB2
           obtain ⟨a1, a2, a3, a4, a5, a6, a7, a8, a9, a10, a11, a12, a13, a14, a15⟩ := HS.out _ HB2.out
           go_wp2_with fail
           go_meet
           exact ⟨rfl, HB2⟩
         · skip
           go_wp2_with fail
           refine (HZA.out _).mono ?_
           rintro z w3 ⟨rfl, hB2⟩
           clear a1 a2 a3 a4 a5 a6 a7 a8 a9 a10 a11 a12 a13 a14 a15
           have HB2 := Lib.hid (HB1.out.trans (hB2.mono HB1.out.size))
           clear hB2
           obtain ⟨a1, a2, a3, a4, a5, a6, a7, a8, a9, a10, a11, a12, a13, a14, a15⟩ := HS.out _ HB2.out
           go_wp2_with fail
           go_meet
           exact ⟨rfl, HB2⟩
       · skip
         go_wp2_with fail
         refine (HZE.out _).mono ?_
         rintro z w2 ⟨rfl, hB1⟩
         clear a1 a2 a3 a4 a5 a6 a7 a8 a9 a10 a11 a12 a13 a14 a15
         have HB1 := Lib.hid (HB0.out.trans (hB1.mono HB0.out.size))
         clear hB1
         obtain ⟨a1, a2, a3, a4, a5, a6, a7, a8, a9, a10, a11, a12, a13, a14, a15⟩ := HS.out _ HB1.out
         cases zA
         · skip
           go_wp2_with fail
           refine (HZA.out _).mono ?_
           rintro z w3 ⟨rfl, hB2⟩
           clear a1 a2 a3 a4 a5 a6 a7 a8 a9 a10 a11 a12 a13 a14 a15
           have HB2 := Lib.hid (HB1.out.trans (hB2.mono HB1.out.size))
           clear hB2
           obtain ⟨a1, a2, a3, a4, a5, a6, a7, a8, a9, a10, a11, a12, a13, a14, a15⟩ := HS.out _ HB2.out
           go_wp2_with fail
           go_meet
           exact ⟨rfl, HB2⟩
         · skip
           go_wp2_with fail
           refine (HZA.out _).mono ?_
           rintro z w3 ⟨rfl, hB2⟩
           clear a1 a2 a3 a4 a5 a6 a7 a8 a9 a10 a11 a12 a13 a14 a15
           have HB2 := Lib.hid (HB1.out.trans (hB2.mono HB1.out.size))
           clear hB2
           obtain ⟨a1, a2, a3, a4, a5, a6, a7, a8, a9, a10, a11, a12, a13, a14, a15⟩ := HS.out _ HB2.out
           go_wp2_with fail
           go_meet
           exact ⟨rfl, HB2⟩
   case rest =>
   obtain ⟨rfl, HBa⟩ := hcut
   clear a1 a2 a3 a4 a5 a6 a7 a8 a9 a10 a11 a12 a13 a14 a15
   obtain ⟨a1, a2, a3, a4, a5, a6, a7, a8, a9, a10, a11, a12, a13, a14, a15⟩ := HS.out _ HBa.out
   clear e3 HZE HZA
   generalize c4 3 tn zE zA = C4 at HP ⊢
   cases C4
   rotate_left
   · have HV := Lib.hid (show false = res by rw [HP.out]; rfl)
     go_wp2_with fail
     go_ret
     exact ⟨ret_bool HV.out, HU.out _ HBa.out⟩
   go_upto_region 6 with fail
   go_cut [72] from 47 to 71 (fun s72 wx => s72 = .bool (c6 3 ts tl th) ∧ Hid (wx = wc))
   case first =>
     cases ts <;> cases tl <;> cases th <;> (go_wp2_with fail; go_meet; exact ⟨rfl, Lib.hid rfl⟩)
   case rest =>
   obtain ⟨rfl, hwx⟩ := hcut
   obtain rfl := hwx.out
   generalize c6 3 ts tl th = C6 at HP ⊢
   cases C6
   rotate_left
   · have HV := Lib.hid (show false = res by rw [HP.out]; rfl)
     go_wp2_with fail
     go_ret
     exact ⟨ret_bool HV.out, HU.out _ HBa.out⟩
   cases tb <;> cases te <;>
   · have HV := Lib.hid (show _ = res from HP.out.symm)
     go_wp2_with fail
     go_ret
     exact ⟨ret_bool HV.out, HU.out _ HBa.out⟩
 · go_enter Tryz.func117, Tryz.ntmps117
   go_upto_region 1 with fail
   rw [HW0.out]
   obtain ⟨a1, a2, a3, a4, a5, a6, a7, a8, a9, a10, a11, a12, a13, a14, a15⟩ := HS.out _ (Below.refl _ _)
   clear HW0
   go_upto_region 4 with fail
   clear c0
   go_cut [46] from 12 to 45 (fun s46 wx => s46 = .bool (c4 4 tn zE zA) ∧ Hid (Below W0.heap.size W0 wx))
   case first =>
     have HB0 := Lib.hid (Below.refl W0.heap.size W0)
     cases tn
     · skip
       go_wp2_with fail
       go_meet
       exact ⟨rfl, HB0⟩
     · skip
       cases zE
       · skip
         go_wp2_with fail
         refine (HZE.out _).mono ?_
         rintro z w2 ⟨rfl, hB1⟩
         clear a1 a2 a3 a4 a5 a6 a7 a8 a9 a10 a11 a12 a13 a14 a15
         have HB1 := Lib.hid (HB0.out.trans (hB1.mono HB0.out.size))
         clear hB1
         obtain ⟨a1, a2, a3, a4, a5, a6, a7, a8, a9, a10, a11, a12, a13, a14, a15⟩ := HS.out _ HB1.out
         cases zA
         · skip
           go_wp2_with fail
           refine (HZA.out _).mono ?_
           rintro z w3 ⟨rfl, hB2⟩
           clear a1 a2 a3 a4 a5 a6 a7 a8 a9 a10 a11 a12 a13 a14 a15
           have HB2 := Lib.hid (HB1.out.trans (hB2.mono HB1.out.size))
           clear hB2
           obtain ⟨a1, a2, a3, a4, a5, a6, a7, a8, a9, a10, a11, a12, a13, a14, a15⟩ := HS.out _ HB2.out
           go_wp2_with fail
           go_meet
           exact ⟨rfl, HB2⟩
         · skip
           go_wp2_with fail
           refine (HZA.out _).mono ?_
           rintro z w3 ⟨rfl, hB2⟩
           clear a1 a2 a3 a4 a5 a6 a7 a8 a9 a10 a11 a12 a13 a14 a15
           have HB2 := Lib.hid (HB1.out.trans (hB2.mono HB1.out.size))
           clear hB2
           obtain ⟨a1, a2, a3, a4, a5, a6, a7, a8, a9, a10, a11, a12, a13, a14, a15⟩ := HS.out _ HB2.out
           go_wp2_with fail
           go_meet
           exact ⟨rfl, HB2⟩
       · skip
         go_wp2_with fail
         refine (HZE.out _).mono ?_
         rintro z w2 ⟨rfl, hB1⟩
         clear a1 a2 a3 a4 a5 a6 a7 a8 a9 a10 a11 a12 a13 a14 a15
         have HB1 := Lib.hid (HB0.out.trans (hB1.mono HB0.out.size))
         clear hB1
         obtain ⟨a1, a2, a3, a4, a5, a6, a7, a8, a9, a10, a11, a12, a13, a14, a15⟩ := HS.out _ HB1.out
         cases zA
         · skip
           go_wp2_with fail
           refine (HZA.out _).mono ?_
           rintro z w3 ⟨rfl, hB2⟩
           clear a1 a2 a3 a4 a5 a6 a7 a8 a9 a10 a11 a12 a13 a14 a15
           have HB2 := Lib.hid (HB1.out.trans (hB2.mono HB1.out.size))
           clear hB2
           obtain ⟨a1, a2, a3, a4, a5, a6, a7, a8, a9, a10, a11, a12, a13, a14, a15⟩ := HS.out _ HB2.out
           go_wp2_with fail
           go_meet
           exact ⟨rfl, HB2⟩
         · skip
           go_wp2_with fail
           refine (HZA.out _).mono ?_
           rintro z w3 ⟨rfl, hB2⟩
           clear a1 a2 a3 a4 a5 a6 a7 a8 a9 a10 a11 a12 a13 a14 a15
           have HB2 := Lib.hid (HB1.out.trans (hB2.mono HB1.out.size))
           clear hB2
           obtain ⟨a1, a2, a3, a4, a5, a6, a7, a8, a9, a10, a11, a12, a13, a14, a15⟩ := HS.out _ HB2.out
           go_wp2_with fail
           go_meet
           exact ⟨rfl, HB2⟩
   case rest =>
   obtain ⟨rfl, HBa⟩ := hcut
   clear a1 a2 a3 a4 a5 a6 a7 a8 a9 a10 a11 a12 a13 a14 a15
   obtain ⟨a1, a2, a3, a4, a5, a6, a7, a8, a9, a10, a11, a12, a13, a14, a15⟩ := HS.out _ HBa.out
   clear e3 HZE HZA
   generalize c4 4 tn zE zA = C4 at HP ⊢
   cases C4
   rotate_left
   · have HV := Lib.hid (show false = res by rw [HP.out]; rfl)
     go_wp2_with fail
     go_ret
     exact ⟨ret_bool HV.out, HU.out _ HBa.out⟩
   go_upto_region 6 with fail
   go_cut [72] from 47 to 71 (fun s72 wx => s72 = .bool (c6 4 ts tl th) ∧ Hid (wx = wc))
   case first =>
     cases ts <;> cases tl <;> cases th <;> (go_wp2_with fail; go_meet; exact ⟨rfl, Lib.hid rfl⟩)
   case rest =>
   obtain ⟨rfl, hwx⟩ := hcut
   obtain rfl := hwx.out
   generalize c6 4 ts tl th = C6 at HP ⊢
   cases C6
   rotate_left
   · have HV := Lib.hid (show false = res by rw [HP.out]; rfl)
     go_wp2_with fail
     go_ret
     exact ⟨ret_bool HV.out, HU.out _ HBa.out⟩
   cases tb <;> cases te <;>
   · have HV := Lib.hid (show _ = res from HP.out.symm)
     go_wp2_with fail
     go_ret
     exact ⟨ret_bool HV.out, HU.out _ HBa.out⟩
 · go_enter Tryz.func117, Tryz.ntmps117
   go_upto_region 1 with fail
   rw [HW0.out]
   obtain ⟨a1, a2, a3, a4, a5, a6, a7, a8, a9, a10, a11, a12, a13, a14, a15⟩ := HS.out _ (Below.refl _ _)
   clear HW0
   go_upto_region 4 with fail
   clear c0
   go_cut [46] from 12 to 45 (fun s46 wx => s46 = .bool (c4 5 tn zE zA) ∧ Hid (Below W0.heap.size W0 wx))
   case first =>
     have HB0 := Lib.hid (Below.refl W0.heap.size W0)
     cases tn
     · skip
       cases zE
       · skip
         go_wp2_with fail
         refine (HZE.out _).mono ?_
         rintro z w2 ⟨rfl, hB1⟩
         clear a1 a2 a3 a4 a5 a6 a7 a8 a9 a10 a11 a12 a13 a14 a15
         have HB1 := Lib.hid (HB0.out.trans (hB1.mono HB0.out.size))
         clear hB1
         obtain ⟨a1, a2, a3, a4, a5, a6, a7, a8, a9, a10, a11, a12, a13, a14, a15⟩ := HS.out _ HB1.out
         go_wp2_with fail
         go_meet
         exact ⟨rfl, HB1⟩
       · skip
         go_wp2_with fail
         refine (HZE.out _).mono ?_
         rintro z w2 ⟨rfl, hB1⟩
         clear a1 a2 a3 a4 a5 a6 a7 a8 a9 a10 a11 a12 a13 a14 a15
         have HB1 := Lib.hid (HB0.out.trans (hB1.mono HB0.out.size))
         clear hB1
         obtain ⟨a1, a2, a3, a4, a5, a6, a7, a8, a9, a10, a11, a12, a13, a14, a15⟩ := HS.out _ HB1.out
         cases zA
         · skip
           go_wp2_with fail
           refine (HZA.out _).mono ?_
           rintro z w3 ⟨rfl, hB2⟩
           clear a1 a2 a3 a4 a5 a6 a7 a8 a9 a10 a11 a12 a13 a14 a15
           have HB2 := Lib.hid (HB1.out.trans (hB2.mono HB1.out.size))
           clear hB2
           obtain ⟨a1, a2, a3, a4, a5, a6, a7, a8, a9, a10, a11, a12, a13, a14, a15⟩ := HS.out _ HB2.out
           go_wp2_with fail
           go_meet
           exact ⟨rfl, HB2⟩
         · skip
           go_wp2_with fail
           refine (HZA.out _).mono ?_
           rintro z w3 ⟨rfl, hB2⟩
           clear a1 a2 a3 a4 a5 a6 a7 a8 a9 a10 a11 a12 a13 a14 a15
           have HB2 := Lib.hid (HB1.out.trans (hB2.mono HB1.out.size))
           clear hB2
           obtain ⟨a1, a2, a3, a4, a5, a6, a7, a8, a9, a10, a11, a12, a13, a14, a15⟩ := HS.out _ HB2.out
           go_wp2_with fail
           go_meet
           exact ⟨rfl, HB2⟩
     · skip
       cases zE
       · skip
         go_wp2_with fail
         refine (HZE.out _).mono ?_
         rintro z w2 ⟨rfl, hB1⟩
         clear a1 a2 a3 a4 a5 a6 a7 a8 a9 a10 a11 a12 a13 a14 a15
         have HB1 := Lib.hid (HB0.out.trans (hB1.mono HB0.out.size))
         clear hB1
         obtain ⟨a1, a2, a3, a4, a5, a6, a7, a8, a9, a10, a11, a12, a13, a14, a15⟩ := HS.out _ HB1.out
         go_wp2_with fail
         go_meet
         exact ⟨rfl, HB1⟩
       · skip
         go_wp2_with fail
         refine (HZE.out _).mono ?_
         rintro z w2 ⟨rfl, hB1⟩
         clear a1 a2 a3 a4 a5 a6 a7 a8 a9 a10 a11 a12 a13 a14 a15
         have HB1 := Lib.hid (HB0.out.trans (hB1.mono HB0.out.size))
         clear hB1
         obtain ⟨a1, a2, a3, a4, a5, a6, a7, a8, a9, a10, a11, a12, a13, a14, a15⟩ := HS.out _ HB1.out
         cases zA
         · skip
           go_wp2_with fail
           refine (HZA.out _).mono ?_
           rintro z w3 ⟨rfl, hB2⟩
           clear a1 a2 a3 a4 a5 a6 a7 a8 a9 a10 a11 a12 a13 a14 a15
           have HB2 := Lib.hid (HB1.out.trans (hB2.mono HB1.out.size))
           clear hB2
           obtain ⟨a1, a2, a3, a4, a5, a6, a7, a8, a9, a10, a11, a12, a13, a14, a15⟩ := HS.out _ HB2.out
           go_wp2_with fail
           go_meet
           exact ⟨rfl, HB2⟩
         · skip
           go_wp2_with fail
           refine (HZA.out _).mono ?_
           rintro z w3 ⟨rfl, hB2⟩
           clear a1 a2 a3 a4 a5 a6 a7 a8 a9 a10 a11 a12 a13 a14 a15
           have HB2 := Lib.hid (HB1.out.trans (hB2.mono HB1.out.size))
           clear hB2
           obtain ⟨a1, a2, a3, a4, a5, a6, a7, a8, a9, a10, a11, a12, a13, a14, a15⟩ := HS.out _ HB2.out
           go_wp2_with fail
           go_meet
           exact ⟨rfl, HB2⟩
   case rest =>
   obtain ⟨rfl, HBa⟩ := hcut
   clear a1 a2 a3 a4 a5 a6 a7 a8 a9 a10 a11 a12 a13 a14 a15
   obtain ⟨a1, a2, a3, a4, a5, a6, a7, a8, a9, a10, a11, a12, a13, a14, a15⟩ := HS.out _ HBa.out
   clear e3 HZE HZA
   generalize c4 5 tn zE zA = C4 at HP ⊢
   cases C4
   rotate_left
   · have HV := Lib.hid (show false = res by rw [HP.out]; rfl)
     go_wp2_with fail
     go_ret
     exact ⟨ret_bool HV.out, HU.out _ HBa.out⟩
   go_upto_region 6 with fail
   go_cut [72] from 47 to 71 (fun s72 wx => s72 = .bool (c6 5 ts tl th) ∧ Hid (wx = wc))
   case first =>
     cases ts <;> cases tl <;> cases th <;> (go_wp2_with fail; go_meet; exact ⟨rfl, Lib.hid rfl⟩)
   case rest =>
   obtain ⟨rfl, hwx⟩ := hcut
   obtain rfl := hwx.out
   generalize c6 5 ts tl th = C6 at HP ⊢
   cases C6
   rotate_left
   · have HV := Lib.hid (show false = res by rw [HP.out]; rfl)
     go_wp2_with fail
     go_ret
     exact ⟨ret_bool HV.out, HU.out _ HBa.out⟩
   cases tb <;> cases te <;>
   · have HV := Lib.hid (show _ = res from HP.out.symm)
     go_wp2_with fail
     go_ret
     exact ⟨ret_bool HV.out, HU.out _ HBa.out⟩
 · go_enter Tryz.func117, Tryz.ntmps117
   go_upto_region 1 with fail
   rw [HW0.out]
   obtain ⟨a1, a2, a3, a4, a5, a6, a7, a8, a9, a10, a11, a12, a13, a14, a15⟩ := HS.out _ (Below.refl _ _)
   clear HW0
   go_upto_region 4 with fail
   clear c0
   go_cut [46] from 12 to 45 (fun s46 wx => s46 = .bool (c4 6 tn zE zA) ∧ Hid (Below W0.heap.size W0 wx))
   case first =>
     have HB0 := Lib.hid (Below.refl W0.heap.size W0)
     cases tn
     · skip
       cases zE
       · skip
         go_wp2_with fail
         refine (HZE.out _).mono ?_
         rintro z w2 ⟨rfl, hB1⟩
         clear a1 a2 a3 a4 a5 a6 a7 a8 a9 a10 a11 a12 a13 a14 a15
         have HB1 := Lib.hid (HB0.out.trans (hB1.mono HB0.out.size))
         clear hB1
         obtain ⟨a1, a2, a3, a4, a5, a6, a7, a8, a9, a10, a11, a12, a13, a14, a15⟩ := HS.out _ HB1.out
         go_wp2_with fail
         go_meet
         exact ⟨rfl, HB1⟩
       · skip
         go_wp2_with fail
         refine (HZE.out _).mono ?_
         rintro z w2 ⟨rfl, hB1⟩
         clear a1 a2 a3 a4 a5 a6 a7 a8 a9 a10 a11 a12 a13 a14 a15
         have HB1 := Lib.hid (HB0.out.trans (hB1.mono HB0.out.size))
         clear hB1
         obtain ⟨a1, a2, a3, a4, a5, a6, a7, a8, a9, a10, a11, a12, a13, a14, a15⟩ := HS.out _ HB1.out
         cases zA
         · skip
           go_wp2_with fail
           refine (HZA.out _).mono ?_
           rintro z w3 ⟨rfl, hB2⟩
           clear a1 a2 a3 a4 a5 a6 a7 a8 a9 a10 a11 a12 a13 a14 a15
           have HB2 := Lib.hid (HB1.out.trans (hB2.mono HB1.out.size))
           clear hB2
           obtain ⟨a1, a2, a3, a4, a5, a6, a7, a8, a9, a10, a11, a12, a13, a14, a15⟩ := HS.out _ HB2.out
           go_wp2_with fail
           go_meet
           exact ⟨rfl, HB2⟩
         · skip
           go_wp2_with fail
           refine (HZA.out _).mono ?_
           rintro z w3 ⟨rfl, hB2⟩
           clear a1 a2 a3 a4 a5 a6 a7 a8 a9 a10 a11 a12 a13 a14 a15
           have HB2 := Lib.hid (HB1.out.trans (hB2.mono HB1.out.size))
           clear hB2
           obtain ⟨a1, a2, a3, a4, a5, a6, a7, a8, a9, a10, a11, a12, a13, a14, a15⟩ := HS.out _ HB2.out
           go_wp2_with fail
           go_meet
           exact ⟨rfl, HB2⟩
     · skip
       cases zE
       · skip
         go_wp2_with fail
         refine (HZE.out _).mono ?_
         rintro z w2 ⟨rfl, hB1⟩
         clear a1 a2 a3 a4 a5 a6 a7 a8 a9 a10 a11 a12 a13 a14 a15
         have HB1 := Lib.hid (HB0.out.trans (hB1.mono HB0.out.size))
         clear hB1
         obtain ⟨a1, a2, a3, a4, a5, a6, a7, a8, a9, a10, a11, a12, a13, a14, a15⟩ := HS.out _ HB1.out
         go_wp2_with fail
         go_meet
         exact ⟨rfl, HB1⟩
       · skip
         go_wp2_with fail
         refine (HZE.out _).mono ?_
         rintro z w2 ⟨rfl, hB1⟩
         clear a1 a2 a3 a4 a5 a6 a7 a8 a9 a10 a11 a12 a13 a14 a15
         have HB1 := Lib.hid (HB0.out.trans (hB1.mono HB0.out.size))
         clear hB1
         obtain ⟨a1, a2, a3, a4, a5, a6, a7, a8, a9, a10, a11, a12, a13, a14, a15⟩ := HS.out _ HB1.out
         cases zA
         · skip
           go_wp2_with fail
           refine (HZA.out _).mono ?_
           rintro z w3 ⟨rfl, hB2⟩
           clear a1 a2 a3 a4 a5 a6 a7 a8 a9 a10 a11 a12 a13 a14 a15
           have HB2 := Lib.hid (HB1.out.trans (hB2.mono HB1.out.size))
           clear hB2
           obtain ⟨a1, a2, a3, a4, a5, a6, a7, a8, a9, a10, a11, a12, a13, a14, a15⟩ := HS.out _ HB2.out
           go_wp2_with fail
           go_meet
           exact ⟨rfl, HB2⟩
         · skip
           go_wp2_with fail
           refine (HZA.out _).mono ?_
           rintro z w3 ⟨rfl, hB2⟩
           clear a1 a2 a3 a4 a5 a6 a7 a8 a9 a10 a11 a12 a13 a14 a15
           have HB2 := Lib.hid (HB1.out.trans (hB2.mono HB1.out.size))
           clear hB2
           obtain ⟨a1, a2, a3, a4, a5, a6, a7, a8, a9, a10, a11, a12, a13, a14, a15⟩ := HS.out _ HB2.out
           go_wp2_with fail
           go_meet
           exact ⟨rfl, HB2⟩
   case rest =>
   obtain ⟨rfl, HBa⟩ := hcut
   clear a1 a2 a3 a4 a5 a6 a7 a8 a9 a10 a11 a12 a13 a14 a15
   obtain ⟨a1, a2, a3, a4, a5, a6, a7, a8, a9, a10, a11, a12, a13, a14, a15⟩ := HS.out _ HBa.out
   clear e3 HZE HZA
   generalize c4 6 tn zE zA = C4 at HP ⊢
   cases C4
   rotate_left
   · have HV := Lib.hid (show false = res by rw [HP.out]; rfl)
     go_wp2_with fail
     go_ret
     exact ⟨ret_bool HV.out, HU.out _ HBa.out⟩
   go_upto_region 6 with fail
   go_cut [72] from 47 to 71 (fun s72 wx => s72 = .bool (c6 6 ts tl th) ∧ Hid (wx = wc))
   case first =>
     cases ts <;> cases tl <;> cases th <;> (go_wp2_with fail; go_meet; exact ⟨rfl, Lib.hid rfl⟩)
   case rest =>
   obtain ⟨rfl, hwx⟩ := hcut
   obtain rfl := hwx.out
   generalize c6 6 ts tl th = C6 at HP ⊢
   cases C6
   rotate_left
   · have HV := Lib.hid (show false = res by rw [HP.out]; rfl)
     go_wp2_with fail
     go_ret
     exact ⟨ret_bool HV.out, HU.out _ HBa.out⟩
   cases tb <;> cases te <;>
   · have HV := Lib.hid (show _ = res from HP.out.symm)
     go_wp2_with fail
     go_ret
     exact ⟨ret_bool HV.out, HU.out _ HBa.out⟩
end Go.Proofs.YtihmibggonffdaaGreat
