/- J8, J9 as one. -/
import Derived.Test.YtihmibggonffdaaGreatD2
/- Has a statement all of its parts that are not nothing? -/
namespace Go.Proofs.YtihmibggonffdaaGreat
open Go.RowKit

def zexB (op : Int) (wd : Nat) (nm : List UInt8) (al : Nat) : Bool := (op == 0) && (((wd : Nat) : Int) == 0) && nm.isEmpty && (((al : Nat) : Int) == 0)
set_option maxHeartbeats 800000 in
theorem zeroC_any (op : Int) (wd : Nat) (nm : List UInt8) (p : Option Addr) (al ac b o : Nat) (w : World) (c0 : w.cell? ⟨b, o, none⟩ = some (.int .i64 op)) (c1 : w.cell? ⟨b, o + 1, none⟩ = some (.int .u64 (wd : Int))) (c2 : w.cell? ⟨b, o + 2, none⟩ = some (.string (str nm))) (c3 : w.cell? ⟨b, o + 3, none⟩ = some (.slice p al ac)) :
   Calls Tryz.prog 123 #[.pointer (some ⟨b, o, none⟩)] w fun z w' => z = .returned (.bool (zexB op wd nm al)) ∧ w = w' := by
 have e3 : (str nm).toList.isEmpty = nm.isEmpty := by rw [Lib.toList_data, str_data]
 unfold zexB
 generalize e1 : (op == 0) = t1
 generalize e2 : (((wd : Nat) : Int) == 0) = t2
 generalize nm.isEmpty = t3 at e3
 generalize e4 : (((al : Nat) : Int) == 0) = t4
 cases t1 <;> cases t2 <;> cases t3 <;> cases t4 <;>
 · go_enter Tryz.func123, Tryz.ntmps123
   go_wp2
   go_ret
   exact ⟨rfl, rfl⟩
def stC (k : Int) (nm : List UInt8) (np : Option Addr) (nl nc : Nat) (eo : Int) (ew : Nat) (en : List UInt8) (ep : Option Addr) (el ec : Nat) (ao : Int) (aw : Nat) (an : List UInt8) (ap : Option Addr) (al ac : Nat) (gp : Option Addr) (gl gc : Nat) (lo hi : Nat) (bp : Option Addr) (bl bc : Nat) (lp : Option Addr) (ll lc : Nat) : Array Value :=
 #[.int .i64 k, .string (str nm), .slice np nl nc, .int .i64 eo, .int .u64 (ew : Int), .string (str en), .slice ep el ec, .int .i64 ao, .int .u64 (aw : Int), .string (str an), .slice ap al ac, .slice gp gl gc, .int .u64 (lo : Int), .int .u64 (hi : Int), .slice bp bl bc, .slice lp ll lc]
def zstB (k : Int) (nm : List UInt8) (nl : Nat) (e a : Bool) (gl lo hi bl ll : Nat) : Bool := (k == 0) && (nm.isEmpty && (((nl : Int) == 0) && (e && (a && (((gl : Int) == 0) && (((lo : Int) == 0) && (((hi : Int) == 0) && (((bl : Int) == 0) && ((ll : Int) == 0)))))))))
set_option maxRecDepth 100000 in
set_option maxHeartbeats 12800000 in
theorem zeroS_any (k : Int) (nm : List UInt8) (np : Option Addr) (nl nc : Nat) (eo : Int) (ew : Nat) (en : List UInt8) (ep : Option Addr) (el ec : Nat) (ao : Int) (aw : Nat) (an : List UInt8) (ap : Option Addr) (al ac : Nat) (gp : Option Addr) (gl gc : Nat) (lo hi : Nat) (bp : Option Addr) (bl bc : Nat) (lp : Option Addr) (ll lc : Nat) (g : Nat) (w : World)
   (h : w.heap[g]? = some (.cells (stC k nm np nl nc eo ew en ep el ec ao aw an ap al ac gp gl gc lo hi bp bl bc lp ll lc) 45 (0, 0))) :
   Calls Tryz.prog 128 #[.pointer (some ⟨g, 0, none⟩)] w fun z w' => z = .returned (.bool (zstB k nm nl (zexB eo ew en el) (zexB ao aw an al) gl lo hi bl ll)) ∧ w = w' := by
 unfold stC at h
 have HE := Lib.hid (zeroC_any eo ew en ep el ec g 3 w (cell_blk h rfl) (cell_blk h rfl) (cell_blk h rfl) (cell_blk h rfl))
 have HA := Lib.hid (zeroC_any ao aw an ap al ac g 7 w (cell_blk h rfl) (cell_blk h rfl) (cell_blk h rfl) (cell_blk h rfl))
 have c0 : w.cell? ⟨g, 0, none⟩ = some (.int .i64 k) := cell_blk h rfl
 have c1 : w.cell? ⟨g, 1, none⟩ = some (.string (str nm)) := cell_blk h rfl
 have c2 : w.cell? ⟨g, 2, none⟩ = some (.slice np nl nc) := cell_blk h rfl
 have c11 : w.cell? ⟨g, 11, none⟩ = some (.slice gp gl gc) := cell_blk h rfl
 have c12 : w.cell? ⟨g, 12, none⟩ = some (.int .u64 (lo : Int)) := cell_blk h rfl
 have c13 : w.cell? ⟨g, 13, none⟩ = some (.int .u64 (hi : Int)) := cell_blk h rfl
 have c14 : w.cell? ⟨g, 14, none⟩ = some (.slice bp bl bc) := cell_blk h rfl
 have c15 : w.cell? ⟨g, 15, none⟩ = some (.slice lp ll lc) := cell_blk h rfl
 have e1 : (str nm).toList.isEmpty = nm.isEmpty := by rw [Lib.toList_data, str_data]
 unfold zstB
 generalize zexB eo ew en el = t3 at HE ⊢
 generalize zexB ao aw an al = t4 at HA ⊢
 generalize e0 : (k == 0) = t0
 generalize nm.isEmpty = t1 at e1 ⊢
 generalize e2 : ((nl : Int) == 0) = t2
 generalize e5 : ((gl : Int) == 0) = t5
 generalize e6 : ((lo : Int) == 0) = t6
 generalize e7 : ((hi : Int) == 0) = t7
 generalize e8 : ((bl : Int) == 0) = t8
 generalize e9 : ((ll : Int) == 0) = t9
 clear h
 cases t0
 · go_enter Tryz.func128, Tryz.ntmps128
   go_wp2_with fail
   go_ret
   exact ⟨rfl, rfl⟩
 cases t1
 · go_enter Tryz.func128, Tryz.ntmps128
   go_wp2_with fail
   go_ret
   exact ⟨rfl, rfl⟩
 cases t2
 · go_enter Tryz.func128, Tryz.ntmps128
   go_wp2_with fail
   go_ret
   exact ⟨rfl, rfl⟩
 cases t3
 · go_enter Tryz.func128, Tryz.ntmps128
   go_wp2_with fail
   refine HE.out.mono ?_
   rintro e w' ⟨rfl, rfl⟩
   go_wp2_with fail
   go_ret
   exact ⟨rfl, rfl⟩
 cases t4
 · go_enter Tryz.func128, Tryz.ntmps128
   go_wp2_with fail
   refine HE.out.mono ?_
   rintro e w' ⟨rfl, rfl⟩
   go_wp2_with fail
   refine HA.out.mono ?_
   rintro e w' ⟨rfl, rfl⟩
   go_wp2_with fail
   go_ret
   exact ⟨rfl, rfl⟩
 cases t5
 · go_enter Tryz.func128, Tryz.ntmps128
   go_wp2_with fail
   refine HE.out.mono ?_
   rintro e w' ⟨rfl, rfl⟩
   go_wp2_with fail
   refine HA.out.mono ?_
   rintro e w' ⟨rfl, rfl⟩
   go_wp2_with fail
   go_ret
   exact ⟨rfl, rfl⟩
 cases t6
 · go_enter Tryz.func128, Tryz.ntmps128
   go_wp2_with fail
   refine HE.out.mono ?_
   rintro e w' ⟨rfl, rfl⟩
   go_wp2_with fail
   refine HA.out.mono ?_
   rintro e w' ⟨rfl, rfl⟩
   go_wp2_with fail
   go_ret
   exact ⟨rfl, rfl⟩
 cases t7
 · go_enter Tryz.func128, Tryz.ntmps128
   go_wp2_with fail
   refine HE.out.mono ?_
   rintro e w' ⟨rfl, rfl⟩
   go_wp2_with fail
   refine HA.out.mono ?_
   rintro e w' ⟨rfl, rfl⟩
   go_wp2_with fail
   go_ret
   exact ⟨rfl, rfl⟩
 cases t8
 · go_enter Tryz.func128, Tryz.ntmps128
   go_wp2_with fail
   refine HE.out.mono ?_
   rintro e w' ⟨rfl, rfl⟩
   go_wp2_with fail
   refine HA.out.mono ?_
   rintro e w' ⟨rfl, rfl⟩
   go_wp2_with fail
   go_ret
   exact ⟨rfl, rfl⟩
 cases t9
 · go_enter Tryz.func128, Tryz.ntmps128
   go_wp2_with fail
   refine HE.out.mono ?_
   rintro e w' ⟨rfl, rfl⟩
   go_wp2_with fail
   refine HA.out.mono ?_
   rintro e w' ⟨rfl, rfl⟩
   go_wp2_with fail
   go_ret
   exact ⟨rfl, rfl⟩
 go_enter Tryz.func128, Tryz.ntmps128
 go_wp2_with fail
 refine HE.out.mono ?_
 rintro e w' ⟨rfl, rfl⟩
 go_wp2_with fail
 refine HA.out.mono ?_
 rintro e w' ⟨rfl, rfl⟩
 go_wp2_with fail
 go_ret
 exact ⟨rfl, rfl⟩
/- hasOwnParts. -/
open Go.RowKit

def ownK (k : Int) (nm : List UInt8) (nl : Nat) (e a : Bool) (gl lo hi bl ll : Nat) : Bool :=
 if k = 2 then zstB 0 [] nl true true gl lo hi bl ll
 else if k = 1 then zstB 0 [] nl true a gl lo hi bl ll
 else if k = 3 then zstB 0 nm nl true a gl lo hi 0 0
 else if k = 4 then zstB 0 nm nl true a gl lo hi 0 ll
 else if k = 5 then zstB 0 [] nl e a gl 0 0 0 ll
 else if k = 6 then zstB 0 [] 0 e a 0 lo hi bl ll
 else false
def ownP (x : St) : Bool := ownK x.kind x.name x.names.length (zexB x.e.op x.e.word x.e.name x.e.args.len) (zexB x.a.op x.a.word x.a.name x.a.args.len) x.args.len x.low x.high x.body.len x.els.len
set_option maxRecDepth 100000 in
set_option maxHeartbeats 12800000 in
theorem hasOwn_any (x : St) (s : StP) (w : World) :
   Calls Tryz.prog 103 #[.agg (x.cells s)] w fun z w' => z = .returned (.bool (ownP x)) ∧ Below w.heap.size w w' := by
 obtain ⟨k, nm, ns, ⟨eo, ew, en, ea⟩, ⟨ao, aw, an, aa⟩, gs, lo, hi, bd, el⟩ := x
 obtain ⟨pn, pe, pa, pg, pb, pl, cn, ce, ca, cg, cb, cl⟩ := s
 unfold St.cells ownP
 simp only [St.kind, St.name, St.names, St.e, St.a, St.args, St.low, St.high, St.body, St.els, Ex.op, Ex.word, Ex.name, Ex.args]
 generalize ns.length = nl
 generalize ea.len = eal
 generalize aa.len = aal
 generalize gs.len = gl
 generalize bd.len = bl
 generalize el.len = ll
 have HZ := Lib.hid zeroS_any
 by_cases h2 : k = 2
 · subst h2
   go_enter Tryz.func103, Tryz.ntmps103
   go_wp2_with fail
   have hk := heap_alloc_new w (.cells (stC 0 [] pn nl cn 0 0 [] none 0 0 0 0 [] none 0 0 pg gl cg lo hi pb bl cb pl ll cl) 45)
   refine (HZ.out 0 [] pn nl cn 0 0 [] none 0 0 0 0 [] none 0 0 pg gl cg lo hi pb bl cb pl ll cl _ _ hk).mono ?_
   rintro z w' ⟨rfl, rfl⟩
   go_wp2_with fail
   go_ret
   exact ⟨ret_bool (by simp [ownK, zexB]), (Below.refl _ _).alloc (Nat.le_refl _) _⟩
 by_cases h1 : k = 1
 · subst h1
   go_enter Tryz.func103, Tryz.ntmps103
   go_wp2_with fail
   have hk := heap_alloc_new w (.cells (stC 0 [] pn nl cn 0 0 [] none 0 0 ao aw an pa aal ca pg gl cg lo hi pb bl cb pl ll cl) 45)
   refine (HZ.out 0 [] pn nl cn 0 0 [] none 0 0 ao aw an pa aal ca pg gl cg lo hi pb bl cb pl ll cl _ _ hk).mono ?_
   rintro z w' ⟨rfl, rfl⟩
   go_wp2_with fail
   go_ret
   exact ⟨ret_bool (by simp [ownK, zexB]), (Below.refl _ _).alloc (Nat.le_refl _) _⟩
 by_cases h3 : k = 3
 · subst h3
   go_enter Tryz.func103, Tryz.ntmps103
   go_wp2_with fail
   have hk := heap_alloc_new w (.cells (stC 0 nm pn nl cn 0 0 [] none 0 0 ao aw an pa aal ca pg gl cg lo hi none 0 0 none 0 0) 45)
   refine (HZ.out 0 nm pn nl cn 0 0 [] none 0 0 ao aw an pa aal ca pg gl cg lo hi none 0 0 none 0 0 _ _ hk).mono ?_
   rintro z w' ⟨rfl, rfl⟩
   go_wp2_with fail
   go_ret
   exact ⟨ret_bool (by simp [ownK, zexB]), (Below.refl _ _).alloc (Nat.le_refl _) _⟩
 by_cases h4 : k = 4
 · subst h4
   go_enter Tryz.func103, Tryz.ntmps103
   go_wp2_with fail
   have hk := heap_alloc_new w (.cells (stC 0 nm pn nl cn 0 0 [] none 0 0 ao aw an pa aal ca pg gl cg lo hi none 0 0 pl ll cl) 45)
   refine (HZ.out 0 nm pn nl cn 0 0 [] none 0 0 ao aw an pa aal ca pg gl cg lo hi none 0 0 pl ll cl _ _ hk).mono ?_
   rintro z w' ⟨rfl, rfl⟩
   go_wp2_with fail
   go_ret
   exact ⟨ret_bool (by simp [ownK, zexB]), (Below.refl _ _).alloc (Nat.le_refl _) _⟩
 by_cases h5 : k = 5
 · subst h5
   go_enter Tryz.func103, Tryz.ntmps103
   go_wp2_with fail
   have hk := heap_alloc_new w (.cells (stC 0 [] pn nl cn eo ew en pe eal ce ao aw an pa aal ca pg gl cg 0 0 none 0 0 pl ll cl) 45)
   refine (HZ.out 0 [] pn nl cn eo ew en pe eal ce ao aw an pa aal ca pg gl cg 0 0 none 0 0 pl ll cl _ _ hk).mono ?_
   rintro z w' ⟨rfl, rfl⟩
   go_wp2_with fail
   go_ret
   exact ⟨ret_bool (by simp [ownK, zexB]), (Below.refl _ _).alloc (Nat.le_refl _) _⟩
 by_cases h6 : k = 6
 · subst h6
   go_enter Tryz.func103, Tryz.ntmps103
   go_wp2_with fail
   have hk := heap_alloc_new w (.cells (stC 0 [] none 0 0 eo ew en pe eal ce ao aw an pa aal ca none 0 0 lo hi pb bl cb pl ll cl) 45)
   refine (HZ.out 0 [] none 0 0 eo ew en pe eal ce ao aw an pa aal ca none 0 0 lo hi pb bl cb pl ll cl _ _ hk).mono ?_
   rintro z w' ⟨rfl, rfl⟩
   go_wp2_with fail
   go_ret
   exact ⟨ret_bool (by simp [ownK, zexB]), (Below.refl _ _).alloc (Nat.le_refl _) _⟩
 have e2 : (k == 2) = false := by simp [h2]
 have e1 : (k == 1) = false := by simp [h1]
 have e3 : (k == 3) = false := by simp [h3]
 have e4 : (k == 4) = false := by simp [h4]
 have e5 : (k == 5) = false := by simp [h5]
 have e6 : (k == 6) = false := by simp [h6]
 go_enter Tryz.func103, Tryz.ntmps103
 go_wp2_with fail
 go_ret
 exact ⟨ret_bool (by simp [ownK, h1, h2, h3, h4, h5, h6]), (Below.refl _ _).alloc (Nat.le_refl _) _⟩
end Go.Proofs.YtihmibggonffdaaGreat
