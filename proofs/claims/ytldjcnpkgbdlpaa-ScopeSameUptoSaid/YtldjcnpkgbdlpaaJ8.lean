/- Has a statement all of its parts that are not nothing? -/
import Derived.Test.YtldjcnpkgbdlpaaJ7
namespace Go.Proofs.Ytldjcnpkgbdlpaa
open Go.RowKit

def zexB (op : Int) (wd : Nat) (nm : List UInt8) (al : Nat) : Bool := (op == 0) && (((wd : Nat) : Int) == 0) && nm.isEmpty && (((al : Nat) : Int) == 0)
set_option maxHeartbeats 800000 in
theorem zeroC_any (op : Int) (wd : Nat) (nm : List UInt8) (p : Option Addr) (al ac b o : Nat) (w : World) (c0 : w.cell? ⟨b, o, none⟩ = some (.int .i64 op)) (c1 : w.cell? ⟨b, o + 1, none⟩ = some (.int .u64 (wd : Int))) (c2 : w.cell? ⟨b, o + 2, none⟩ = some (.string (str nm))) (c3 : w.cell? ⟨b, o + 3, none⟩ = some (.slice p al ac)) :
    Calls Try.prog 76 #[.pointer (some ⟨b, o, none⟩)] w fun z w' => z = .returned (.bool (zexB op wd nm al)) ∧ w = w' := by
  have e3 : (str nm).toList.isEmpty = nm.isEmpty := by rw [Lib.toList_data, str_data]
  unfold zexB
  generalize e1 : (op == 0) = t1
  generalize e2 : (((wd : Nat) : Int) == 0) = t2
  generalize nm.isEmpty = t3 at e3
  generalize e4 : (((al : Nat) : Int) == 0) = t4
  cases t1 <;> cases t2 <;> cases t3 <;> cases t4 <;>
  · go_enter Try.func76, Try.ntmps76
    go_wp2
    go_ret
    exact ⟨rfl, rfl⟩
def stC (k : Int) (nm : List UInt8) (np : Option Addr) (nl nc : Nat) (eo : Int) (ew : Nat) (en : List UInt8) (ep : Option Addr) (el ec : Nat) (ao : Int) (aw : Nat) (an : List UInt8) (ap : Option Addr) (al ac : Nat) (gp : Option Addr) (gl gc : Nat) (lo hi : Nat) (bp : Option Addr) (bl bc : Nat) (lp : Option Addr) (ll lc : Nat) : Array Value :=
  #[.int .i64 k, .string (str nm), .slice np nl nc, .int .i64 eo, .int .u64 (ew : Int), .string (str en), .slice ep el ec, .int .i64 ao, .int .u64 (aw : Int), .string (str an), .slice ap al ac, .slice gp gl gc, .int .u64 (lo : Int), .int .u64 (hi : Int), .slice bp bl bc, .slice lp ll lc]
def zstB (k : Int) (nm : List UInt8) (nl : Nat) (e a : Bool) (gl lo hi bl ll : Nat) : Bool := (k == 0) && (nm.isEmpty && (((nl : Int) == 0) && (e && (a && (((gl : Int) == 0) && (((lo : Int) == 0) && (((hi : Int) == 0) && (((bl : Int) == 0) && ((ll : Int) == 0)))))))))
set_option maxRecDepth 100000 in
set_option maxHeartbeats 12800000 in
theorem zeroS_any (k : Int) (nm : List UInt8) (np : Option Addr) (nl nc : Nat) (eo : Int) (ew : Nat) (en : List UInt8) (ep : Option Addr) (el ec : Nat) (ao : Int) (aw : Nat) (an : List UInt8) (ap : Option Addr) (al ac : Nat) (gp : Option Addr) (gl gc : Nat) (lo hi : Nat) (bp : Option Addr) (bl bc : Nat) (lp : Option Addr) (ll lc : Nat) (g : Nat) (w : World)
    (h : w.heap[g]? = some (.cells (stC k nm np nl nc eo ew en ep el ec ao aw an ap al ac gp gl gc lo hi bp bl bc lp ll lc) 49 (0, 0))) :
    Calls Try.prog 79 #[.pointer (some ⟨g, 0, none⟩)] w fun z w' => z = .returned (.bool (zstB k nm nl (zexB eo ew en el) (zexB ao aw an al) gl lo hi bl ll)) ∧ w = w' := by
  unfold stC at h
  have HE := Lib.hid (zeroC_any eo ew en ep el ec g 3 w (cell_blk h rfl) (cell_blk h rfl) (cell_blk h rfl) (cell_blk h rfl))
  have HA := Lib.hid (zeroC_any ao aw an ap al ac g 7 w (cell_blk h rfl) (cell_blk h rfl) (cell_blk h rfl) (cell_blk h rfl))
  have c0 : w.cell? ⟨g, 0, none⟩ = some (.int .i64 k) := cell_blk h rfl
  have c1 : w.cell? ⟨g, 1, none⟩ = some (.string (str nm)) := cell_blk h rfl
  have c2 : w.cell? ⟨g, 2, none⟩ = some (.slice np nl nc) := cell_blk h rfl
  have c11 : w.cell? ⟨g, 11, none⟩ = some (.slice gp gl gc) := cell_blk h rfl
  have c12 : w.cell? ⟨g, 12, none⟩ = some (.int .u64 (lo : Int)) := cell_blk h rfl
  have c13 : w.cell? ⟨g, 13, none⟩ = some (.int .u64 (hi : Int)) := cell_blk h rfl
  have c14 : w.cell? ⟨g, 14, none⟩ = some (.slice bp bl bc) := cell_blk h rfl
  have c15 : w.cell? ⟨g, 15, none⟩ = some (.slice lp ll lc) := cell_blk h rfl
  have e1 : (str nm).toList.isEmpty = nm.isEmpty := by rw [Lib.toList_data, str_data]
  unfold zstB
  generalize zexB eo ew en el = t3 at HE ⊢
  generalize zexB ao aw an al = t4 at HA ⊢
  generalize e0 : (k == 0) = t0
  generalize nm.isEmpty = t1 at e1 ⊢
  generalize e2 : ((nl : Int) == 0) = t2
  generalize e5 : ((gl : Int) == 0) = t5
  generalize e6 : ((lo : Int) == 0) = t6
  generalize e7 : ((hi : Int) == 0) = t7
  generalize e8 : ((bl : Int) == 0) = t8
  generalize e9 : ((ll : Int) == 0) = t9
  clear h
  cases t0
  · go_enter Try.func79, Try.ntmps79
    go_wp2_with fail
    go_ret
    exact ⟨rfl, rfl⟩
  cases t1
  · go_enter Try.func79, Try.ntmps79
    go_wp2_with fail
    go_ret
    exact ⟨rfl, rfl⟩
  cases t2
  · go_enter Try.func79, Try.ntmps79
    go_wp2_with fail
    go_ret
    exact ⟨rfl, rfl⟩
  cases t3
  · go_enter Try.func79, Try.ntmps79
    go_wp2_with fail
    refine HE.out.mono ?_
    rintro e w' ⟨rfl, rfl⟩
    go_wp2_with fail
    go_ret
    exact ⟨rfl, rfl⟩
  cases t4
  · go_enter Try.func79, Try.ntmps79
    go_wp2_with fail
    refine HE.out.mono ?_
    rintro e w' ⟨rfl, rfl⟩
    go_wp2_with fail
    refine HA.out.mono ?_
    rintro e w' ⟨rfl, rfl⟩
    go_wp2_with fail
    go_ret
    exact ⟨rfl, rfl⟩
  cases t5
  · go_enter Try.func79, Try.ntmps79
    go_wp2_with fail
    refine HE.out.mono ?_
    rintro e w' ⟨rfl, rfl⟩
    go_wp2_with fail
    refine HA.out.mono ?_
    rintro e w' ⟨rfl, rfl⟩
    go_wp2_with fail
    go_ret
    exact ⟨rfl, rfl⟩
  cases t6
  · go_enter Try.func79, Try.ntmps79
    go_wp2_with fail
    refine HE.out.mono ?_
    rintro e w' ⟨rfl, rfl⟩
    go_wp2_with fail
    refine HA.out.mono ?_
    rintro e w' ⟨rfl, rfl⟩
    go_wp2_with fail
    go_ret
    exact ⟨rfl, rfl⟩
  cases t7
  · go_enter Try.func79, Try.ntmps79
    go_wp2_with fail
    refine HE.out.mono ?_
    rintro e w' ⟨rfl, rfl⟩
    go_wp2_with fail
    refine HA.out.mono ?_
    rintro e w' ⟨rfl, rfl⟩
    go_wp2_with fail
    go_ret
    exact ⟨rfl, rfl⟩
  cases t8
  · go_enter Try.func79, Try.ntmps79
    go_wp2_with fail
    refine HE.out.mono ?_
    rintro e w' ⟨rfl, rfl⟩
    go_wp2_with fail
    refine HA.out.mono ?_
    rintro e w' ⟨rfl, rfl⟩
    go_wp2_with fail
    go_ret
    exact ⟨rfl, rfl⟩
  cases t9
  · go_enter Try.func79, Try.ntmps79
    go_wp2_with fail
    refine HE.out.mono ?_
    rintro e w' ⟨rfl, rfl⟩
    go_wp2_with fail
    refine HA.out.mono ?_
    rintro e w' ⟨rfl, rfl⟩
    go_wp2_with fail
    go_ret
    exact ⟨rfl, rfl⟩
  go_enter Try.func79, Try.ntmps79
  go_wp2_with fail
  refine HE.out.mono ?_
  rintro e w' ⟨rfl, rfl⟩
  go_wp2_with fail
  refine HA.out.mono ?_
  rintro e w' ⟨rfl, rfl⟩
  go_wp2_with fail
  go_ret
  exact ⟨rfl, rfl⟩
def St.tst (x : St) (s : StP) : Array Value := stC x.kind x.name s.pn x.names.length s.cn x.e.op x.e.word x.e.name s.pe x.e.args.len s.ce x.a.op x.a.word x.a.name s.pa x.a.args.len s.ca s.pg x.args.len s.cg x.low x.high s.pb x.body.len s.cb s.pl x.els.len s.cl
end Go.Proofs.Ytldjcnpkgbdlpaa
